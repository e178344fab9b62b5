/- The closure is made; Text. Text: a number's digits, the highest first. A text's number: is it digits, and its number, digit by digit. Parse: what a text's number is, or why there is none. Numbers' lengths; the contracts of Add, Mul, SameNat, Check with their slices in their form. The contracts once more, of numbers given by their digits: what a law's walk asks. Whole numbers: may one be, 0 in its place, a number with its sign. -/
import Derived.Laws.IdiomStrings
import Derived.Lib.ConvBytes
import Derived.Laws.Rows
import Derived.Test.YtimdinmhphihkaaGreatDoorGText
import Derived.Test.YtimdinmhphihkaaGreatDoorGPart
import Derived.Test.YtimdinmhphihkaaGreatDoorLay
import Derived.Test.YtimdinmhphihkaaGreatDoorGCmp
namespace Go.Proofs.YtimdinmhphihkaaGreatDoor
open Go Go.Proofs Go.RowKit Go.Shelf Nu

theorem Fresh.allocs {W : World} {base : Nat} {v : Value} {l : List Nat} (h : Fresh W base v l) (o : Obj) : Fresh (W.alloc o) base v l :=
  World.ownsRow.kept h (World.grownBy_alloc W o none) (by by_cases e : v.ownBlock = none; exact .inl e; exact .inr e)
theorem Fresh.below_size {W : World} {base : Nat} {v : Value} {l : List Nat} (h : Fresh W base v l) : v.ownBlock = none ∨ ∃ g, v.ownBlock = some g ∧ g < W.heap.size := by
  rcases h.form with ⟨rfl, _⟩ | ⟨g, cap, rfl, _⟩
  · exact .inl rfl
  · obtain ⟨_, hb, _⟩ := h.blk rfl
    exact .inr ⟨g, rfl, hb.lt⟩

theorem maker_inv {W : World} {base : Nat} {v : Value} {L : List Nat} (h : Fresh W base v L) (hs : Sm L) (hc : chk L = true) (hL : L.length ≤ 100000) :
    DigInv (((W.alloc (.cells #[v] 23)).alloc (.cells #[.int .u32 (0 : Nat)] 90)).alloc (.cells #[.int .i64 (0 : Nat)] 3)) base W.heap.size (val L) :=
  ⟨v, L, 0, 0, ((Boxed.new W _ _).alloc _).alloc _, (boxed_new1 W _ _ _).alloc _, boxed_new2 W _ _ _ _, ((h.allocs _).allocs _).allocs _, hs, hc, hL, by decide, by decide, by simp,
    h.below_size.imp id fun ⟨g, h1, h2⟩ => ⟨g, h1, h2⟩⟩
theorem maker_below {w W : World} {B : Nat} (h : Below B w W) (hB : B ≤ W.heap.size) (a b c : Obj) : Below B w (((W.alloc a).alloc b).alloc c) :=
  ((h.alloc hB a).alloc (by rw [World.size_alloc]; omega) b).alloc (by rw [World.size_alloc, World.size_alloc]; omega) c

set_option maxHeartbeats 4000000 in
theorem digits_any {w : World} {v : Value} {L : List Nat} (h : Reads w v L) (hs : Sm L) (hc : chk L = true) (hL : L.length ≤ 100000) :
    Calls Tryz.prog 156 #[v] w fun e w' => ∃ s, w.heap.size ≤ s ∧ e = .returned (.func (.func 216) #[] #[.pointer (some ⟨s + 1 + 1, 0, none⟩), .pointer (some ⟨s, 0, none⟩), .pointer (some ⟨s + 1, 0, none⟩)]) ∧ DigInv w' w.heap.size s (val L) ∧ Below w.heap.size w w' := by
  have kt := clone_any h (by omega)
  obtain ⟨a0, c0, rfl⟩ := h.form
  have hmf : ∀ (fn : Fn) (first cap : Array Value) (w : World), (Instr.makeFunc fn first cap).run Tryz.prog w = .ok (.func fn first cap) w := fun _ _ _ _ => rfl
  have H := Lib.hid h
  clear h
  go_enter Tryz.func156, Tryz.ntmps156
  go_wp2_with (go_at_call 142; refine kt.mono ?_; clear kt; rintro e w' ⟨v', rfl, hF', hB'⟩; obtain ⟨a1, c1, rfl⟩ := hF'.reads.form)
  all_goals
    go_ret
    have hsz : w.heap.size ≤ w'.heap.size := hB'.size
    exact ⟨w'.heap.size, hsz, rfl, maker_inv hF' hs hc hL, maker_below hB' hsz _ _ _⟩

end Go.Proofs.YtimdinmhphihkaaGreatDoor

namespace Go.Proofs.YtimdinmhphihkaaGreatDoor
open Go Go.Proofs Go.RowKit Go.Shelf Nu

attribute [local go_sem] Oper.semAt_some

def u8v (n : Nat) : Value := .int .u8 (n : Int)

/-- the digits, the lowest first, as bytes -/
def low (V : Nat) : List Nat := (48 + V % 10) :: (if h : V / 10 = 0 then [] else low (V / 10))
termination_by V
decreasing_by omega
theorem low_eq (V : Nat) : low V = (48 + V % 10) :: (if V / 10 != 0 then low (V / 10) else []) := by
  rw [low]
  by_cases h : V / 10 = 0
  · simp [h]
  · simp [h]
theorem low_pos (V : Nat) : 0 < (low V).length := by rw [low]; simp
theorem low_len (V k : Nat) (h : V < 10 ^ (k + 1)) : (low V).length ≤ k + 1 := by
  induction k generalizing V with
  | zero =>
    have : V / 10 = 0 := by simp at h; omega
    rw [low, dif_pos this]; simp
  | succ k ih =>
    rw [low]
    split
    · simp
    · have := ih (V / 10) (by rw [Nat.pow_succ] at h; omega)
      simpa using this
theorem low_len_val {L : List Nat} (hs : Sm L) : (low (val L)).length ≤ 10 * L.length + 1 := by
  refine low_len _ _ (Nat.lt_of_lt_of_le (val_lt hs) ?_)
  calc 4294967296 ^ L.length ≤ (10 ^ 10) ^ L.length := Nat.pow_le_pow_left (by decide) _
    _ = 10 ^ (10 * L.length) := by rw [← Nat.pow_mul]
    _ ≤ 10 ^ (10 * L.length + 1) := Nat.pow_le_pow_right (by decide) (by omega)

theorem info_u8 : (Tryz.prog.info? 5).map (fun i => (i.zero, i.size, i.bytes)) = some (some (.int .u8 0), 1, 1) := by kernel_rfl

theorem DigInv.below {w W : World} {base s V : Nat} (h : DigInv w base s V) (hb : Below (s + 3) w W) : DigInv W base s V := by
  obtain ⟨v, R, low, ready, h1, h2, h3, h4, h5, h6, h7, h8, h9, h10, h11⟩ := h
  refine ⟨v, R, low, ready, below_box hb (by omega) h1, below_box hb (by omega) h2, below_box hb (by omega) h3, ⟨h4.1, ?_⟩, h5, h6, h7, h8, h9, h10, h11⟩
  rcases h4.2 with hn | ⟨g, cap, cur, rfl, hb', hg, rest⟩
  · exact .inl hn
  · have hgs : g < s := by
      rcases h11 with h | ⟨g', h, h'⟩
      · cases h
      · cases h; exact h'
    exact .inr ⟨g, cap, cur, rfl, hb', (hb.block g (by omega)).trans hg, rest⟩

theorem below_append {W w3 : World} {base k n : Nat} {v : Value} {e : TypeId} {xs : List Value} {tmp : Obj} (hrow : W.ownsRow base e k v n xs) (hb : base ≤ W.heap.size) (hgrow : (W.alloc tmp).grownBy w3 v.ownBlock) : Below base W w3 := by
  refine ((Below.refl base W).alloc hb tmp).grown hgrow (by simp; omega) fun j ej => ?_
  rcases hrow.2 with ⟨rfl, _⟩ | ⟨g, cap, cur, rfl, hb', _, _⟩
  · simp [Value.ownBlock] at ej
  · obtain rfl : g = j := by simpa [Value.ownBlock] using ej
    exact hb'

def lenOf : Value → Nat
  | .slice _ n _ => n
  | _ => 0
theorem lenOf_row {W : World} {base k n : Nat} {v : Value} {e : TypeId} {xs : List Value} (h : W.ownsRow base e k v n xs) : lenOf v = n := by
  rcases h.2 with ⟨rfl, rfl⟩ | ⟨g, cap, cur, rfl, _⟩ <;> rfl
theorem low_byte {V x : Nat} (h : x ∈ low V) : x < 256 := by
  induction V using Nat.strongRecOn with
  | ind V ih =>
    rw [low] at h
    rcases List.mem_cons.1 h with rfl | h
    · omega
    · split at h
      · cases h
      · exact ih (V / 10) (by omega) h

set_option maxHeartbeats 4000000 in
/-- Text, of any number: one that may not be is as 0 -/
theorem text_gen {w : World} {v : Value} {L : List Nat} (h : Reads w v L) (hs : Sm L) (hL : L.length ≤ 100000) (S : ByteArray) (hS : S = ⟨((low (nv L)).reverse.map UInt8.ofNat).toArray⟩) :
    Calls Tryz.prog 67 #[v] w fun e w' => e = .returned (.string S) ∧ Below w.heap.size w w' := by
  obtain ⟨i0, hi, hz0, hz1, hz2⟩ := info_parts info_u8
  have k1 := flip (orZero_any h (by omega))
  have hO := orzV_reads h
  have hlo := orz_length L
  have kd := digits_any hO (sm_orz hs) (chk_orz L) (by omega)
  have hlen := low_len_val (sm_orz hs)
  rw [val_orz] at kd hlen
  obtain ⟨D, hD⟩ : ∃ D, D = (low (nv L)).length := ⟨_, rfl⟩
  obtain ⟨V, hV⟩ : ∃ V, V = nv L := ⟨_, rfl⟩
  rw [← hV] at hS hD hlen kd
  obtain ⟨a1, c1, e1⟩ := hO.form
  rw [e1] at k1 kd
  have HS := Lib.hid hS
  have HD := Lib.hid hD
  have hD1 : D ≤ 1000001 := by omega
  obtain ⟨a0, c0, rfl⟩ := h.form
  clear h hS hD hlen hV hO e1 hlo
  go_enter Tryz.func67, Tryz.ntmps67
  go_wp2_with (first
    | (go_at_call 125; refine k1.mono ?_; rintro e w' ⟨rfl, rfl⟩)
    | (go_at_call 156; refine kd.mono ?_; rintro e w1 ⟨s, hsw, rfl, hDI, hb1⟩))
  go_loopw [3, 5, 6] (fun v mo _ wr => ∃ (bs : List Nat) (M : Bool) (Vk : Nat), mo = .bool M ∧ wr.ownsRow (s + 3) 5 1 v bs.length (bs.map u8v) ∧ DigInv wr w.heap.size s Vk ∧ Below w.heap.size w wr ∧ Hid (bs ++ (if M then low Vk else []) = low V)) (fun v _ _ _ => D - lenOf v)
  case atStart => exact ⟨[], true, V, rfl, World.ownsRow_nil w1 _ _ 1, hDI, hb1, Lib.hid rfl⟩
  case round =>
    obtain ⟨bs, M, Vk, rfl, hrow, hDk, hbel, hR⟩ := hrel
    have hs3 : s + 3 ≤ wr.heap.size := by
      obtain ⟨_, _, _, _, _, _, h3, _⟩ := hDk
      have := h3.lt
      omega
    cases M with
    | true =>
      have hR2 := hR.out
      have hlt : bs.length < D := by
        have := congrArg List.length hR2
        have := low_pos Vk
        have := HD.out
        simp at *; omega
      rw [if_pos rfl, low_eq Vk] at hR2
      have kn := digits_call hDk hsw
      have HR := Lib.hid hR2
      clear hR2 hR
      obtain ⟨d, hd⟩ : ∃ d, d = 48 + Vk % 10 := ⟨_, rfl⟩
      have hdi : (48 : Int) + (Vk : Int) % 10 = (d : Int) := by omega
      rw [hdi] at kn
      obtain ⟨m, hm⟩ : ∃ m, m = (Vk / 10 != 0) := ⟨_, rfl⟩
      rw [← hm] at kn
      have HM := Lib.hid hm
      have HDG := Lib.hid hd
      have hds : d < 256 := by omega
      clear hm hd hdi
      go_wp2_with (first
        | (go_at_call 216; refine kn.mono ?_; clear kn; rintro e w2 ⟨rfl, hD2, hb2, hov⟩; have hrow2 := hov.row hrow; have hs4 : s + 3 ≤ w2.heap.size := Nat.le_trans hs3 hb2.size)
        | (at_builtin; refine wpList_append_own _ rfl _ _ 117 rfl (s + 3) 5 i0 (.int .u8 0) 1 1 Tryz.underlying117 hi hz0 hz1 hz2 rfl (by decide) _ _ _ rfl (World.ownsRow.alloc hrow2 _) ⟨w2.heap.size, 0, none⟩ 1 1 [_] rfl rfl (one_new _ _ _ _ (by simp)) (by simp [Value.oneCell']) (small_max (by omega)) (by omega) (by simp; omega) ?_; intro v' w3 hown' hgrow _; have hbl3 := below_append hrow2 hs4 hgrow))
      go_roundw
      case rel =>
        refine ⟨bs ++ [d], m, Vk / 10, rfl, ?_, hD2.below hbl3, (hbel.trans hb2).trans (hbl3.mono (by omega)), Lib.hid ?_⟩
        · rw [List.length_append, List.map_append, List.length_singleton, List.map_singleton]
          exact hown'
        · rw [HM.out, HDG.out, List.append_assoc]
          exact HR.out
      case measure =>
        rw [lenOf_row hrow, lenOf_row hown']
        omega
    | false =>
      have hR2 : bs = low V := by simpa using hR.out
      have hne := low_pos V
      rw [← hR2] at hne
      have hDl : bs.length = D := by rw [HD.out, hR2]
      obtain ⟨g, cap, rfl, hg⟩ : ∃ g cap, u3 = .slice (some ⟨g, 0, none⟩) bs.length cap ∧ s + 3 ≤ g := by
        rcases hrow.2 with ⟨_, h⟩ | ⟨g, cap, cur, h, hg, _⟩
        · omega
        · exact ⟨g, cap, h, hg⟩
      have hH : Sort.Holds u8v wr g 0 bs.toArray := fun j hj => by
        have hj' : j < bs.length := by simpa using hj
        have h1 := hrow.cells rfl j (u8v (bs[j])) (by simp [hj'])
        rw [Addr.add_lit] at h1
        refine ⟨?_, by rw [Nat.zero_add]; exact hrow.frozenAt j⟩
        rw [getElem!_pos _ j hj]
        simpa using h1
      have kr : Calls Tryz.prog 157 #[.slice (some ⟨g, 0, none⟩) bs.length cap] wr fun e w' => e = .returned (.tuple #[]) ∧ ∃ n, w' = Sort.putRow u8v (Sort.ahead wr n) g 0 bs.reverse.toArray :=
        AnyE.slices_Reverse YtimdinmhphihkaaGreatDoor.revB u8v (fun _ => rfl) g 0 cap bs wr hH (by omega)
      have hconv : ∀ n, (convert 117 9 (.slice (some ⟨g, 0, none⟩) bs.length cap)).run Tryz.prog (Sort.putRow u8v (Sort.ahead wr n) g 0 bs.reverse.toArray) = .ok (.string S) (Sort.putRow u8v (Sort.ahead wr n) g 0 bs.reverse.toArray) := fun n => by
        have hl : bs.length = (bs.reverse.map UInt8.ofNat).length := by simp
        rw [HS.out, ← hR2, hl]
        refine run_convert_bytes_back _ _ _ 5 _ _ _ (by kernel_rfl) (by kernel_rfl) (by kernel_rfl) fun j hj => ?_
        have hj' : j < bs.reverse.length := by simpa using hj
        have hc := Sort.cell?_putRow u8v (Sort.ahead wr n) g 0 bs.toArray bs.reverse.toArray (Sort.holds_ahead _ _ _ _ _ _ hH) (by simp) j (by simpa using hj')
        rw [Addr.add_lit]
        refine hc.trans ?_
        rw [getElem!_pos _ j (by simpa using hj')]
        have hlt : bs.reverse[j] < 256 := low_byte (V := V) (by rw [← hR2]; exact List.mem_reverse.1 (List.getElem_mem hj'))
        simp only [u8v, List.getElem_toArray, List.getElem_map, UInt8.toNat_ofNat', Option.some.injEq, Value.int.injEq, true_and]
        rw [Nat.mod_eq_of_lt hlt]
      have hbw : ∀ n, Below w.heap.size w (Sort.putRow u8v (Sort.ahead wr n) g 0 bs.reverse.toArray) := fun n => hbel.trans ⟨rfl, rfl, rfl, by simp [Sort.ahead], fun k hk => by
        have : g ≠ k := by omega
        simp [Sort.putRow, Sort.mapBlock, Array.getElem?_modify, this, Sort.ahead]⟩
      have HB := Lib.hid hbw
      clear hR2 hbw hH hrow hDk hR hDl hne
      go_wp2_with (go_at_call 157; refine kr.mono ?_; clear kr; rintro e w2 ⟨rfl, n, rfl⟩; have hcv := hconv n)
      go_ret
      exact ⟨rfl, HB.out n⟩
theorem text_any {w : World} {v : Value} {L : List Nat} (h : Reads w v L) (hs : Sm L) (hc : chk L = true) (hL : L.length ≤ 100000) (S : ByteArray) (hS : S = ⟨((low (val L)).reverse.map UInt8.ofNat).toArray⟩) :
    Calls Tryz.prog 67 #[v] w fun e w' => e = .returned (.string S) ∧ Below w.heap.size w w' :=
  text_gen h hs hL S (by rw [nv_chk hc]; exact hS)

end Go.Proofs.YtimdinmhphihkaaGreatDoor

namespace Go.Proofs.YtimdinmhphihkaaGreatDoor
open Go Go.Proofs Go.RowKit Go.Shelf Nu

attribute [local go_sem] Oper.semAt_some

/-- the byte at a place -/
def bt (s : ByteArray) (j : Nat) : Nat := (s.data.toList.getD j 0).toNat
theorem bt_lt (s : ByteArray) (j : Nat) : bt s j < 256 := (s.data.toList.getD j 0).toNat_lt

theorem bytes_conv (s : ByteArray) (w : World) : ∃ cap BW, (convert 9 117 (.string s)).run Tryz.prog w = .ok (.slice (some ⟨w.heap.size, 0, none⟩) s.size cap) BW ∧ Below w.heap.size w BW ∧ w.heap.size < BW.heap.size ∧ ∀ j, j < s.size → BW.cell? ⟨w.heap.size, j, none⟩ = some (.int .u8 (bt s j : Nat)) := by
  refine ⟨_, _, Lib.run_convert_string_bytes (P := Tryz.prog) (u := .string) w 9 117 5 s (by kernel_rfl) (by kernel_rfl) (by kernel_rfl), ?_, ?_, ?_⟩
  · exact ⟨rfl, rfl, rfl, by rw [Lib.bytesWorld_size]; omega, fun k hk => Lib.bytesWorld_at_old w _ s k hk⟩
  · rw [Lib.bytesWorld_size]; omega
  · intro j hj; exact Lib.bytesWorld_cell w _ s j hj

/-- is it digits, none of them needless? -/
def isNum (s : ByteArray) : Prop := (∀ j, j < s.size → 48 ≤ bt s j ∧ bt s j ≤ 57) ∧ (s.size = 1 ∨ 1 < s.size ∧ bt s 0 ≠ 48)

set_option maxRecDepth 100000 in
set_option maxHeartbeats 2000000 in
theorem isNumber_any (s : ByteArray) (w : World) (hs : s.size ≤ 2000000) (R : Bool) (hR : R = true ↔ isNum s) :
    Calls Tryz.prog 131 #[.string s] w fun e w' => e = .returned (.bool R) ∧ Below w.heap.size w w' := by
  obtain ⟨cap, BW, hconv, hbel, hlt, hcell⟩ := bytes_conv s w
  have HR := Lib.hid hR
  obtain ⟨N, hN⟩ : ∃ N, N = s.size := ⟨_, rfl⟩
  have HN := Lib.hid hN
  have hN1 : N ≤ 2000000 := by omega
  have HB := Lib.hid hbel
  rw [← hN] at hcell hconv
  clear hR hN hbel hs
  go_enter Tryz.func131, Tryz.ntmps131
  go_wp2
  go_loop [4, 8] (fun _ x => ∃ k : Nat, k ≤ N ∧ x = .int .i64 k ∧ Hid (∀ j, j < k → 48 ≤ bt s j ∧ bt s j ≤ 57)) (fun _ x => N - (intOf x).toNat)
  case atStart => exact ⟨0, Nat.zero_le _, rfl, Lib.hid fun j hj => by omega⟩
  case round =>
    obtain ⟨k, hk, rfl, hd⟩ := hrel
    by_cases hlt : k < N
    · have hc := hcell k hlt
      obtain ⟨c, hce⟩ : ∃ c, c = bt s k := ⟨_, rfl⟩
      have hc256 := bt_lt s k
      rw [← hce] at hc hc256
      have HC := Lib.hid hce
      clear hce hcell
      by_cases h1 : c < 48
      · go_wp2
        go_ret
        have : R = false := by
          cases R with
          | false => rfl
          | true => have := (HR.out.1 rfl).1 k (by have := HN.out; omega); have := HC.out; omega
        exact ⟨by rw [this]; rfl, HB.out⟩
      · by_cases h2 : 57 < c
        · go_wp2
          go_ret
          have : R = false := by
            cases R with
            | false => rfl
            | true => have := (HR.out.1 rfl).1 k (by have := HN.out; omega); have := HC.out; omega
          exact ⟨by rw [this]; rfl, HB.out⟩
        · go_wp2
          go_round
          case rel => exact ⟨k + 1, by omega, by simp, Lib.hid fun j hj => by
            by_cases e : j = k
            · subst e; rw [← HC.out]; omega
            · exact hd.out j (by omega)⟩
          case measure => simp [intOf]; omega
    · obtain rfl : k = N := by omega
      clear hcell
      have hn := HN.out
      by_cases s1 : s.size = 1
      · go_wp2
        go_ret
        have : R = true := HR.out.2 ⟨fun j hj => hd.out j (by omega), .inl s1⟩
        exact ⟨by rw [this]; exact ret_bool (by simp), HB.out⟩
      · by_cases s2 : 1 < s.size
        · have s3 : ((s.size : Int) == 1) = false := by simp; omega
          have S1 := Lib.hid s1
          clear s1 hn
          go_wp2
          go_ret
          refine ⟨ret_bool ?_, HB.out⟩
          rw [Bool.eq_iff_iff, HR.out]
          have e : s[0].toNat = bt s 0 := by
            unfold bt
            rw [List.getD_eq_getElem?_getD, List.getElem?_eq_getElem (by simpa using (show 0 < s.size by omega))]
            rfl
          rw [e]
          try simp only [s3, Bool.false_or]
          constructor
          · intro h
            exact ⟨fun j hj => hd.out j (by have := HN.out; omega), .inr ⟨s2, by simp at h; omega⟩⟩
          · rintro ⟨_, h | ⟨_, h⟩⟩
            · exact absurd h S1.out
            · simp; omega
        · go_wp2
          go_ret
          have : R = false := by
            cases R with
            | false => rfl
            | true => rcases (HR.out.1 rfl).2 with h | h <;> omega
          exact ⟨by rw [this]; exact ret_bool (by first | rfl | (simp; omega)), HB.out⟩

/-- what holds between two rounds of timesAnd's loop -/
def AndInv (w : World) (g : Nat) (post : List Value) (l : List Nat) (t m : Nat) (va : Value) (k : Nat) (W : World) : Prop :=
  (∃ (cur : List Nat) (c : Nat), Blk W g [] cur post ∧ cur.length = l.length ∧ Sm cur ∧ c < 4294967296 ∧ cur.drop k = l.drop k ∧ val (cur.take k) + 4294967296 ^ k * c = m + t * val (l.take k) ∧ Boxed W (w.heap.size + 1 + 1) 76 (.int .u64 c)) ∧
  Boxed W w.heap.size 23 va ∧ Boxed W (w.heap.size + 1) 90 (.int .u32 t) ∧ Boxed W (w.heap.size + 1 + 1 + 1) 23 va ∧ w.grownBy W (some g)

theorem and_step {l cur : List Nat} {k c t m : Nat} (hk : k < cur.length) (_hd : cur.drop k = l.drop k) (h : val (cur.take k) + 4294967296 ^ k * c = m + t * val (l.take k)) :
    val ((cur.set k ((c + l.getD k 0 * t) % 4294967296)).take (k + 1)) + 4294967296 ^ (k + 1) * ((c + l.getD k 0 * t) / 4294967296) = m + t * val (l.take (k + 1)) := by
  rw [set_take _ _ _ hk, val_snoc, val_take_succ l, List.length_take, Nat.min_eq_left (Nat.le_of_lt hk), Nat.pow_succ]
  have := Nat.div_add_mod (c + l.getD k 0 * t) 4294967296
  generalize (c + l.getD k 0 * t) / 4294967296 = q at *
  generalize (c + l.getD k 0 * t) % 4294967296 = r at *
  generalize 4294967296 ^ k = P at *
  generalize l.getD k 0 = x at *
  generalize val (cur.take k) = A at *
  generalize val (l.take k) = B at *
  grind

theorem and_bound {c P : Nat} (hc : c < 4294967296) (hP : P ≤ 18446744065119617025) : c + P < 18446744073709551616 ∧ (c + P) / 4294967296 < 4294967296 := by omega

set_option maxRecDepth 100000 in
set_option maxHeartbeats 4000000 in
/-- timesAnd, of what is not nil -/
theorem timesAnd_some {w : World} {base g cap t m : Nat} {l : List Nat} (hF : Fresh w base (.slice (some ⟨g, 0, none⟩) l.length cap) l) (hl : l.length ≤ 100000) (hs : Sm l) (ht : t < 4294967296) (hm : m < 4294967296) :
    Calls Tryz.prog 132 #[.slice (some ⟨g, 0, none⟩) l.length cap, .int .u32 t, .int .u32 m] w fun e w' => ∃ v', e = .returned v' ∧ Fresh w' base v' (digs (t * val l + m)) ∧ Below base w w' := by
  obtain ⟨i0, hi, hz0, hz1, hz2⟩ := info_parts info_u32
  obtain ⟨post, hb, hbg, hpc, hcm⟩ := hF.blk rfl
  have hgw := hb.lt
  have hncap : l.length ≤ cap := by omega
  obtain ⟨n, hn⟩ : ∃ n, n = l.length := ⟨_, rfl⟩
  have HN := Lib.hid hn
  rw [← hn] at hl hncap ⊢
  clear hn hF
  refine (callsIn_wide (n := 0)).1 ?_
  refine callsIn_of_wp_marks Tryz.func132 rfl trivial ?_ rfl
  simp only [Tryz.ntmps132, List.size_toArray, List.length_cons, List.length_nil, Nat.reduceAdd, Nat.reduceSub, Array.replicate_succ, Array.replicate_zero, List.push_toArray, List.append_toArray, List.nil_append, List.cons_append]
  refine wpIn_wide.2 ?_
  go_wp2_with (go_at_call 209; refine (all_any _ _ _ _).mono ?_; rintro e w' ⟨rfl, rfl⟩)
  refine (wpIn_wide (n := 0)).1 ?_
  refine wp_rangeAt (gf := 241) rfl (enters_of Tryz.func241 (by kernel_rfl) rfl)
    (all_iter n g 0 cap (w.heap.size + 1 + 1 + 1) _ (fun j => l.getD j 0) (by omega) (fun _ => rfl)) (fun _ => rfl)
    (AndInv w g post l t m (.slice (some ⟨g, 0, none⟩) n cap)) (fun _ _ => False) ?own (fun _ _ _ _ h _ _ => h) ?reads ?start ?round ?done ?stop
  case own =>
    rintro k W W' r ⟨⟨cur, c, h1, h2, h3, h4, h5, h6, h7⟩, g1, g2, g3, g4⟩ hg hr
    exact ⟨⟨cur, c, h1.keep hg hr, h2, h3, h4, h5, h6, keepBox h7 hg hr⟩, keepBox g1 hg hr, keepBox g2 hg hr, keepBox g3 hg hr, grown_keep g4 (by simp; omega) hg hr⟩
  case reads =>
    rintro k W ⟨⟨cur, c, h1, h2, h3, h4, h5, h6, h7⟩, g1, g2, g3, g4⟩
    refine ⟨g3.cell, fun hk => ?_⟩
    have e := h1.cell (o := 0) rfl k (by have := HN.out; omega)
    rw [getD_of_drop h5 k (Nat.le_refl _)] at e
    exact e
  case start =>
    refine ⟨⟨l, m, (((hb.alloc _).alloc _).alloc _).alloc _, rfl, hs, hm, rfl, by simp [val], (boxed_new2 w _ _ _ _).alloc _⟩, (((Boxed.new w _ _).alloc _).alloc _).alloc _, ((boxed_new1 w _ _ _).alloc _).alloc _, boxed_new3 w _ _ _ _ _, ?_⟩
    exact grown_alloc (grown_alloc (grown_alloc (grown_alloc (grown_refl w _) _) _) _) _
  case round =>
    intro lp k W hk
    have hx := hs.getD k
    obtain ⟨x, hxe⟩ : ∃ x, x = l.getD k 0 := ⟨_, rfl⟩
    dsimp only
    rw [← hxe]
    rw [← hxe] at hx
    have HX := Lib.hid hxe
    clear hxe hb hs
    gi_wp2
    refine NextRound.mk ?_
    rintro W2 ⟨⟨cur, c, h1, h2, h3, h4, h5, h6, h7⟩, g1, g2, g3, g4⟩
    have hkc : k < cur.length := by rw [h2, ← HN.out]; exact hk
    have r1 := h1.cell (o := 0) rfl k hkc
    have r2 := h1.frozen k
    rw [Nat.zero_add] at r1
    obtain ⟨y, hy⟩ : ∃ y, y = cur.getD k 0 := ⟨_, rfl⟩
    rw [← hy] at r1
    clear hy
    obtain ⟨P, hP, HP, hPb⟩ := mul_bound hx ht
    have hcb := and_bound h4 hPb
    have HP' := Lib.hid HP
    have H2 := Lib.hid h2
    have H5 := Lib.hid h5
    have H6 := Lib.hid h6
    have q1 := h7.cell
    have q2 := h7.frozen
    have q3 := g1.cell
    have q4 := g2.cell
    clear h2 h5 h6 HP
    gi_wp2
    have hgS : g ≠ w.heap.size + 1 + 1 := by omega
    refine ⟨(((KeepsOthers.setCell W2 _ _).trans (KeepsOthers.setCell _ _ _)).trans (KeepsOthers.setCell _ _ _)).from _,
      ⟨cur.set k ((c + P) % 4294967296), (c + P) / 4294967296, ?_, ?_, h3.set _ _ (by omega), hcb.2, ?_, ?_, ?_⟩, ?_, ?_, ?_, ?_⟩
    · have e := ((h1.box hgS (.int .u64 ((c : Int) + (P : Int)))).set (o := 0) rfl k ((c + P) % 4294967296) hkc).box hgS (.int .u64 (((c : Int) + (P : Int)) / 4294967296))
      rw [show (((c + P) % 4294967296 : Nat) : Int) = ((c : Int) + (P : Int)) % 4294967296 by omega, Nat.zero_add] at e
      exact e
    · rw [List.length_set]; exact H2.out
    · rw [set_drop]; exact drop_succ_of_drop H5.out
    · have e := and_step hkc H5.out H6.out
      rw [← HX.out, ← HP'.out] at e
      exact e
    · rw [show (((c + P) / 4294967296 : Nat) : Int) = ((c : Int) + (P : Int)) / 4294967296 by omega]
      exact (boxed_row (h7.set _) (by omega) _).set _
    · exact (boxed_row (g1.other (by omega) _) (by omega) _).other (by omega) _
    · exact (boxed_row (g2.other (by omega) _) (by omega) _).other (by omega) _
    · exact (boxed_row (g3.other (by omega) _) (by omega) _).other (by omega) _
    · exact grown_box (grown_setCell (grown_box g4 (by omega) _) _ _) (by omega) _
  case done =>
    rintro D W hD ⟨⟨cur, c, h1, h2, h3, h4, h5, h6, h7⟩, g1, g2, g3, g4⟩ hK
    have hn := HN.out
    rw [List.take_of_length_le (by omega), List.take_of_length_le (by omega)] at h6
    have hcl : cur.length = n := by omega
    have hW := h1.fresh (base := base) (cap := cap) hbg (by omega) hcm
    rw [hcl] at hW
    have q1 := h7.cell
    have q3 := g1.cell
    have hww : w.heap.size ≤ W.heap.size := g4.size
    have H6 := Lib.hid h6
    have HCL := Lib.hid hcl
    have hW' : W.ownsRow base 90 1 (.slice (some ⟨g, 0, none⟩) n cap) n (cur.map u32v) := by unfold Fresh at hW; rw [hcl] at hW; exact hW
    clear h2 h5 h6 hcl hn hb hs
    go_wp2_with (first
      | (at_builtin; go_loud (refine wpList_append_own _ rfl _ _ 23 rfl base 90 i0 (.int .u32 0) 1 4 Tryz.underlying23 hi hz0 hz1 hz2 rfl (by decide) _ _ _ rfl (World.ownsRow.alloc hW' _) ⟨W.heap.size, 0, none⟩ 1 1 [_] rfl rfl (one_new _ _ _ _ (by simp)) (by simp [Value.oneCell']) (small_max (by omega)) (by omega) (by simp; omega) ?_); intro v' w3 hown' hgrow _; obtain ⟨g', cap', rfl⟩ := ownsRow_succ hown'; obtain ⟨hF, hKO, hBl, hBx, hNo⟩ := fresh_append (c % 4294967296) hW (by omega) (by rw [HCL.out]; exact hown') hgrow (by omega); have hK3 := hNo D _ hK rfl; clear hBx hown' hgrow hNo)
      | (go_at_call 127; refine (trim_fresh hF (by simp [HCL.out]) (by simp [HCL.out]; omega)).mono ?_; rintro e w' ⟨rfl, rfl⟩))
    have e1 : val (cur ++ [c % 4294967296]) = t * val l + m := by
      rw [val_snoc, HCL.out, Nat.mod_eq_of_lt h4, H6.out, Nat.add_comm]
    have hR := hF.trim' (by simp [HCL.out]) (h3.snoc (by omega))
    rw [e1] at hR
    refine ⟨by simp, .inl ⟨_, _, rfl, run_takeDeferred hK3, ?_⟩⟩
    refine ⟨_, results_tmp rfl _ _ _, _, rfl, hR.left _ hK3 rfl, ?_⟩
    refine ((((Below.refl base w).grown g4 (by omega) (fun j e => by cases e; exact hbg))).trans hBl).grown (grownBy_putObj' _ D _) ?_ (fun j e => ?_)
    · have := hBl.size; omega
    · cases e; simp at hD; omega
  case stop =>
    rintro D c W _ h _
    exact h.elim

set_option maxHeartbeats 1000000 in
/-- timesAnd, of nil -/
theorem timesAnd_nil {w : World} (t m : Nat) (_ht : t < 4294967296) (hm : m < 4294967296) :
    Calls Tryz.prog 132 #[.slice none 0 0, .int .u32 t, .int .u32 m] w fun e w' => ∃ v', e = .returned v' ∧ Fresh w' w.heap.size v' (digs m) ∧ Below w.heap.size w w' := by
  obtain ⟨i0, hi, hz0, hz1, hz2⟩ := info_parts info_u32
  refine (callsIn_wide (n := 0)).1 ?_
  refine callsIn_of_wp_marks Tryz.func132 rfl trivial ?_ rfl
  simp only [Tryz.ntmps132, List.size_toArray, List.length_cons, List.length_nil, Nat.reduceAdd, Nat.reduceSub, Array.replicate_succ, Array.replicate_zero, List.push_toArray, List.append_toArray, List.nil_append, List.cons_append]
  refine wpIn_wide.2 ?_
  go_wp2_with (go_at_call 209; refine (all_any _ _ _ _).mono ?_; rintro e w' ⟨rfl, rfl⟩)
  refine (wpIn_wide (n := 0)).1 ?_
  refine wp_rangeAt (gf := 241) rfl (enters_of Tryz.func241 (by kernel_rfl) rfl)
    (all_iter 0 0 0 0 (w.heap.size + 1 + 1 + 1) none (fun _ => 0) (by omega) (fun h => by omega)) (fun _ => rfl)
    (fun _ W => Boxed W w.heap.size 23 (.slice none 0 0) ∧ Boxed W (w.heap.size + 1 + 1) 76 (.int .u64 m) ∧ Boxed W (w.heap.size + 1 + 1 + 1) 23 (.slice none 0 0) ∧ Below w.heap.size w W) (fun _ _ => False) ?own (fun _ _ _ _ h _ _ => h) ?reads ?start ?round ?done ?stop
  case own =>
    rintro k W W' r ⟨h1, h2, h3, h4⟩ hg hr
    exact ⟨keepBox h1 hg hr, keepBox h2 hg hr, keepBox h3 hg hr, keepBelow h4 (Nat.le_refl _) (by simp; omega) hg hr⟩
  case reads =>
    rintro k W ⟨h1, h2, h3, h4⟩
    exact ⟨h3.cell, fun h => by omega⟩
  case start =>
    exact ⟨(((Boxed.new w _ _).alloc _).alloc _).alloc _, (boxed_new2 w _ _ _ _).alloc _, boxed_new3 w _ _ _ _ _, ((((Below.refl _ w).alloc (Nat.le_refl _) _).alloc (by simp) _).alloc (by simp; omega) _).alloc (by simp; omega) _⟩
  case round =>
    intro lp k W hk
    omega
  case done =>
    rintro D W hD ⟨h1, h2, h3, h4⟩ hK
    have q1 := h1.cell
    have q2 := h2.cell
    have hW := Fresh.nil W w.heap.size
    have hbS : w.heap.size ≤ W.heap.size := h4.size
    go_wp2_with (first
      | (at_builtin; refine wpList_append_own _ rfl _ _ 23 rfl w.heap.size 90 i0 (.int .u32 0) 1 4 Tryz.underlying23 hi hz0 hz1 hz2 rfl (by decide) _ _ _ rfl (World.ownsRow.alloc hW _) ⟨W.heap.size, 0, none⟩ 1 1 [_] rfl rfl (one_new _ _ _ _ (by simp)) (by simp [Value.oneCell']) (small_max (by simp)) (by simp) (by simp; omega) ?_; intro v' w3 hown' hgrow _; obtain ⟨g', cap', rfl⟩ := ownsRow_succ hown'; obtain ⟨hF, hKO, hBl, hBx, hNo⟩ := fresh_append m hW hbS hown' hgrow (by omega); have hK3 := hNo D _ hK rfl; clear hBx hown' hgrow hNo)
      | (go_at_call 127; refine (trim_fresh hF (by simp) (by simp)).mono ?_; rintro e w' ⟨rfl, rfl⟩))
    have hR := hF.trim' (by simp) (Sm.cons hm Sm.nil)
    rw [List.nil_append, val_one] at hR
    refine ⟨by simp, .inl ⟨_, _, rfl, run_takeDeferred hK3, ?_⟩⟩
    exact ⟨_, results_tmp rfl _ _ _, _, rfl, hR.left _ hK3 rfl, below_left _ (h4.trans hBl) (by simp at hD; omega) hK3 rfl⟩
  case stop =>
    rintro D c W _ h _
    exact h.elim
/-- timesAnd -/
theorem timesAnd_any {w : World} {base t m : Nat} {v : Value} {l : List Nat} (hF : Fresh w base v l) (hb : base ≤ w.heap.size) (hl : l.length ≤ 100000) (hs : Sm l) (ht : t < 4294967296) (hm : m < 4294967296) :
    Calls Tryz.prog 132 #[v, .int .u32 t, .int .u32 m] w fun e w' => ∃ v', e = .returned v' ∧ Fresh w' base v' (digs (t * val l + m)) ∧ Below base w w' := by
  rcases hF.form with ⟨rfl, rfl⟩ | ⟨g, cap, rfl, _⟩
  · refine (timesAnd_nil t m ht hm).mono ?_
    rintro e w' ⟨v', rfl, h1, h2⟩
    exact ⟨v', rfl, by simpa [val] using h1.mono hb, h2.mono hb⟩
  · exact timesAnd_some hF hl hs ht hm

end Go.Proofs.YtimdinmhphihkaaGreatDoor

namespace Go.Proofs.YtimdinmhphihkaaGreatDoor
open Go Go.Proofs Go.RowKit Go.Shelf Nu

/-- the number of the first digits -/
def numv (s : ByteArray) : Nat → Nat
  | 0 => 0
  | k + 1 => 10 * numv s k + (bt s k - 48)
theorem numv_lt (s : ByteArray) (k : Nat) (h : ∀ j, j < k → bt s j ≤ 57) : numv s k < 10 ^ k := by
  induction k with
  | zero => simp [numv]
  | succ k ih =>
    have h1 := ih (fun j hj => h j (by omega))
    have h2 := h k (by omega)
    rw [numv, Nat.pow_succ]
    omega
theorem numv_len (s : ByteArray) (k : Nat) (h : ∀ j, j < k → bt s j ≤ 57) : (digs (numv s k)).length ≤ k :=
  digs_length_le (Nat.lt_of_lt_of_le (numv_lt s k h) (Nat.pow_le_pow_left (by decide) k))

set_option maxHeartbeats 1000000 in
theorem parse_form (s : ByteArray) (w : World) (hs : s.size ≤ 2000000) (h : ¬ isNum s) :
    Calls Tryz.prog 47 #[.string s] w fun e w' => e = .returned (.tuple #[.slice none 0 0, .int .i64 4]) ∧ Below w.heap.size w w' := by
  have k1 := isNumber_any s w hs false (by simpa using h)
  clear h
  go_enter Tryz.func47, Tryz.ntmps47
  go_wp2_with (go_at_call 131; refine k1.mono ?_; rintro e w' ⟨rfl, hb⟩)
  go_ret2
  exact ⟨rfl, hb⟩
set_option maxHeartbeats 1000000 in
theorem parse_limit (s : ByteArray) (w : World) (hs : s.size ≤ 2000000) (h : isNum s) (hl : 200 < s.size) :
    Calls Tryz.prog 47 #[.string s] w fun e w' => e = .returned (.tuple #[.slice none 0 0, .int .i64 3]) ∧ Below w.heap.size w w' := by
  have k1 := isNumber_any s w hs true (by simpa using h)
  clear h
  go_enter Tryz.func47, Tryz.ntmps47
  go_wp2_with (go_at_call 131; refine k1.mono ?_; rintro e w' ⟨rfl, hb⟩)
  go_ret2
  exact ⟨rfl, hb⟩
set_option maxHeartbeats 2000000 in
set_option maxRecDepth 100000 in
theorem parse_ok (s : ByteArray) (w : World) (h : isNum s) (hl : s.size ≤ 200) :
    Calls Tryz.prog 47 #[.string s] w fun e w' => ∃ v, e = .returned (.tuple #[v, .int .i64 0]) ∧ Fresh w' w.heap.size v (digs (numv s s.size)) ∧ Below w.heap.size w w' := by
  have k1 := isNumber_any s w (by omega) true (by simpa using h)
  obtain ⟨N, hN⟩ : ∃ N, N = s.size := ⟨_, rfl⟩
  have HN := Lib.hid hN
  have hd : Hid (∀ j, j < N → 48 ≤ bt s j ∧ bt s j ≤ 57) := Lib.hid fun j hj => h.1 j (by omega)
  clear hN h
  rw [← HN.out] at hl ⊢
  go_enter Tryz.func47, Tryz.ntmps47
  have hsz : ¬ (200 : Int) < (s.size : Int) := by have := HN.out; omega
  go_wp2_with (go_at_call 131; refine k1.mono ?_; rintro e w1 ⟨rfl, hb1⟩; obtain ⟨cap, BW, hconv, hbel, hlt, hcell⟩ := bytes_conv s w1; rw [← HN.out] at hconv hcell; have HB := Lib.hid hbel; have HC := Lib.hid hcell; clear hbel hcell)
  go_loopw [4, 6, 18] (fun v _ x wr => ∃ k : Nat, k ≤ N ∧ x = .int .i64 k ∧ Fresh wr (w1.heap.size + 1) v (digs (numv s k)) ∧ Below (w1.heap.size + 1) BW wr) (fun _ _ x _ => N - (intOf x).toNat)
  case atStart => exact ⟨0, Nat.zero_le _, rfl, by rw [show numv s 0 = 0 from rfl, digs_zero]; exact Fresh.nil _ _, Below.refl _ _⟩
  case round =>
    obtain ⟨k, hk, rfl, hF, hkeep⟩ := hrel
    have hks := hkeep.size
    by_cases hkN : k < N
    · have hdk := hd.out k hkN
      have r1 := (hkeep.cell (p := ⟨w1.heap.size, k, none⟩) (show w1.heap.size < w1.heap.size + 1 by omega)).trans (HC.out k hkN)
      obtain ⟨m, hm⟩ : ∃ m, m = bt s k - 48 := ⟨_, rfl⟩
      rw [show ((bt s k : Nat) : Int) = (m : Int) + 48 by omega] at r1
      have hm9 : m ≤ 9 := by omega
      have u1 : IntKind.u8.wrap ((m : Int) + 48 - 48) = (m : Int) := by rw [IntKind.wrap_u8']; omega
      have u2 : (m : Int) + 48 - 48 = (m : Int) := by omega
      have hlen : (digs (numv s k)).length ≤ 100000 := by
        have := numv_len s k (fun j hj => (hd.out j (by omega)).2)
        omega
      have kt := timesAnd_any (t := 10) (m := m) hF (by omega) hlen (sm_digs _) (by omega) (by omega)
      rw [val_digs, show 10 * numv s k + m = numv s (k + 1) by rw [numv, hm]] at kt
      have HM := Lib.hid hm
      clear hm hdk
      go_wp2_with (go_at_call 132; refine kt.mono ?_; rintro e w3 ⟨v', rfl, hF3, hb3⟩)
      go_roundw
      case rel => exact ⟨k + 1, by omega, by simp, hF3, hkeep.trans hb3⟩
      case measure => simp [intOf]; omega
    · obtain rfl : k = N := by omega
      go_wp2
      go_ret2
      have hw1 := hb1.size
      exact ⟨_, rfl, hF.mono (by omega), (hb1.trans (HB.out.mono hw1)).trans (hkeep.mono (by omega))⟩

end Go.Proofs.YtimdinmhphihkaaGreatDoor

namespace Go.Proofs.YtimdinmhphihkaaGreatDoor
open Go Go.Proofs Go.RowKit Go.Shelf Nu

theorem nv_digs (n : Nat) : nv (digs n) = n := by rw [nv_chk (chk_digs n), val_digs]
theorem len_add {a b i j : Nat} (ha : a < 4294967296 ^ i) (hb : b < 4294967296 ^ j) : a + b < 4294967296 ^ (i + j + 1) := by
  have h1 : 4294967296 ^ i ≤ 4294967296 ^ (i + j) := Nat.pow_le_pow_right (by decide) (by omega)
  have h2 : 4294967296 ^ j ≤ 4294967296 ^ (i + j) := Nat.pow_le_pow_right (by decide) (by omega)
  rw [Nat.pow_succ]
  omega
theorem of_chk {l : List Nat} (hs : Sm l) (hc : chk l = true) : ∃ A, l = digs A := ⟨val l, (digs_val hs hc).symm⟩
theorem digs_inj {a b : Nat} (h : digs a = digs b) : a = b := by rw [← val_digs a, h, val_digs]
theorem digs_le_iff {n k : Nat} : (digs n).length ≤ k ↔ n < 4294967296 ^ k := by
  refine ⟨fun h => ?_, digs_length_le⟩
  have := val_lt (sm_digs n)
  rw [val_digs] at this
  exact Nat.lt_of_lt_of_le this (Nat.pow_le_pow_right (by decide) h)
theorem digs_lt (n : Nat) : n < 4294967296 ^ (digs n).length := digs_le_iff.1 (Nat.le_refl _)
theorem digs_mono {a b : Nat} (h : a ≤ b) : (digs a).length ≤ (digs b).length := digs_le_iff.2 (Nat.lt_of_le_of_lt h (digs_lt b))
theorem digs_add_le (a b : Nat) : (digs (a + b)).length ≤ (digs a).length + (digs b).length + 1 := digs_le_iff.2 (len_add (digs_lt a) (digs_lt b))
theorem digs_nil_iff {n : Nat} : (digs n).length = 0 ↔ n = 0 := by
  rw [List.length_eq_zero_iff]; exact digs_eq_nil
theorem digs_len_pos {n : Nat} (h : n ≠ 0) : 0 < (digs n).length := by
  rcases Nat.eq_zero_or_pos (digs n).length with h1 | h1
  · exact absurd (digs_nil_iff.1 h1) h
  · exact h1

end Go.Proofs.YtimdinmhphihkaaGreatDoor

namespace Go.Proofs.YtimdinmhphihkaaGreatDoor
open Go Go.Proofs Go.RowKit Go.Shelf Nu

section
variable {w : World} {p1 p2 : Option Addr} {q1 q2 A B : Nat}
theorem d_cmp (z : Int) (h1 : Reads w (.slice p1 (digs A).length q1) (digs A)) (h2 : Reads w (.slice p2 (digs B).length q2) (digs B)) (l1 : (digs A).length ≤ 100000) (l2 : (digs B).length ≤ 100000) (h : sgn A B = z) :
    Calls Tryz.prog 140 #[.slice p1 (digs A).length q1, .slice p2 (digs B).length q2] w fun e w' => e = .returned (.int .i64 z) ∧ Below w.heap.size w w' := by
  have k := cmp_any h1 h2 l1 l2 (sm_digs _) (sm_digs _)
  rwa [nv_digs, nv_digs, h] at k
end

end Go.Proofs.YtimdinmhphihkaaGreatDoor

namespace Go.Proofs.YtimdinmhphihkaaGreatDoor
open Go Go.Proofs Go.RowKit Go.Shelf Nu

attribute [local go_sem] Oper.semAt_some

/-- may a whole number be? -/
def ichk (n : Bool) (l : List Nat) : Bool := chk l && (!n || decide (0 < l.length))
/-- its sign, its parts; those of 0, if it may not be -/
def izN (n : Bool) (l : List Nat) : Bool := n && ichk n l
def izL (n : Bool) (l : List Nat) : List Nat := if ichk n l then l else []
def izS (n : Bool) (v : Value) (l : List Nat) : Value := if ichk n l then v else .slice none 0 0
/-- a whole number of a sign and an amount -/
def zz (n : Bool) (A : Nat) : Int := if n then -(A : Int) else (A : Int)

theorem izS_reads {W : World} {n : Bool} {v : Value} {l : List Nat} (h : Reads W v l) : Reads W (izS n v l) (izL n l) := by
  unfold izS izL
  split
  · exact h
  · exact Reads.nil W
theorem izL_digs {n : Bool} {l : List Nat} (hs : Sm l) : ∃ A, izL n l = digs A ∧ (izN n l = true → 0 < A) ∧ (digs A).length ≤ l.length := by
  unfold izL izN
  cases h : ichk n l with
  | false => exact ⟨0, by simp [digs_zero], by simp, by simp [digs_zero]⟩
  | true =>
    have hc : chk l = true := by unfold ichk at h; simp at h; exact h.1
    refine ⟨val l, by simp [digs_val hs hc], fun hn => ?_, by rw [digs_val hs hc]; exact Nat.le_refl _⟩
    have h2 : 0 < l.length := by
      unfold ichk at h; simp at h hn
      rcases h.2 with h2 | h2
      · rw [hn] at h2; cases h2
      · exact h2
    rcases Nat.eq_zero_or_pos (val l) with h3 | h3
    · have := digs_val hs hc
      rw [h3, digs_zero] at this
      rw [← this] at h2; simp at h2
    · exact h3

set_option maxHeartbeats 2000000 in
theorem icheck_any {w : World} {n : Bool} {v : Value} {l : List Nat} (h : Reads w v l) (hl : l.length ≤ 1000000) :
    Calls Tryz.prog 55 #[.agg #[.bool n, v]] w fun e w' => e = .returned (.bool (ichk n l)) ∧ Below w.heap.size w w' := by
  have kb : ∀ W, Below w.heap.size w W → _ := fun W hW => check_any (h.below hW) hl
  obtain ⟨a, c, rfl⟩ := h.form
  obtain ⟨R, hR⟩ : ∃ R, R = chk l := ⟨_, rfl⟩
  rw [← hR] at kb
  have e : ichk n l = (R && (!n || decide (0 < l.length))) := by rw [hR]; rfl
  rw [e]
  clear h hR e hl
  cases R with
  | false =>
    go_enter Tryz.func55, Tryz.ntmps55
    go_wp2_with (go_at_call 56; refine (kb _ (by first | assumption | exact (Below.refl _ _).alloc (Nat.le_refl _) _)).mono ?_; rintro e w' ⟨rfl, rfl⟩)
    go_ret
    exact ⟨by simp, (Below.refl _ _).alloc (Nat.le_refl _) _⟩
  | true =>
    cases n with
    | false =>
      go_enter Tryz.func55, Tryz.ntmps55
      go_wp2_with (go_at_call 56; refine (kb _ (by first | assumption | exact (Below.refl _ _).alloc (Nat.le_refl _) _)).mono ?_; rintro e w' ⟨rfl, rfl⟩)
      go_ret
      exact ⟨by simp, (Below.refl _ _).alloc (Nat.le_refl _) _⟩
    | true =>
      obtain ⟨m, hm⟩ : ∃ m, m = l.length := ⟨_, rfl⟩
      rw [← hm] at kb ⊢
      clear hm
      rcases Nat.eq_zero_or_pos m with rfl | h0
      · go_enter Tryz.func55, Tryz.ntmps55
        go_wp2_with (go_at_call 56; refine (kb _ (by first | assumption | exact (Below.refl _ _).alloc (Nat.le_refl _) _)).mono ?_; rintro e w' ⟨rfl, rfl⟩)
        go_ret
        exact ⟨by simp, (Below.refl _ _).alloc (Nat.le_refl _) _⟩
      · have hi : 0 < (m : Int) := by omega
        go_enter Tryz.func55, Tryz.ntmps55
        go_wp2_with (go_at_call 56; refine (kb _ (by first | assumption | exact (Below.refl _ _).alloc (Nat.le_refl _) _)).mono ?_; rintro e w' ⟨rfl, rfl⟩)
        go_ret
        exact ⟨by simp [h0], (Below.refl _ _).alloc (Nat.le_refl _) _⟩

/-- Block B holds a struct of two cells. -/
def Box2 (W : World) (B : Nat) (t : TypeId) (u v : Value) : Prop := W.heap[B]? = some (.cells #[u, v] t (0, 0))
theorem Box2.new (W : World) (t : TypeId) (u v : Value) : Box2 (W.alloc (.cells #[u, v] t)) W.heap.size t u v := World.alloc_heap_new W _
theorem Box2.lt {W : World} {B : Nat} {t : TypeId} {u v : Value} (h : Box2 W B t u v) : B < W.heap.size := (Array.getElem?_eq_some_iff.1 h).1
theorem Box2.alloc {W : World} {B : Nat} {t : TypeId} {u v : Value} (h : Box2 W B t u v) (o : Obj) : Box2 (W.alloc o) B t u v := (Below.heap_alloc W o B h.lt).trans h
theorem Box2.new1 (W : World) (o : Obj) (t : TypeId) (u v : Value) : Box2 ((W.alloc o).alloc (.cells #[u, v] t)) (W.heap.size + 1) t u v := by
  have := Box2.new (W.alloc o) t u v; rwa [World.size_alloc] at this
theorem Box2.below {W W' : World} {B : Nat} {t : TypeId} {u v : Value} (h : Box2 W B t u v) (hb : Below W.heap.size W W') : Box2 W' B t u v := (hb.block B h.lt).trans h
theorem Box2.drew {W : World} {B : Nat} {t : TypeId} {u v : Value} (h : Box2 W B t u v) : Box2 W.drew B t u v := h
theorem Box2.c0 {W : World} {B : Nat} {t : TypeId} {u v : Value} (h : Box2 W B t u v) : W.cell? ⟨B, 0, none⟩ = some u := by
  unfold World.cell?; rw [show W.heap[B]? = _ from h]; rfl
theorem Box2.c1 {W : World} {B : Nat} {t : TypeId} {u v : Value} (h : Box2 W B t u v) : W.cell? ⟨B, 1, none⟩ = some v := by
  unfold World.cell?; rw [show W.heap[B]? = _ from h]; rfl
theorem Box2.fr {W : World} {B : Nat} {t : TypeId} {u v : Value} (h : Box2 W B t u v) (o : Nat) : W.frozen? ⟨B, o, none⟩ = false := by
  unfold World.frozen?; rw [show W.heap[B]? = _ from h]; simp
theorem Box2.set0 {W : World} {B : Nat} {t : TypeId} {u v : Value} (h : Box2 W B t u v) (x : Value) : Box2 (W.setCell ⟨B, 0, none⟩ x) B t x v := by
  obtain ⟨hlt, hk⟩ := Array.getElem?_eq_some_iff.1 h
  show (W.heap.modify B _)[B]? = _
  rw [Array.getElem?_eq_getElem (by rw [Array.size_modify]; exact hlt), Array.getElem_modify_self, hk]
  rfl
theorem Box2.set1 {W : World} {B : Nat} {t : TypeId} {u v : Value} (h : Box2 W B t u v) (x : Value) : Box2 (W.setCell ⟨B, 1, none⟩ x) B t u x := by
  obtain ⟨hlt, hk⟩ := Array.getElem?_eq_some_iff.1 h
  show (W.heap.modify B _)[B]? = _
  rw [Array.getElem?_eq_getElem (by rw [Array.size_modify]; exact hlt), Array.getElem_modify_self, hk]
  rfl
theorem Box2.other {W : World} {B B' o : Nat} {t : TypeId} {u v : Value} (h : Box2 W B t u v) (hne : B ≠ B') (x : Value) : Box2 (W.setCell ⟨B', o, none⟩ x) B t u v :=
  (Below.heap_setCell W ⟨B', o, none⟩ x B hne).trans h
theorem ret_box2 {fn : Func} {p : Tmp} {ty t : TypeId} {R : Ending → World → Prop} {a : Act} {w : World} {B : Nat} {u v : Value} {fs : Array Field} (h : fn.results = #[.cell p ty]) (hp : a.tmps.getD p undef = .pointer (some ⟨B, 0, none⟩)) (hg : Box2 w B t u v)
    (hu : Tryz.prog.underlying ty = some (.struct fs)) (hi : (Tryz.prog.info? ty).map (·.size) = some 2) (hde : a.defers = []) (hR : R (.returned (.agg #[u, v])) w) : bodyPost Tryz.prog fn R .ret a w :=
  bodyPost_ret (results_cell_row h _ _ B t #[u, v] (0, 0) (.struct fs) hp hg hu rfl hi) hde hR
theorem size_int : (Tryz.prog.info? 25).map (·.size) = some 2 := by kernel_rfl
theorem size_number : (Tryz.prog.info? 131).map (·.size) = some 2 := by kernel_rfl
theorem below_sets {w W : World} {B : Nat} (h : Below w.heap.size w W) (hB : w.heap.size ≤ B) (x y : Value) : Below w.heap.size w ((W.setCell ⟨B, 0, none⟩ x).setCell ⟨B, 1, none⟩ y) :=
  (h.setCell (p := ⟨B, 0, none⟩) hB _).setCell (p := ⟨B, 1, none⟩) hB _
theorem below_from {w a b : World} {n : Nat} (h : Below w.heap.size w a) (k : Below n a b) (hn : w.heap.size ≤ n) : Below w.heap.size w b := h.trans (k.mono hn)

set_option maxHeartbeats 2000000 in
theorem iorZero_any {w : World} {n : Bool} {v : Value} {l : List Nat} (h : Reads w v l) (hl : l.length ≤ 1000000) :
    Calls Tryz.prog 155 #[.agg #[.bool n, v]] w fun e w' => e = .returned (.agg #[.bool (izN n l), izS n v l]) ∧ Below w.heap.size w w' := by
  have kb : ∀ W, Below w.heap.size w W → _ := fun W hW => icheck_any (n := n) (h.below hW) hl
  obtain ⟨a, c, rfl⟩ := h.form
  have hb0 : Below w.heap.size w ((w.alloc (.cells #[.bool n, .slice a l.length c] 25)).alloc (.cells #[.bool false, .slice none 0 0] 131)) := ((Below.refl _ _).alloc (Nat.le_refl _) _).alloc (by simp) _
  have B1 := (Box2.new w 25 (.bool n) (.slice a l.length c)).alloc (.cells #[.bool false, .slice none 0 0] 131)
  have B2 := Box2.new1 w (.cells #[.bool n, .slice a l.length c] 25) 131 (.bool false) (.slice none 0 0)
  cases hR : ichk n l with
  | false =>
    have e1 : izN n l = false := by simp [izN, hR]
    have e2 : ∀ v, izS n v l = .slice none 0 0 := fun v => by simp [izS, hR]
    rw [e1, e2]
    rw [hR] at kb
    have kc := kb _ hb0
    clear e1 e2 hR h kb hb0
    go_enter Tryz.func155, Tryz.ntmps155
    go_wp2_with (go_at_call 55; refine kc.mono ?_; rintro e w1 ⟨rfl, r1⟩; have q2 := (B2.below r1).c0; have q3 := (B2.below r1).c1; have q4 := (B2.below r1).fr 0; have q5 := (B2.below r1).fr 1)
    refine ret_box2 rfl rfl (((B2.below r1).set0 _).set1 _) Tryz.underlying131 size_number rfl ?_
    exact ⟨rfl, below_sets (below_from (((Below.refl _ _).alloc (Nat.le_refl _) _).alloc (by simp) _) r1 (by simp; omega)) (by omega) _ _⟩
  | true =>
    have e1 : izN n l = n := by simp [izN, hR]
    have e2 : ∀ v, izS n v l = v := fun v => by simp [izS, hR]
    rw [e1, e2]
    rw [hR] at kb
    have kc := kb _ hb0
    clear e1 e2 hR h kb hb0
    go_enter Tryz.func155, Tryz.ntmps155
    go_wp2_with (go_at_call 55; refine kc.mono ?_; rintro e w1 ⟨rfl, r1⟩; have q0 := (B1.below r1).c0; have q1 := (B1.below r1).c1; have q2 := (B2.below r1).c0; have q3 := (B2.below r1).c1; have q4 := (B2.below r1).fr 0; have q5 := (B2.below r1).fr 1)
    refine ret_box2 rfl rfl (((B2.below r1).set0 _).set1 _) Tryz.underlying131 size_number rfl ?_
    exact ⟨rfl, below_sets (below_from (((Below.refl _ _).alloc (Nat.le_refl _) _).alloc (by simp) _) r1 (by simp; omega)) (by omega) _ _⟩

theorem signed_any (n : Bool) (a : Option Addr) (m c : Nat) (w : World) :
    Calls Tryz.prog 200 #[.bool n, .slice a m c] w fun e w' => e = .returned (.agg #[.bool (n && decide (0 < m)), .slice a m c]) ∧ Below w.heap.size w w' := by
  cases n with
  | false =>
    go_enter Tryz.func200, Tryz.ntmps200
    go_wp2
    refine ret_box2 rfl rfl (Box2.new w _ _ _) Tryz.underlying25 size_int rfl ?_
    exact ⟨by simp, (Below.refl _ _).alloc (Nat.le_refl _) _⟩
  | true =>
    rcases Nat.eq_zero_or_pos m with rfl | h0
    · go_enter Tryz.func200, Tryz.ntmps200
      go_wp2
      refine ret_box2 rfl rfl (Box2.new w _ _ _) Tryz.underlying25 size_int rfl ?_
      exact ⟨by simp, (Below.refl _ _).alloc (Nat.le_refl _) _⟩
    · have hi : 0 < (m : Int) := by omega
      go_enter Tryz.func200, Tryz.ntmps200
      go_wp2
      refine ret_box2 rfl rfl (Box2.new w _ _ _) Tryz.underlying25 size_int rfl ?_
      exact ⟨by simp [h0], (Below.refl _ _).alloc (Nat.le_refl _) _⟩

end Go.Proofs.YtimdinmhphihkaaGreatDoor
