/- Text: a number's digits, the highest first. -/
import Derived.Test.YtmbnojkciikobaaGreatDoorTextB
import Derived.Test.YtmbnojkciikobaaGreatDoorWord
import Derived.Test.YtmbnojkciikobaaGreatDoorLay
import Derived.Laws.IdiomStrings
namespace Go.Proofs.YtmbnojkciikobaaGreatDoor
open Go Go.Proofs Go.RowKit Go.Shelf Nu

attribute [local go_sem] Oper.semAt_some

def u8v (n : Nat) : Value := .int .u8 (n : Int)

/-- the digits, the lowest first, as bytes -/
def low (V : Nat) : List Nat := (48 + V % 10) :: (if h : V / 10 = 0 then [] else low (V / 10))
termination_by V
decreasing_by omega
theorem low_eq (V : Nat) : low V = (48 + V % 10) :: (if V / 10 != 0 then low (V / 10) else []) := by
  rw [low]
  by_cases h : V / 10 = 0
  · simp [h]
  · simp [h]
theorem low_pos (V : Nat) : 0 < (low V).length := by rw [low]; simp
theorem low_len (V k : Nat) (h : V < 10 ^ (k + 1)) : (low V).length ≤ k + 1 := by
  induction k generalizing V with
  | zero =>
    have : V / 10 = 0 := by simp at h; omega
    rw [low, dif_pos this]; simp
  | succ k ih =>
    rw [low]
    split
    · simp
    · have := ih (V / 10) (by rw [Nat.pow_succ] at h; omega)
      simpa using this
theorem low_len_val {L : List Nat} (hs : Sm L) : (low (val L)).length ≤ 10 * L.length + 1 := by
  refine low_len _ _ (Nat.lt_of_lt_of_le (val_lt hs) ?_)
  calc 4294967296 ^ L.length ≤ (10 ^ 10) ^ L.length := Nat.pow_le_pow_left (by decide) _
    _ = 10 ^ (10 * L.length) := by rw [← Nat.pow_mul]
    _ ≤ 10 ^ (10 * L.length + 1) := Nat.pow_le_pow_right (by decide) (by omega)

theorem info_u8 : (Tryz.prog.info? 5).map (fun i => (i.zero, i.size, i.bytes)) = some (some (.int .u8 0), 1, 1) := by kernel_rfl

theorem DigInv.below {w W : World} {base s V : Nat} (h : DigInv w base s V) (hb : Below (s + 3) w W) : DigInv W base s V := by
  obtain ⟨v, R, low, ready, h1, h2, h3, h4, h5, h6, h7, h8, h9, h10, h11⟩ := h
  refine ⟨v, R, low, ready, below_box hb (by omega) h1, below_box hb (by omega) h2, below_box hb (by omega) h3, ⟨h4.1, ?_⟩, h5, h6, h7, h8, h9, h10, h11⟩
  rcases h4.2 with hn | ⟨g, cap, cur, rfl, hb', hg, rest⟩
  · exact .inl hn
  · have hgs : g < s := by
      rcases h11 with h | ⟨g', h, h'⟩
      · cases h
      · cases h; exact h'
    exact .inr ⟨g, cap, cur, rfl, hb', (hb.block g (by omega)).trans hg, rest⟩

theorem below_append {W w3 : World} {base k n : Nat} {v : Value} {e : TypeId} {xs : List Value} {tmp : Obj} (hrow : W.ownsRow base e k v n xs) (hb : base ≤ W.heap.size) (hgrow : (W.alloc tmp).grownBy w3 v.ownBlock) : Below base W w3 := by
  refine ((Below.refl base W).alloc hb tmp).grown hgrow (by simp; omega) fun j ej => ?_
  rcases hrow.2 with ⟨rfl, _⟩ | ⟨g, cap, cur, rfl, hb', _, _⟩
  · simp [Value.ownBlock] at ej
  · obtain rfl : g = j := by simpa [Value.ownBlock] using ej
    exact hb'

def lenOf : Value → Nat
  | .slice _ n _ => n
  | _ => 0
def boolOf : Value → Bool
  | .bool b => b
  | _ => false

theorem lenOf_row {W : World} {base k n : Nat} {v : Value} {e : TypeId} {xs : List Value} (h : W.ownsRow base e k v n xs) : lenOf v = n := by
  rcases h.2 with ⟨rfl, rfl⟩ | ⟨g, cap, cur, rfl, _⟩ <;> rfl
theorem low_byte {V x : Nat} (h : x ∈ low V) : x < 256 := by
  induction V using Nat.strongRecOn with
  | ind V ih =>
    rw [low] at h
    rcases List.mem_cons.1 h with rfl | h
    · omega
    · split at h
      · cases h
      · exact ih (V / 10) (by omega) h

set_option maxHeartbeats 4000000 in
/-- Text, of any number: one that may not be is as 0 -/
theorem text_gen {w : World} {v : Value} {L : List Nat} (h : Reads w v L) (hs : Sm L) (hL : L.length ≤ 100000) (S : ByteArray) (hS : S = ⟨((low (nv L)).reverse.map UInt8.ofNat).toArray⟩) :
    Calls Tryz.prog 34 #[v] w fun e w' => e = .returned (.string S) ∧ Below w.heap.size w w' := by
  obtain ⟨i0, hi, hz0, hz1, hz2⟩ := info_parts info_u8
  have k1 := flip (orZero_any h (by omega))
  have hO := orzV_reads h
  have hlo := orz_length L
  have kd := digits_any hO (sm_orz hs) (chk_orz L) (by omega)
  have hlen := low_len_val (sm_orz hs)
  rw [val_orz] at kd hlen
  obtain ⟨D, hD⟩ : ∃ D, D = (low (nv L)).length := ⟨_, rfl⟩
  obtain ⟨V, hV⟩ : ∃ V, V = nv L := ⟨_, rfl⟩
  rw [← hV] at hS hD hlen kd
  obtain ⟨a1, c1, e1⟩ := hO.form
  rw [e1] at k1 kd
  have HS := Lib.hid hS
  have HD := Lib.hid hD
  have hD1 : D ≤ 1000001 := by omega
  obtain ⟨a0, c0, rfl⟩ := h.form
  clear h hS hD hlen hV hO e1 hlo
  go_enter Tryz.func34, Tryz.ntmps34
  go_wp2_with (first
    | (go_at_call 64; refine k1.mono ?_; rintro e w' ⟨rfl, rfl⟩)
    | (go_at_call 129; refine kd.mono ?_; rintro e w1 ⟨s, hsw, rfl, hDI, hb1⟩))
  go_loopw [3, 5, 6] (fun v mo _ wr => ∃ (bs : List Nat) (M : Bool) (Vk : Nat), mo = .bool M ∧ wr.ownsRow (s + 3) 5 1 v bs.length (bs.map u8v) ∧ DigInv wr w.heap.size s Vk ∧ Below w.heap.size w wr ∧ Hid (bs ++ (if M then low Vk else []) = low V)) (fun v _ _ _ => D - lenOf v)
  case atStart => exact ⟨[], true, V, rfl, World.ownsRow_nil w1 _ _ 1, hDI, hb1, Lib.hid rfl⟩
  case round =>
    obtain ⟨bs, M, Vk, rfl, hrow, hDk, hbel, hR⟩ := hrel
    have hs3 : s + 3 ≤ wr.heap.size := by
      obtain ⟨_, _, _, _, _, _, h3, _⟩ := hDk
      have := h3.lt
      omega
    cases M with
    | true =>
      have hR2 := hR.out
      have hlt : bs.length < D := by
        have := congrArg List.length hR2
        have := low_pos Vk
        have := HD.out
        simp at *; omega
      rw [if_pos rfl, low_eq Vk] at hR2
      have kn := digits_call hDk hsw
      have HR := Lib.hid hR2
      clear hR2 hR
      obtain ⟨d, hd⟩ : ∃ d, d = 48 + Vk % 10 := ⟨_, rfl⟩
      have hdi : (48 : Int) + (Vk : Int) % 10 = (d : Int) := by omega
      rw [hdi] at kn
      obtain ⟨m, hm⟩ : ∃ m, m = (Vk / 10 != 0) := ⟨_, rfl⟩
      rw [← hm] at kn
      have HM := Lib.hid hm
      have HDG := Lib.hid hd
      have hds : d < 256 := by omega
      clear hm hd hdi
      go_wp2_with (first
        | (go_at_call 171; refine kn.mono ?_; clear kn; rintro e w2 ⟨rfl, hD2, hb2, hov⟩; have hrow2 := hov.row hrow; have hs4 : s + 3 ≤ w2.heap.size := Nat.le_trans hs3 hb2.size)
        | (at_builtin; refine wpList_append_own _ rfl _ _ 104 rfl (s + 3) 5 i0 (.int .u8 0) 1 1 Tryz.underlying104 hi hz0 hz1 hz2 rfl (by decide) _ _ _ rfl (World.ownsRow.alloc hrow2 _) ⟨w2.heap.size, 0, none⟩ 1 1 [_] rfl rfl (one_new _ _ _ _ (by simp)) (by simp [Value.oneCell']) (small_max (by omega)) (by omega) (by simp; omega) ?_; intro v' w3 hown' hgrow _; have hbl3 := below_append hrow2 hs4 hgrow))
      go_roundw
      case rel =>
        refine ⟨bs ++ [d], m, Vk / 10, rfl, ?_, hD2.below hbl3, (hbel.trans hb2).trans (hbl3.mono (by omega)), Lib.hid ?_⟩
        · rw [List.length_append, List.map_append, List.length_singleton, List.map_singleton]
          exact hown'
        · rw [HM.out, HDG.out, List.append_assoc]
          exact HR.out
      case measure =>
        rw [lenOf_row hrow, lenOf_row hown']
        omega
    | false =>
      have hR2 : bs = low V := by simpa using hR.out
      have hne := low_pos V
      rw [← hR2] at hne
      have hDl : bs.length = D := by rw [HD.out, hR2]
      obtain ⟨g, cap, rfl, hg⟩ : ∃ g cap, u3 = .slice (some ⟨g, 0, none⟩) bs.length cap ∧ s + 3 ≤ g := by
        rcases hrow.2 with ⟨_, h⟩ | ⟨g, cap, cur, h, hg, _⟩
        · omega
        · exact ⟨g, cap, h, hg⟩
      have hH : Sort.Holds u8v wr g 0 bs.toArray := fun j hj => by
        have hj' : j < bs.length := by simpa using hj
        have h1 := hrow.cells rfl j (u8v (bs[j])) (by simp [hj'])
        rw [Addr.add_lit] at h1
        refine ⟨?_, by rw [Nat.zero_add]; exact hrow.frozenAt j⟩
        rw [getElem!_pos _ j hj]
        simpa using h1
      have kr : Calls Tryz.prog 130 #[.slice (some ⟨g, 0, none⟩) bs.length cap] wr fun e w' => e = .returned (.tuple #[]) ∧ ∃ n, w' = Sort.putRow u8v (Sort.ahead wr n) g 0 bs.reverse.toArray :=
        AnyE.slices_Reverse YtmbnojkciikobaaGreatDoor.revB u8v (fun _ => rfl) g 0 cap bs wr hH (by omega)
      have hconv : ∀ n, (convert 104 9 (.slice (some ⟨g, 0, none⟩) bs.length cap)).run Tryz.prog (Sort.putRow u8v (Sort.ahead wr n) g 0 bs.reverse.toArray) = .ok (.string S) (Sort.putRow u8v (Sort.ahead wr n) g 0 bs.reverse.toArray) := fun n => by
        have hl : bs.length = (bs.reverse.map UInt8.ofNat).length := by simp
        rw [HS.out, ← hR2, hl]
        refine run_convert_bytes_back _ _ _ 5 _ _ _ (by kernel_rfl) (by kernel_rfl) (by kernel_rfl) fun j hj => ?_
        have hj' : j < bs.reverse.length := by simpa using hj
        have hc := Sort.cell?_putRow u8v (Sort.ahead wr n) g 0 bs.toArray bs.reverse.toArray (Sort.holds_ahead _ _ _ _ _ _ hH) (by simp) j (by simpa using hj')
        rw [Addr.add_lit]
        refine hc.trans ?_
        rw [getElem!_pos _ j (by simpa using hj')]
        have hlt : bs.reverse[j] < 256 := low_byte (V := V) (by rw [← hR2]; exact List.mem_reverse.1 (List.getElem_mem hj'))
        simp only [u8v, List.getElem_toArray, List.getElem_map, UInt8.toNat_ofNat', Option.some.injEq, Value.int.injEq, true_and]
        rw [Nat.mod_eq_of_lt hlt]
      have hbw : ∀ n, Below w.heap.size w (Sort.putRow u8v (Sort.ahead wr n) g 0 bs.reverse.toArray) := fun n => hbel.trans ⟨rfl, rfl, rfl, by simp [Sort.ahead], fun k hk => by
        have : g ≠ k := by omega
        simp [Sort.putRow, Sort.mapBlock, Array.getElem?_modify, this, Sort.ahead]⟩
      have HB := Lib.hid hbw
      clear hR2 hbw hH hrow hDk hR hDl hne
      go_wp2_with (go_at_call 130; refine kr.mono ?_; clear kr; rintro e w2 ⟨rfl, n, rfl⟩; have hcv := hconv n)
      go_ret
      exact ⟨rfl, HB.out n⟩
theorem text_any {w : World} {v : Value} {L : List Nat} (h : Reads w v L) (hs : Sm L) (hc : chk L = true) (hL : L.length ≤ 100000) (S : ByteArray) (hS : S = ⟨((low (val L)).reverse.map UInt8.ofNat).toArray⟩) :
    Calls Tryz.prog 34 #[v] w fun e w' => e = .returned (.string S) ∧ Below w.heap.size w w' :=
  text_gen h hs hL S (by rw [nv_chk hc]; exact hS)

end Go.Proofs.YtmbnojkciikobaaGreatDoor
