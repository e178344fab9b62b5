/- Sums: the document's blocks, of which the last ones hold the length. -/
import Derived.Test.YtjlmhpokamdkhaaDoorShRb
import Derived.Test.YtjlmhpokamdkhaaDoorShX
namespace Go.Proofs.YtjlmhpokamdkhaaDoor
open Go Go.Proofs Go.RowKit Go.Shelf
namespace Sh
def comps : Nat → St → List UInt8 → St
  | 0, s, _ => s
  | k + 1, s, b => comps k (comp s (b.take 64)) (b.drop 64)
theorem finN_comps (n : Nat) : ∀ (k : Nat) (s : St) (b : List UInt8) (z : Nat), b.length / 64 = k → z < 64 → (b.length + 1 + z) % 64 = 56 → finN n k s b = outB (comps ((b.length + 1 + z + 8) / 64) s (b ++ 128 :: List.replicate z 0 ++ lenB n))
  | 0, s, b, z, hk, hz, hm => by
    have hL := length_lenB n
    rw [finN]; unfold close
    by_cases h : 56 ≤ b.length
    · obtain rfl : z = 119 - b.length := by omega
      rw [if_pos h, show (b.length + 1 + (119 - b.length) + 8) / 64 = 2 by omega]
      rw [comps, comps, comps]
      have e1 : b ++ 128 :: List.replicate (119 - b.length) 0 ++ lenB n = (b ++ 128 :: List.replicate (63 - b.length) 0) ++ (List.replicate 56 0 ++ lenB n) := by
        rw [show 119 - b.length = (63 - b.length) + 56 by omega, ← List.replicate_append_replicate]; simp
      rw [e1, List.take_left' (by simp; omega), List.drop_left' (by simp; omega), List.take_of_length_le (by simp [length_lenB])]
    · obtain rfl : z = 55 - b.length := by omega
      rw [if_neg h, show (b.length + 1 + (55 - b.length) + 8) / 64 = 1 by omega, comps, comps, List.take_of_length_le (by simp [length_lenB]; omega)]
  | k + 1, s, b, z, hk, hz, hm => by
    have h64 : 64 ≤ b.length := by omega
    have e : (b.length + 1 + z + 8) / 64 = ((b.drop 64).length + 1 + z + 8) / 64 + 1 := by rw [List.length_drop]; omega
    rw [finN, finN_comps n k _ _ z (by rw [List.length_drop]; omega) hz (by rw [List.length_drop]; omega), e, comps]
    rw [List.append_assoc b, List.take_append_of_le_length h64, List.drop_append_of_le_length h64, List.append_assoc]
theorem sha_comps (l : List UInt8) (z : Nat) (hz : z < 64) (hm : (l.length + 1 + z) % 64 = 56) : sha l = outB (comps ((l.length + 1 + z + 8) / 64) H (l ++ 128 :: List.replicate z 0 ++ lenB (8 * l.length))) :=
  finN_comps _ _ _ _ _ rfl hz hm
/-- how many noughts -/
def zs (n : Nat) : Nat := (119 - n % 64) % 64
theorem zs_lt (n : Nat) : zs n < 64 := by unfold zs; omega
theorem zs_eq (n : Nat) : (n + 1 + zs n) % 64 = 56 := by unfold zs; omega
theorem zs_ne (n z : Nat) (h : z < zs n) : (n + 1 + z) % 64 ≠ 56 := by unfold zs at h; omega
theorem comps_drop (m k : Nat) (s : St) (b : List UInt8) : comps (m + 1) s (b.drop (64 * k)) = comps m (comp s ((b.drop (64 * k)).take 64)) (b.drop (64 * (k + 1))) := by
  rw [comps, List.drop_drop, show 64 * k + 64 = 64 * (k + 1) by omega]
theorem lenB_take (n k : Nat) (hk : k < 8) : (lenB n).take (k + 1) = (lenB n).take k ++ [UInt8.ofNat (n / 2 ^ (56 - 8 * k))] := by
  rw [List.take_add_one, lenB_at n k hk]; rfl
end Sh
theorem rdb_sub {W : World} {g off n ca j c : Nat} {l : List UInt8} (h : RdB W (.slice (some ⟨g, off, none⟩) n ca) l) (hn : l.length = n) (hj : j + 64 ≤ n) (hc : 64 ≤ c) : RdB W (.slice (some ⟨g, off + j, none⟩) 64 c) ((l.drop j).take 64) := by
  have hlen : ((l.drop j).take 64).length = 64 := by rw [List.length_take, List.length_drop]; omega
  obtain ⟨a, cap, e, hcap, hc'⟩ := h
  simp only [Value.slice.injEq] at e
  obtain ⟨rfl, _, rfl⟩ := e
  obtain ⟨b, o, e, hlt, hcell⟩ := hc' (by omega)
  simp only [Option.some.injEq, Addr.mk.injEq, and_true] at e
  obtain ⟨rfl, rfl⟩ := e
  refine ⟨_, c, by rw [hlen], by rw [hlen]; exact hc, fun _ => ⟨g, off + j, rfl, hlt, fun i hi => ?_⟩⟩
  rw [hlen] at hi
  have := hcell (j + i) (by omega)
  rw [Nat.add_assoc, this]
  simp [List.getD_eq_getElem?_getD, hi, List.getElem?_drop]
theorem OwnB'.rdb {W : World} {base : Nat} {v : Value} {l : List UInt8} (h : OwnB' W base v l) : RdB W v l := own_rdb h
theorem OwnB'.off {W : World} {base g n c : Nat} {l : List UInt8} (_h : OwnB' W base (.slice (some ⟨g, 0, none⟩) n c) l) : True := trivial
end Go.Proofs.YtjlmhpokamdkhaaDoor
