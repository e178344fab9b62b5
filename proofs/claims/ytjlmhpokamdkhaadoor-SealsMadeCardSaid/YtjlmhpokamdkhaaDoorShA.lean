/- Sums: the numbers by which blocks are taken in, the sum of bytes, with a key, as digits. -/
namespace Go.Proofs.YtjlmhpokamdkhaaDoor
structure St where
  a : UInt32
  b : UInt32
  c : UInt32
  d : UInt32
  e : UInt32
  f : UInt32
  g : UInt32
  h : UInt32
namespace Sh
def R (x : UInt32) (n : UInt32) : UInt32 := (x <<< (32 - n)) ||| (x >>> n)
def x3 (a b c : UInt32) : UInt32 := (a ^^^ b) ^^^ c
def cubes : List UInt32 := [
    0x428a2f98, 0x71374491, 0xb5c0fbcf, 0xe9b5dba5, 0x3956c25b, 0x59f111f1, 0x923f82a4, 0xab1c5ed5,
    0xd807aa98, 0x12835b01, 0x243185be, 0x550c7dc3, 0x72be5d74, 0x80deb1fe, 0x9bdc06a7, 0xc19bf174,
    0xe49b69c1, 0xefbe4786, 0x0fc19dc6, 0x240ca1cc, 0x2de92c6f, 0x4a7484aa, 0x5cb0a9dc, 0x76f988da,
    0x983e5152, 0xa831c66d, 0xb00327c8, 0xbf597fc7, 0xc6e00bf3, 0xd5a79147, 0x06ca6351, 0x14292967,
    0x27b70a85, 0x2e1b2138, 0x4d2c6dfc, 0x53380d13, 0x650a7354, 0x766a0abb, 0x81c2c92e, 0x92722c85,
    0xa2bfe8a1, 0xa81a664b, 0xc24b8b70, 0xc76c51a3, 0xd192e819, 0xd6990624, 0xf40e3585, 0x106aa070,
    0x19a4c116, 0x1e376c08, 0x2748774c, 0x34b0bcb5, 0x391c0cb3, 0x4ed8aa4a, 0x5b9cca4f, 0x682e6ff3,
    0x748f82ee, 0x78a5636f, 0x84c87814, 0x8cc70208, 0x90befffa, 0xa4506ceb, 0xbef9a3f7, 0xc67178f2]
/-- four bytes as a number -/
def quad (p q r s : UInt8) : UInt32 := (((p.toUInt32 <<< 24) ||| (q.toUInt32 <<< 16)) ||| (r.toUInt32 <<< 8)) ||| s.toUInt32
def bigAt (b : List UInt8) (i : Nat) : UInt32 := quad (b.getD (4 * i) 0) (b.getD (4 * i + 1) 0) (b.getD (4 * i + 2) 0) (b.getD (4 * i + 3) 0)
def big (b : List UInt8) (n : Nat) : List UInt32 := (List.range n).map (bigAt b)
def mixW (p q x y : UInt32) : UInt32 := ((p + q) + x3 (R x 7) (R x 18) (x >>> 3)) + x3 (R y 17) (R y 19) (y >>> 10)
/-- the number behind those of w -/
def nextW (w : List UInt32) : UInt32 := mixW (w.getD (w.length - 16) 0) (w.getD (w.length - 7) 0) (w.getD (w.length - 15) 0) (w.getD (w.length - 2) 0)
def grow : Nat → List UInt32 → List UInt32
  | 0, w => w
  | n + 1, w => grow n (w ++ [nextW w])
def sched (b : List UInt8) : List UInt32 := grow 48 (big b 16)
def t1 (s : St) (k w : UInt32) : UInt32 := ((((s.h + x3 (R s.e 6) (R s.e 11) (R s.e 25)) + ((s.e &&& s.f) ||| (~~~ s.e &&& s.g))) + k) + w)
def t2 (s : St) : UInt32 := x3 (R s.a 2) (R s.a 13) (R s.a 22) + (((s.a &&& s.b) ||| (s.a &&& s.c)) ||| (s.b &&& s.c))
def step (s : St) (k w : UInt32) : St := ⟨t1 s k w + t2 s, s.a, s.b, s.c, s.d + t1 s k w, s.e, s.f, s.g⟩
/-- so many rounds -/
def rounds (w : List UInt32) : Nat → St → St
  | 0, s => s
  | n + 1, s => step (rounds w n s) (cubes.getD n 0) (w.getD n 0)
def addS (s r : St) : St := ⟨s.a + r.a, s.b + r.b, s.c + r.c, s.d + r.d, s.e + r.e, s.f + r.f, s.g + r.g, s.h + r.h⟩
def comp (s : St) (b : List UInt8) : St := addS s (rounds (sched b) 64 s)
def H : St := ⟨0x6a09e667, 0xbb67ae85, 0x3c6ef372, 0xa54ff53a, 0x510e527f, 0x9b05688c, 0x1f83d9ab, 0x5be0cd19⟩
def list (s : St) : List UInt32 := [s.a, s.b, s.c, s.d, s.e, s.f, s.g, s.h]
/-- eight numbers as bytes, the highest first -/
def outAt (s : St) (i : Nat) : UInt8 := ((list s).getD (i / 4) 0 >>> UInt32.ofNat (24 - 8 * (i % 4))).toUInt8
def outB (s : St) : List UInt8 := (List.range 32).map (outAt s)
/-- a length as eight bytes, the highest first -/
def lenB (n : Nat) : List UInt8 := (List.range 8).map fun i => UInt8.ofNat (n / 2 ^ (56 - 8 * i))
/-- what is left, and what closes all -/
def close (n : Nat) (s : St) (b : List UInt8) : List UInt8 :=
  if 56 ≤ b.length then outB (comp (comp s (b ++ 128 :: List.replicate (63 - b.length) 0)) (List.replicate 56 0 ++ lenB n))
  else outB (comp s ((b ++ 128 :: List.replicate (55 - b.length) 0) ++ lenB n))
def finN (n : Nat) : Nat → St → List UInt8 → List UInt8
  | 0, s, b => close n s b
  | k + 1, s, b => finN n k (comp s (b.take 64)) (b.drop 64)
def fin (n : Nat) (s : St) (b : List UInt8) : List UInt8 := finN n (b.length / 64) s b
def sha (b : List UInt8) : List UInt8 := fin (8 * b.length) H b
def wide (key : List UInt8) : List UInt8 := if 64 < key.length then sha key ++ List.replicate 32 0 else key ++ List.replicate (64 - key.length) 0
def masked (k : List UInt8) (m : UInt8) : List UInt8 := k.map (· ^^^ m)
def keyed (key b : List UInt8) : List UInt8 := fin 768 (comp H (masked (wide key) 92)) (fin (8 * (64 + b.length)) (comp H (masked (wide key) 54)) b)
def dig (n : Nat) : UInt8 := if n < 10 then UInt8.ofNat (48 + n) else UInt8.ofNat (87 + n)
def hex (l : List UInt8) : List UInt8 := l.flatMap fun c => [dig (c.toNat / 16), dig (c.toNat % 16)]

theorem length_outB (s : St) : (outB s).length = 32 := by simp [outB]
theorem length_lenB (n : Nat) : (lenB n).length = 8 := by simp [lenB]
theorem length_close (n : Nat) (s : St) (b : List UInt8) : (close n s b).length = 32 := by unfold close; split <;> exact length_outB _
theorem length_finN (n k : Nat) (s : St) (b : List UInt8) : (finN n k s b).length = 32 := by
  induction k generalizing s b with
  | zero => exact length_close n s b
  | succ k ih => exact ih _ _
theorem length_fin (n : Nat) (s : St) (b : List UInt8) : (fin n s b).length = 32 := length_finN _ _ _ _
theorem length_sha (b : List UInt8) : (sha b).length = 32 := length_fin _ _ _
theorem length_keyed (k b : List UInt8) : (keyed k b).length = 32 := length_fin _ _ _
theorem length_wide (k : List UInt8) : (wide k).length = 64 := by
  unfold wide; split
  · simp [length_sha]
  · simp; omega
theorem length_masked (k : List UInt8) (m : UInt8) : (masked k m).length = k.length := by simp [masked]
theorem length_grow (n : Nat) (w : List UInt32) : (grow n w).length = w.length + n := by
  induction n generalizing w with
  | zero => rfl
  | succ n ih => rw [grow, ih]; simp; omega
theorem length_big (b : List UInt8) (n : Nat) : (big b n).length = n := by simp [big]
theorem length_sched (b : List UInt8) : (sched b).length = 64 := by rw [sched, length_grow, length_big]
theorem length_hex (l : List UInt8) : (hex l).length = 2 * l.length := by
  induction l with
  | nil => rfl
  | cons c l ih => simp [hex] at ih ⊢; omega

theorem big_succ (b : List UInt8) (n : Nat) : big b (n + 1) = big b n ++ [bigAt b n] := by simp [big, List.range_succ]
theorem grow_succ (n : Nat) (w : List UInt32) : grow (n + 1) w = grow n w ++ [nextW (grow n w)] := by
  induction n generalizing w with
  | zero => rfl
  | succ n ih => rw [grow, ih]; rfl

/-- ahead of the rest stands a whole block -/
theorem fin_block (n : Nat) (s : St) (p b : List UInt8) (hp : p.length = 64) : fin n s (p ++ b) = fin n (comp s p) b := by
  have h : (p ++ b).length / 64 = b.length / 64 + 1 := by rw [List.length_append, hp]; omega
  unfold fin
  rw [h, finN, List.take_append_of_le_length (by omega), List.drop_append_of_le_length (by omega), List.take_of_length_le (by omega), List.drop_of_length_le (by omega), List.nil_append]

/-- what follows of the keys -/
theorem keyed_sum (k b : List UInt8) (h : 64 < k.length) : keyed (sha k) b = keyed k b := by
  have e : wide (sha k) = wide k := by
    unfold wide
    rw [if_neg (by rw [length_sha]; omega), if_pos h, length_sha]
  unfold keyed; rw [e]
theorem keyed_wide (k b : List UInt8) (m : Nat) (h : k.length + m ≤ 64) : keyed (k ++ List.replicate m 0) b = keyed k b := by
  have e : wide (k ++ List.replicate m 0) = wide k := by
    unfold wide
    rw [if_neg (by simp; omega), if_neg (by omega), List.append_assoc, List.replicate_append_replicate]
    congr 2
    simp; omega
  unfold keyed; rw [e]
theorem keyed_inner (k b : List UInt8) (h : k.length ≤ 64) :
    keyed k b = sha (masked (k ++ List.replicate (64 - k.length) 0) 92 ++ sha (masked (k ++ List.replicate (64 - k.length) 0) 54 ++ b)) := by
  have e : wide k = k ++ List.replicate (64 - k.length) 0 := by unfold wide; rw [if_neg (by omega)]
  have l : (k ++ List.replicate (64 - k.length) (0 : UInt8)).length = 64 := by simp; omega
  unfold keyed sha
  rw [e, fin_block _ _ _ _ (by rw [length_masked, l]), fin_block _ _ _ _ (by rw [length_masked, l]), List.length_append, List.length_append, length_masked, length_masked, l, length_fin]

def Ascii (s : String) : List UInt8 := s.toUTF8.toList
theorem alive1 : hex (sha []) = Ascii "e3b0c44298fc1c149afbf4c8996fb92427ae41e4649b934ca495991b7852b855" := by decide +kernel
theorem alive2 : hex (sha [97, 98, 99]) = Ascii "ba7816bf8f01cfea414140de5dae2223b00361a396177a9cb410ff61f20015ad" := by decide +kernel
theorem alive3 : hex (keyed [74, 101, 102, 101] [119, 104, 97, 116, 32, 100, 111, 32, 121, 97, 32, 119, 97, 110, 116, 32, 102, 111, 114, 32, 110, 111, 116, 104, 105, 110, 103, 63]) = Ascii "5bdcc146bf60754e6a042426089575c75a003f089d2739839dec58b964ec3843" := by decide +kernel
end Sh
end Go.Proofs.YtjlmhpokamdkhaaDoor
