/- LinesJoins: its walk. -/
import Derived.Test.YtiofdlkdpmomlaaLnMy
import Derived.Test.YtiofdlkdpmomlaaLnPa
namespace Go.Proofs.Ytiofdlkdpmomlaa
open Go Go.Proofs Go.RowKit Go.Shelf
set_option linter.unusedVariables false
set_option linter.unusedSimpArgs false
set_option linter.unnecessarySimpa false

attribute [local go_sem] Oper.semAt_some
theorem Ln.wgo_sum : ∀ (l cur : List UInt8), (wgo cur l).flatten.length ≤ cur.length + l.length
  | [], cur => by
    unfold wgo wend
    split <;> simp
  | c :: t, cur => by
    by_cases h : blank c = true
    · simp only [wgo, h, if_true, List.flatten_append, List.length_append, List.length_cons]
      have := wgo_sum t []
      have h2 : (wend cur).flatten.length ≤ cur.length := by unfold wend; split <;> simp
      simp only [List.length_nil] at this
      omega
    · simp only [wgo, h, List.length_cons]
      rw [if_neg (by simp)]
      have := wgo_sum t (cur ++ [c])
      rw [List.length_append, List.length_singleton] at this
      omega
theorem Ln.words_sum (l : List UInt8) : (words l).flatten.length ≤ l.length := by have := wgo_sum l []; simpa [words] using this
theorem Ln.again_len : ∀ (ws : List (List UInt8)) (k : List UInt8), (ws.flatMap (fun x => k ++ x)).length = ws.length * k.length + ws.flatten.length
  | [], k => by simp
  | x :: t, k => by
    rw [List.flatMap_cons, List.length_append, List.length_append, again_len t k, List.flatten_cons, List.length_append, List.length_cons, Nat.add_mul]
    omega
theorem blank_at (r : Nat) : ∃ K : ByteArray, ([Value.string ⟨#[32]⟩, Value.string ⟨#[9]⟩, Value.string ⟨#[32, 32]⟩, Value.string ⟨#[32, 9, 32]⟩] : List Value)[r % 4]? = some (.string K) ∧ (∀ c ∈ K.data.toList, Ln.blank c = true) ∧ K.data.toList ≠ [] ∧ K.size ≤ 3 := by
  have h : r % 4 = 0 ∨ r % 4 = 1 ∨ r % 4 = 2 ∨ r % 4 = 3 := by omega
  rcases h with h | h | h | h <;> rw [h]
  · exact ⟨⟨#[32]⟩, rfl, by decide, by decide, by decide⟩
  · exact ⟨⟨#[9]⟩, rfl, by decide, by decide, by decide⟩
  · exact ⟨⟨#[32, 32]⟩, rfl, by decide, by decide, by decide⟩
  · exact ⟨⟨#[32, 9, 32]⟩, rfl, by decide, by decide, by decide⟩
/-- a list of texts behind one of the call's own -/
theorem texts_behind {W : World} {base : Nat} {v u : Value} {xs ys : List (List UInt8)} (h : SFresh W base v xs) (hu : RdC W u ys.length (scells ys)) (hf : Form u ys.length) (hl : xs.length + ys.length ≤ 1000000) (hb : base ≤ W.heap.size) :
    ∃ v' W', (Builtin.append_ #[27, 27] 27 #[v, u]).run Try.prog W = .ok v' W' ∧ SFresh W' base v' (xs ++ ys) ∧ Grew W W' v v' := by
  obtain ⟨i0, hi0, hz0, hz1, hz2⟩ := q_info info_str
  obtain ⟨v', W', r1, r2, r3⟩ := spread_run (P := Try.prog) base 27 27 9 i0 (.string ⟨#[]⟩) 16 Try.underlying27 hi0 hz0 hz1 hz2 rfl h hu hf (by rw [scells_len]) scells_one (by simp only [maxLen]; omega) (by omega) hb
  refine ⟨v', W', r1, ?_, r3⟩
  unfold SFresh
  rw [List.length_append]
  unfold scells at r2 ⊢
  rw [List.map_append]
  exact r2
theorem add_run (a b : ByteArray) (ha : a.size ≤ 1000000) (hb : b.size ≤ 1000000) (W : World) : (Op.stringOp .add a b).run Try.prog W = .ok (.string (a ++ b)) W := run_string_add W a b (by omega) (by omega)
theorem bsize (A : ByteArray) : A.size = A.data.toList.length := by cases A; simp [ByteArray.size]
theorem add_list (a b : ByteArray) : (a ++ b).data.toList = a.data.toList ++ b.data.toList := by simp
set_option maxRecDepth 100000 in
set_option maxHeartbeats 8000000 in
theorem joins_walk {w : World} {s t : ByteArray} {r : Nat} (hs : s.size ≤ 5000) (ht : t.size ≤ 5000) (hr : r < 256) :
    Calls Try.prog 7 #[.string s, .string t, .int .u8 (r : Int)] w fun e w' => e = .returned (.bool true) ∧ Below w.heap.size w w' := by
  have l1 : ¬ (5000 : Int) < (s.size : Int) := by omega
  have l2 : ¬ (5000 : Int) < (t.size : Int) := by omega
  obtain ⟨K, hK, k1, k2, k3⟩ := blank_at r
  have K1 := Lib.hid k1
  have K2 := Lib.hid k2
  have K3 := Lib.hid k3
  have HS := Lib.hid hs
  have HT := Lib.hid ht
  clear k1 k2 k3 hs ht
  go_enter Try.func7, Try.ntmps7
  go_wp2_with fail
  refine (l_alive _).mono ?_
  rintro e w1 ⟨rfl, rr⟩
  have B0 := Lib.hid rr
  clear rr
  go_wp2_with fail
  have hw := pwords_any s w1 (by have := HS.out; omega)
  refine hw.mono ?_
  clear hw
  rintro e w2 ⟨vx, rfl, gx, rr⟩
  have X := Lib.hid gx
  replace B0 := Lib.hid (then_below B0.out rr)
  clear rr gx
  go_wp2_with fail
  have hw := pwords_any t w2 (by have := HT.out; omega)
  refine hw.mono ?_
  clear hw
  rintro e w3 ⟨vy, rfl, gy, rr⟩
  have Y := Lib.hid gy
  replace X := Lib.hid (X.out.below rr)
  replace B0 := Lib.hid (then_below B0.out rr)
  clear rr gy
  obtain ⟨xs, hxs⟩ : ∃ xs, xs = Ln.words s.data.toList := ⟨_, rfl⟩
  obtain ⟨ys, hys⟩ : ∃ ys, ys = Ln.words t.data.toList := ⟨_, rfl⟩
  have lx : xs.length ≤ 5001 := by rw [hxs]; have := Ln.words_few s.data.toList; have h2 := HS.out; simp at this; change s.size ≤ 5000 at h2; unfold ByteArray.size at h2; omega
  have ly : ys.length ≤ 5001 := by rw [hys]; have := Ln.words_few t.data.toList; have h2 := HT.out; simp at this; unfold ByteArray.size at h2; omega
  rw [← hxs] at X
  rw [← hys] at Y
  obtain ⟨W0, hW0⟩ : ∃ W0, W0 = w3.alloc (.cells #[Value.string ⟨#[32]⟩, Value.string ⟨#[9]⟩, Value.string ⟨#[32, 32]⟩, Value.string ⟨#[32, 9, 32]⟩] 9) := ⟨_, rfl⟩
  have b1 : Below w3.heap.size w3 W0 := by rw [hW0]; exact alloc_below w3 _
  have x0 := X.out.below b1
  have y0 := Y.out.below b1
  have ox := World.ownsRow.lt X.out
  have oy := World.ownsRow.lt Y.out
  obtain ⟨v1, W1, r1, f1, g1⟩ := texts_behind (SFresh.nil W0 w3.heap.size) (own_rdc x0) (form_own x0) (by simp only [List.length_nil]; omega) b1.size
  rw [List.nil_append] at f1
  have b2 : Below w3.heap.size w3 W1 := g1.below b1 b1.size (fun g e => by cases e)
  have y1 := Y.out.below b2
  obtain ⟨v2, W2, r2, f2, g2⟩ := texts_behind f1 (own_rdc y1) (form_own y1) (by omega) b2.size
  have o1 := World.ownsRow.lt f1
  have b3 : Below w3.heap.size w3 W2 := g2.below b2 b2.size (fun g e => (o1 g e).1)
  have X3 := Lib.hid (own_rdc (X.out.below b3))
  have A3 := Lib.hid f2
  have R1 := Lib.hid r1
  have R2 := Lib.hid r2
  replace B0 := Lib.hid (then_below B0.out b3)
  have HX := Lib.hid hxs
  have HY := Lib.hid hys
  clear b1 x0 y0 ox oy r1 f1 g1 b2 y1 r2 f2 g2 o1 b3 X Y hxs hys
  subst hW0
  obtain ⟨M, hM⟩ : ∃ M, M = xs.length := ⟨_, rfl⟩
  rw [← hM] at X3 lx
  have HM := Lib.hid hM
  obtain ⟨ax, cx, ex⟩ : ∃ a c, vx = .slice a M c := by obtain ⟨a, c, e, _⟩ := X3.out; exact ⟨a, c, e⟩
  subst ex
  clear hM
  go_wp2_with (first
    | (at_builtin; refine wpList_spread rfl _ _ _ rfl _ _ _ _ rfl rfl R1.out ?_)
    | (at_builtin; refine wpList_spread rfl _ _ _ rfl _ _ _ _ rfl rfl R2.out ?_)
    | fail)
  clear R1 R2 hK
  go_loopg [11, 12] M (fun g x y wr => ∃ (i : Nat) (A : ByteArray), i + g = M ∧ x = .string A ∧ y = .int .i64 (i : Int) ∧ Hid (A.data.toList = (xs.take i).flatMap (fun x => K.data.toList ++ x)) ∧ wr = W2)
  case atStart => exact ⟨0, ⟨#[]⟩, by omega, rfl, rfl, Lib.hid rfl, rfl⟩
  case round =>
    obtain ⟨i, A, hi, rfl, rfl, HA, hw⟩ := hrel
    subst wr
    have hfl : ∀ j, (xs.take j).flatten.length ≤ 5000 := fun j => by
      have h1 := Ln.words_sum s.data.toList
      rw [← HX.out] at h1
      have h2 : (xs.take j).flatten.length ≤ xs.flatten.length := by
        conv => rhs; rw [← List.take_append_drop j xs, List.flatten_append, List.length_append]
        omega
      have h3 := HS.out
      rw [bsize] at h3
      omega
    have hAs : A.size ≤ 5001 * 3 + 5000 := by
      have h1 := Ln.again_len (xs.take i) K.data.toList
      rw [← HA.out] at h1
      have h2 := hfl i
      have h3 := K3.out
      have h4 : (xs.take i).length ≤ 5001 := by rw [List.length_take]; have := HM.out; omega
      have h5 : (xs.take i).length * K.data.toList.length ≤ 5001 * 3 := Nat.mul_le_mul h4 (by rw [← bsize]; exact h3)
      rw [bsize]
      omega
    have HAs := Lib.hid hAs
    obtain ⟨P, hP⟩ : ∃ P, P = A ++ K := ⟨_, rfl⟩
    have ad1 := fun W => add_run A K (by omega) (by have := K3.out; omega) W
    rw [← hP] at ad1
    by_cases hit : i < M
    · have w0 : IntKind.i64.wrap ((i : Int) + 1) = ((i + 1 : Nat) : Int) := IntWalk.i64_in _ (by omega)
      have n0 : (0 : Int) ≤ (i : Int) := by omega
      have n1 : (i : Int) < (M : Int) := by omega
      obtain ⟨x, hx⟩ : ∃ x, xs[i]? = some x := ⟨_, List.getElem?_eq_getElem (by have := HM.out; omega)⟩
      obtain ⟨a', c', e, _, hca⟩ := X3.out
      cases e
      obtain ⟨bb, off, rfl, hb, hcell⟩ := hca (by omega)
      have x0 := hcell i _ (scell_at hx)
      obtain ⟨S, hS⟩ : ∃ S : ByteArray, S = ⟨x.toArray⟩ := ⟨_, rfl⟩
      rw [← hS] at x0
      have hSl : S.data.toList = x := by rw [hS]
      obtain ⟨e1, _⟩ := Ln.words_each s.data.toList x (by rw [← HX.out]; exact List.mem_of_getElem? hx)
      have hne : S.toList.isEmpty = false := by
        rw [Lib.toList_data, hSl]
        cases x with
        | nil => exact absurd rfl e1
        | cons _ _ => rfl
      have hSz : S.size ≤ 5000 := by
        have h1 := hfl (i + 1)
        rw [List.take_add_one, hx] at h1
        simp only [Option.toList_some, List.flatten_append, List.length_append, List.flatten_cons, List.flatten_nil, List.append_nil] at h1
        rw [bsize, hSl]
        omega
      obtain ⟨Q, hQ⟩ : ∃ Q, Q = P ++ S := ⟨_, rfl⟩
      have hPz : P.size ≤ 5001 * 3 + 5003 := by rw [hP, ByteArray.size_append]; have := K3.out; omega
      have ad2 := fun W => add_run P S (by omega) (by omega) W
      rw [← hQ] at ad2
      have HA2 := Lib.hid (show Q.data.toList = (xs.take (i + 1)).flatMap (fun x => K.data.toList ++ x) by
        rw [hQ, add_list, hP, add_list, HA.out, hSl, List.take_add_one, hx, List.flatMap_append]
        simp)
      clear hcell hca hx hS hSl e1 hSz hQ hPz hP hAs HAs HA hfl
      go_wp2
      go_roundg (M - (i + 1))
      case measure => omega
      case rel => exact ⟨i + 1, Q, by omega, rfl, by first | rfl | simp, HA2, rfl⟩
    · have l4 : ¬ (i : Int) < (M : Int) := by omega
      obtain rfl : i = M := by omega
      have HA2 := Lib.hid (show A.data.toList = xs.flatMap (fun x => K.data.toList ++ x) by rw [HA.out, List.take_of_length_le]; rw [← HM.out]; exact Nat.le_refl _)
      have HPL := Lib.hid (show P.data.toList = xs.flatMap (fun x => K.data.toList ++ x) ++ K.data.toList by rw [hP, add_list, HA2.out])
      have HPZ := Lib.hid (show P.size ≤ 5001 * 3 + 5003 by rw [hP, ByteArray.size_append]; have := K3.out; omega)
      obtain ⟨Q, hQ⟩ : ∃ Q, Q = s ++ K := ⟨_, rfl⟩
      have ad2 := fun W => add_run s K (by have := HS.out; omega) (by have := K3.out; omega) W
      rw [← hQ] at ad2
      obtain ⟨R, hR⟩ : ∃ R, R = Q ++ t := ⟨_, rfl⟩
      have hQz : Q.size ≤ 5003 := by rw [hQ, ByteArray.size_append]; have := K3.out; have := HS.out; omega
      have ad3 := fun W => add_run Q t (by omega) (by have := HT.out; omega) W
      rw [← hR] at ad3
      have HRz := Lib.hid (show R.size ≤ 10003 by rw [hR, ByteArray.size_append]; have := HT.out; omega)
      have HRL := Lib.hid (show Ln.words R.data.toList = xs ++ ys by rw [hR, add_list, hQ, add_list, Ln.words_both K1.out K2.out, ← HX.out, ← HY.out])
      have HPW := Lib.hid (show Ln.words P.data.toList = xs by rw [HPL.out, Ln.words_again xs _ K1.out K2.out (by rw [HX.out]; exact Ln.words_each _)])
      clear hQ hR hQz hP hAs HAs hfl HA HA2 HPL
      go_wp2_with fail
      have hw := pwords_any R W2 (by have := HRz.out; omega)
      refine hw.mono ?_
      clear hw
      rintro e w5 ⟨vr, rfl, gr, rr⟩
      rw [HRL.out] at gr
      have U := Lib.hid (own_rdc gr)
      have A4 := Lib.hid (own_rdc (A3.out.below rr))
      replace X3 := Lib.hid (X3.out.below rr)
      replace B0 := Lib.hid (then_below B0.out rr)
      have HLL := Lib.hid (show (xs ++ ys).length ≤ 10002 by rw [List.length_append, ← HM.out]; omega)
      clear rr gr A3 ad2 ad3
      go_wp2_with fail
      refine (sameTexts_any U.out A4.out (by have := HLL.out; omega)).mono ?_
      rintro e w6 ⟨rfl, rr⟩
      replace X3 := Lib.hid (X3.out.below rr)
      replace B0 := Lib.hid (then_below B0.out rr)
      clear rr U A4
      go_wp2_with fail
      have hw := pwords_any P w6 (by have := HPZ.out; omega)
      refine hw.mono ?_
      clear hw
      rintro e w7 ⟨vp, rfl, gp, rr⟩
      rw [HPW.out] at gp
      have U := Lib.hid (own_rdc gp)
      replace X3 := Lib.hid (X3.out.below rr)
      replace B0 := Lib.hid (then_below B0.out rr)
      rw [HM.out] at X3
      clear rr gp ad1
      go_wp2_with fail
      rw [HM.out]
      refine (sameTexts_any U.out X3.out (by rw [← HM.out]; omega)).mono ?_
      rintro e w8 ⟨rfl, rr⟩
      replace B0 := Lib.hid (then_below B0.out rr)
      clear rr U X3
      go_wp2_with fail
      go_ret
      exact ⟨by first | rfl | simp, B0.out⟩
set_option maxHeartbeats 4000000 in
theorem joins_great {w : World} {s t : ByteArray} {r : Int} (h : 5000 < s.size) :
    Calls Try.prog 7 #[.string s, .string t, .int .u8 r] w fun e w' => e = .returned (.bool true) ∧ Below w.heap.size w w' := by
  have l1 : (5000 : Int) < (s.size : Int) := by omega
  go_enter Try.func7, Try.ntmps7
  go_wp2_with fail
  refine (l_alive _).mono ?_
  rintro e w1 ⟨rfl, rr⟩
  have B0 := Lib.hid rr
  clear rr
  go_wp2_with fail
  refine (l_alive _).mono ?_
  rintro e w2 ⟨rfl, rr⟩
  replace B0 := Lib.hid (then_below B0.out rr)
  clear rr
  go_wp2_with fail
  go_ret
  exact ⟨rfl, B0.out⟩
set_option maxHeartbeats 4000000 in
theorem joins_great2 {w : World} {s t : ByteArray} {r : Int} (h : s.size ≤ 5000) (h2 : 5000 < t.size) :
    Calls Try.prog 7 #[.string s, .string t, .int .u8 r] w fun e w' => e = .returned (.bool true) ∧ Below w.heap.size w w' := by
  have l1 : ¬ (5000 : Int) < (s.size : Int) := by omega
  have l2 : (5000 : Int) < (t.size : Int) := by omega
  go_enter Try.func7, Try.ntmps7
  go_wp2_with fail
  refine (l_alive _).mono ?_
  rintro e w1 ⟨rfl, rr⟩
  have B0 := Lib.hid rr
  clear rr
  go_wp2_with fail
  refine (l_alive _).mono ?_
  rintro e w2 ⟨rfl, rr⟩
  replace B0 := Lib.hid (then_below B0.out rr)
  clear rr
  go_wp2_with fail
  go_ret
  exact ⟨rfl, B0.out⟩
theorem joins_all {w : World} {s t : ByteArray} {r : Nat} (hr : r < 256) :
    Calls Try.prog 7 #[.string s, .string t, .int .u8 (r : Int)] w fun e w' => e = .returned (.bool true) ∧ Below w.heap.size w w' := by
  by_cases h : s.size ≤ 5000
  · by_cases h2 : t.size ≤ 5000
    · exact joins_walk h h2 hr
    · exact joins_great2 h (by omega)
  · exact joins_great (by omega)
end Go.Proofs.Ytiofdlkdpmomlaa
