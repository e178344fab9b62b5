/- Lines: the program's Words, of any text. -/
import Derived.Test.YtiofdlkdpmomlaaLnFf
import Derived.Test.YtiofdlkdpmomlaaLayL
import Derived.Deep.LoopGhost
import Derived.Laws.IdiomStrings
namespace Go.Proofs.Ytiofdlkdpmomlaa
open Go Go.Proofs Go.RowKit Go.Shelf
set_option linter.unusedVariables false
set_option linter.unusedSimpArgs false
set_option linter.unnecessarySimpa false

attribute [local go_sem] Oper.semAt_some
set_option maxRecDepth 100000
theorem isblank_any (x : Nat) (W : World) : Calls Try.prog 20 #[.int .i32 (x : Int)] W fun e w' => e = .returned (.bool (Ln.rblank x)) ∧ w' = W := by
  obtain ⟨X, hX⟩ : ∃ X : Int, X = (x : Int) := ⟨_, rfl⟩
  have h : Ln.rblank x = (decide (X = 32) || decide (X = 9)) := by
    unfold Ln.rblank
    congr 1
    · by_cases h : x = 32
      · rw [beq_iff_eq.2 h, decide_eq_true (by omega)]
      · rw [beq_eq_false_iff_ne.2 h, decide_eq_false (by omega)]
    · by_cases h : x = 9
      · rw [beq_iff_eq.2 h, decide_eq_true (by omega)]
      · rw [beq_eq_false_iff_ne.2 h, decide_eq_false (by omega)]
  rw [h, ← hX]
  clear h hX
  by_cases h32 : X = 32
  · subst h32
    go_enter Try.func20, Try.ntmps20
    go_wp2
    go_ret
    exact ⟨rfl, rfl⟩
  · have y32 : (X == 32) = false := beq_eq_false_iff_ne.2 h32
    by_cases h9 : X = 9
    · subst h9
      go_enter Try.func20, Try.ntmps20
      go_wp2
      go_ret
      exact ⟨rfl, rfl⟩
    · have y9 : (X == 9) = false := beq_eq_false_iff_ne.2 h9
      rw [decide_eq_false h32, decide_eq_false h9]
      go_enter Try.func20, Try.ntmps20
      go_wp2
      go_ret
      exact ⟨rfl, rfl⟩
theorem blank_pred (w : World) : PredAtRunes Try.prog 20 #[] Ln.rblank w := fun W x _ _ => (isblank_any x W).mono fun _ _ h => ⟨h.1, 0, h.2⟩
theorem enters_blank : ∀ args w, (callFunc 20 args).run Try.prog w = .ok (.enter 20 args) w := enters_of Try.func20 (by kernel_rfl) rfl
theorem fields_any (s : ByteArray) (w : World) (hs : s.size ≤ 4294967296) :
    Calls Try.prog 19 #[.string s, .func (.func 20) #[] #[]] w fun e w' => ∃ A, e = .returned (.slice (some ⟨A, 0, none⟩) (Ln.words s.data.toList).length (Ln.words s.data.toList).length) ∧
      SFresh w' w.heap.size (.slice (some ⟨A, 0, none⟩) (Ln.words s.data.toList).length (Ln.words s.data.toList).length) (Ln.words s.data.toList) ∧ Below w.heap.size w w' := by
  have h := Any.strings_FieldsFunc_runes Ytiofdlkdpmomlaa.ffL 20 #[] enters_blank Ln.rblank s w hs (blank_pred w) (by kernel_rfl) (by kernel_rfl)
  have hl : (Lib.goFieldsP Ln.rblank s).length = (Ln.words s.data.toList).length := by
    have := congrArg List.length (Ln.fields_words s)
    unfold scells at this
    rwa [List.length_map, List.length_map] at this
  rw [hl, Ln.fields_words s] at h
  exact h.mono fun e w' ⟨A, h1, _, h2, h3⟩ => ⟨A, h1, h2, h3⟩
theorem Ln.wgo_short : ∀ (l cur : List UInt8), ∀ x ∈ Ln.wgo cur l, x.length ≤ cur.length + l.length
  | [], cur, x, hx => by
    simp only [Ln.wgo, Ln.wend] at hx
    split at hx
    · cases hx
    · obtain rfl : x = cur := by simpa using hx
      simp
  | c :: t, cur, x, hx => by
    by_cases h : Ln.blank c = true
    · simp only [Ln.wgo, h, if_true] at hx
      rcases List.mem_append.1 hx with hx | hx
      · unfold Ln.wend at hx
        split at hx
        · cases hx
        · obtain rfl : x = cur := by simpa using hx
          simp
      · have := Ln.wgo_short t [] x hx
        simp only [List.length_nil, List.length_cons] at *
        omega
    · simp only [Ln.wgo, h] at hx
      rw [if_neg (by simp)] at hx
      have := Ln.wgo_short t (cur ++ [c]) x hx
      simp only [List.length_append, List.length_cons, List.length_nil] at *
      omega
theorem scells_get {ws : List (List UInt8)} {k : Nat} {x : List UInt8} (h : ws[k]? = some x) : (scells ws)[k]? = some (scell x) := by unfold scells; rw [List.getElem?_map, h]; rfl
theorem clone_any (s : ByteArray) (w : World) (hs : s.size ≤ 281474976710656) : Calls Try.prog 21 #[.string s] w fun e w' => e = .returned (.string s) ∧ Below w.heap.size w w' := by
  have k := Lib.hid (fun W => AnyPu.stringslite_Clone Ytiofdlkdpmomlaa.clL s W hs)
  go_enter Try.func21, Try.ntmps21
  go_wp2_with (go_at_call 24; refine (k.out _).mono ?_; rintro e w' ⟨rfl, hb⟩)
  go_ret
  exact ⟨rfl, hb⟩
set_option maxHeartbeats 4000000 in
theorem pwords_any (s : ByteArray) (w : World) (hs : s.size ≤ 1048576) : Calls Try.prog 15 #[.string s] w fun e w' => ∃ v, e = .returned v ∧ SFresh w' w.heap.size v (Ln.words s.data.toList) ∧ Below w.heap.size w w' := by
  have hF := Lib.hid (fields_any s w (by omega))
  obtain ⟨ws, hws⟩ : ∃ ws, ws = Ln.words s.data.toList := ⟨_, rfl⟩
  have hfew : ws.length ≤ 1048577 := by
    have := Ln.words_few s.data.toList
    rw [hws]
    have e : s.data.toList.length = s.size := by simp
    omega
  have hle : ∀ x ∈ ws, x.length ≤ 1048576 := by
    intro x hx
    rw [hws] at hx
    have := Ln.wgo_short _ _ x hx
    simp only [List.length_nil, Nat.zero_add] at this
    have e : s.data.toList.length = s.size := by simp
    omega
  rw [← hws] at hF ⊢
  obtain ⟨N, hN⟩ : ∃ N, N = ws.length := ⟨_, rfl⟩
  have HN := Lib.hid hN
  rw [← hN] at hF hfew
  have HLE := Lib.hid hle
  clear hws hle hN
  go_enter Try.func15, Try.ntmps15
  go_wp2_with fail
  refine hF.out.mono ?_
  rintro e w1 ⟨A, rfl, q1, q2⟩
  have HS := Lib.hid q1
  have HB := Lib.hid q2
  clear q1 q2
  have k0 : ((0 : Nat) : Int) = 0 := rfl
  go_wp2
  go_loopg [10] N (fun g s10 wr => ∃ k : Nat, k + g = N ∧ s10 = .int .i64 (k : Int) ∧ Hid (SFresh wr w.heap.size (.slice (some ⟨A, 0, none⟩) N N) ws) ∧ Hid (Below w.heap.size w wr))
  case atStart => exact ⟨0, by omega, rfl, HS, HB⟩
  case round =>
    clear k0 HS HB
    obtain ⟨k, hkg, rfl, HS, HB⟩ := hrel
    by_cases hlt : k < N
    · obtain ⟨x, hx⟩ : ∃ x, ws[k]? = some x := ⟨_, List.getElem?_eq_getElem (by have := HN.out; omega)⟩
      have hlen : x.length ≤ 1048576 := HLE.out x (List.mem_of_getElem? hx)
      have hrow := HS.out
      unfold SFresh at hrow
      rw [← HN.out] at hrow
      have hA := (World.ownsRow.lt hrow A rfl)
      have x0 : wr.cell? ⟨A, k, none⟩ = some (scell x) := by rw [World.ownsRow.cellAt hrow k (by omega)]; exact scells_get hx
      obtain ⟨S, hS⟩ : ∃ S : ByteArray, S = ⟨x.toArray⟩ := ⟨_, rfl⟩
      have hSz : S.size ≤ 281474976710656 := by
        rw [hS]
        show x.toArray.size ≤ _
        simp
        omega
      unfold scell at x0
      rw [← hS] at x0
      have HX := Lib.hid (show (scells ws)[k]? = some (.string S) by rw [hS]; exact scells_get hx)
      have HC := Lib.hid (fun W => clone_any S W hSz)
      have HRO := Lib.hid hrow
      have n0 : (0 : Int) ≤ (k : Int) := by omega
      have l0 : (k : Int) < (N : Int) := by omega
      have w0 : IntKind.i64.wrap ((k : Int) + 1) = ((k + 1 : Nat) : Int) := IntWalk.i64_in _ (by omega)
      have hAs := hA.2
      have HA := Lib.hid hA
      clear hrow hx hlen hS hSz hA
      go_wp2_with fail
      refine (HC.out _).mono ?_
      rintro e w2 ⟨rfl, q⟩
      have hro2 : w2.ownsRow w.heap.size 9 1 (.slice (some ⟨A, 0, none⟩) N N) N (scells ws) := by
        have h : SFresh wr w.heap.size (.slice (some ⟨A, 0, none⟩) N N) ws := HS.out
        have := h.below q
        unfold SFresh at this
        rwa [← HN.out] at this
      have x2 : w2.cell? ⟨A, k, none⟩ = some (.string S) := by rw [World.ownsRow.cellAt hro2 k (by omega)]; exact HX.out
      have f2 := World.ownsRow.frozenAt hro2 k
      have hAs2 : A < w2.heap.size := Nat.lt_of_lt_of_le hAs q.size
      have hst := (World.ownsRow.stored hro2 k (.string S)).1
      have hset : (scells ws).set k (.string S) = scells ws := by
        apply List.ext_getElem?
        intro j
        rw [List.getElem?_set]
        split
        · rename_i e
          subst e
          split
          · exact HX.out.symm
          · rename_i h; exact (List.getElem?_eq_none (by omega)).symm
        · rfl
      rw [hset] at hst
      have HS2 := Lib.hid (show SFresh (w2.setCell ⟨A, k, none⟩ (.string S)) w.heap.size (.slice (some ⟨A, 0, none⟩) N N) ws by unfold SFresh; rw [← HN.out]; exact hst)
      have HB2 := Lib.hid (((HB.out.trans (q.mono HB.out.size)).setCell (show w.heap.size ≤ (⟨A, k, none⟩ : Addr).block from HA.out.1) (.string S)))
      clear hro2 hst hset q x0 hAs
      go_wp2
      go_roundg (N - (k + 1))
      case measure => omega
      case rel => exact ⟨k + 1, by omega, by first | rfl | simp, HS2, HB2⟩
    · obtain rfl : k = N := by omega
      have l0 : ¬ (k : Int) < (k : Int) := by omega
      go_wp2
      go_ret
      exact ⟨_, rfl, HS.out, HB.out⟩
end Go.Proofs.Ytiofdlkdpmomlaa
