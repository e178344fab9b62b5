/- The document's answer for fractions: what any text is read as. -/
import Derived.Test.YtimdinmhphihkaaGreatDoorGRqP1
import Derived.Test.YtimdinmhphihkaaGreatDoorGRqP2
set_option linter.unusedSimpArgs false
set_option linter.unusedVariables false
namespace Go.Proofs.YtimdinmhphihkaaGreatDoor
open Go Go.Proofs Go.RowKit Go.Shelf Nu

theorem rnumb (s : ByteArray) {L : List Nat} (hL : L = digs (numv s s.size)) (hs : s.size ≤ 10000) (hd : allDig s) (W : World) :
    Calls Tryz.prog 52 #[.string s] W fun e w' => ∃ a c, e = .returned (.slice a L.length c) ∧ Reads w' (.slice a L.length c) L ∧ Below W.heap.size W w' := by
  subst hL
  refine (rnumber_any s W hs hd).mono ?_
  rintro e w' ⟨v, rfl, g, hb⟩
  obtain ⟨a, c, rfl⟩ := g.form
  exact ⟨a, c, rfl, g, hb⟩
theorem can_signed (n : Bool) (P : Nat) {L : List Nat} (hL : L = digs P) : Can (n && decide (0 < L.length)) L (if n = true then -((P : Nat) : Int) else ((P : Nat) : Int)) := by
  refine ⟨?_, ?_⟩
  · rw [hL, dec_digs]
    cases n with
    | false => simp
    | true => rw [if_pos rfl, Bool.true_and]; exact decide_eq_decide.2 (by omega)
  · rw [hL]; split <;> simp
theorem numb_len {s : ByteArray} {L : List Nat} (hL : L = digs (numv s s.size)) (hd : allDig s) : L.length ≤ s.size := by
  rw [hL]; exact numv_len s s.size (fun j hj => (hd.1 j hj).2)
theorem dig_app {p q : ByteArray} (hp : isNum p) (hq : allDig q) : allDig (p ++ q) := by
  have h1 := num_pos hp
  refine ⟨dall_bt.1 ?_, by rw [ByteArray.size_append]; omega⟩
  rw [data_app]
  intro c hc
  rcases List.mem_append.1 hc with h | h
  · exact isNum_dall hp c h
  · exact dall_bt.2 hq.1 c h
theorem app_val (p q : ByteArray) : numv (p ++ q) (p ++ q).size = dval (p.data.toList ++ q.data.toList) := by rw [numv_all, data_app]
set_option maxRecDepth 100000 in
set_option maxHeartbeats 4000000 in
theorem rq_all_G {w : World} {s : ByteArray} (h1 : s.size ≠ 0) (hb : bt s 0 ≠ 45) (hr : s.size ≤ 2000) {E : Int} {Z : Rat} (h : pres false (psplit s).1 (psplit s).2 = (E, Z)) :
    (E ≠ 0 → Calls Tryz.prog 10 #[.string s] w fun e w' => e = .returned (.tuple #[.agg #[.bool false, .slice none 0 0, .slice none 0 0], .int .i64 E]) ∧ Below w.heap.size w w') ∧
    (E = 0 → ∀ {sZ : Bool} {LZ DZ : List Nat}, RCan sZ LZ DZ Z → Calls Tryz.prog 10 #[.string s] w fun e w' => ∃ a c a' c', e = .returned (.tuple #[.agg #[.bool sZ, .slice a LZ.length c, .slice a' DZ.length c'], .int .i64 0]) ∧ Reads w' (.slice a LZ.length c) LZ ∧ Reads w' (.slice a' DZ.length c') DZ ∧ Below w.heap.size w w') := by
  obtain ⟨K, hK, hC, hk⟩ := first_at s
  rcases hk with hk | ⟨hk, hc⟩ | ⟨hk, hc⟩
  · have e := psplit_A (hk ▸ hC)
    rw [e] at h
    simp only at h
    by_cases n1 : isNum s
    · have N1 := fun W => rnum3_any s W (by omega) true (by simpa using n1)
      have N2 := fun W => rnum3_any ⟨#[49]⟩ W (by decide) true (by simpa using one_num)
      · unfold pres at h
        rw [if_pos ⟨n1, one_num, by decide, .inl rfl⟩] at h
        by_cases l : s.size ≤ 200
        · rw [if_pos ⟨l, by decide⟩] at h
          obtain rfl : 0 = E := congrArg Prod.fst h
          have eZ := (congrArg Prod.snd h).symm
          simp only at eZ
          refine ⟨fun h0 => absurd rfl h0, fun _ {sZ LZ DZ} kZ => ?_⟩
          obtain ⟨Ln, hLn⟩ : ∃ L, L = digs (numv s s.size) := ⟨_, rfl⟩
          obtain ⟨Ld, hLd⟩ : ∃ L, L = digs (numv ⟨#[49]⟩ (⟨#[49]⟩ : ByteArray).size) := ⟨_, rfl⟩
          have bn := numb_len hLn (isNum_all n1)
          have bd := numb_len hLd (isNum_all one_num)
          have b1 : (⟨#[49]⟩ : ByteArray).size = 1 := rfl
          exact rq_GA_OK h1 hb hr hk hC rfl l N1 N2 (fun W => rnumb s hLn (by omega) (isNum_all n1) W) (fun W => rnumb _ hLd (by decide) (isNum_all one_num) W) (fun W a c => rsigned_any false a Ln.length c W) (fun W {a b c d} y1 y2 => rr_lowest (can_signed false _ hLn) hLd (by decide) kZ eZ (by omega) (by omega) y1 y2)
        · rw [if_neg (fun k => l k.1)] at h
          obtain rfl : 3 = E := congrArg Prod.fst h
          exact ⟨fun _ => rq_GA_L1 h1 hb hr hk hC rfl (by omega) N1 N2, fun h0 => absurd h0 (by decide)⟩
    · rw [pres_not1 n1] at h
      obtain rfl : 4 = E := congrArg Prod.fst h
      exact ⟨fun _ => rq_GA_F1 h1 hb hr hk hC rfl (fun W => rnum3_any s W (by omega) false (by simpa using n1)), fun h0 => absurd h0 (by decide)⟩
  · have e := psplit_B hC hk hc
    rw [e] at h
    simp only at h
    obtain ⟨p, hp⟩ : ∃ p, p = s.extract 0 K := ⟨_, rfl⟩
    obtain ⟨q, hq⟩ : ∃ q, q = s.extract (K + 1) s.size := ⟨_, rfl⟩
    rw [← hp, ← hq] at h
    have sp : p.size = K := by rw [hp]; exact ext_size0 (by omega)
    have sq : q.size = s.size - (K + 1) := by rw [hq]; exact ext_sizeN _ _
    by_cases n1 : isNum p
    · have N1 := fun W => rnum3_any p W (by omega) true (by simpa using n1)
      by_cases n2 : isNum q
      · have N2 := fun W => rnum3_any q W (by omega) true (by simpa using n2)
        by_cases q0 : q = ⟨#[48]⟩
        · rw [q0, pres_not3] at h
          obtain rfl : 4 = E := congrArg Prod.fst h
          exact ⟨fun _ => rq_GB_F3 h1 hb hr hk hC hc hp hq q0 N1 N2, fun h0 => absurd h0 (by decide)⟩
        · unfold pres at h
          rw [if_pos ⟨n1, n2, q0, .inl rfl⟩] at h
          by_cases l : p.size ≤ 200
          · by_cases l2 : q.size ≤ 200
            · rw [if_pos ⟨l, l2⟩] at h
              obtain rfl : 0 = E := congrArg Prod.fst h
              have eZ := (congrArg Prod.snd h).symm
              simp only at eZ
              refine ⟨fun h0 => absurd rfl h0, fun _ {sZ LZ DZ} kZ => ?_⟩
              obtain ⟨Ln, hLn⟩ : ∃ L, L = digs (numv p p.size) := ⟨_, rfl⟩
              obtain ⟨Ld, hLd⟩ : ∃ L, L = digs (numv q q.size) := ⟨_, rfl⟩
              have bn := numb_len hLn (isNum_all n1)
              have bd := numb_len hLd (isNum_all n2)
              have d0 : numv q q.size ≠ 0 := fun e => q0 ((num_zero n2).1 e)
              exact rq_GB_OK h1 hb hr hk hC hc hp hq q0 l l2 N1 N2 (fun W => rnumb p hLn (by omega) (isNum_all n1) W) (fun W => rnumb q hLd (by omega) (isNum_all n2) W) (fun W a c => rsigned_any false a Ln.length c W) (fun W {a b c d} y1 y2 => rr_lowest (can_signed false _ hLn) hLd d0 kZ eZ (by omega) (by omega) y1 y2)
            · rw [if_neg (fun k => l2 k.2)] at h
              obtain rfl : 3 = E := congrArg Prod.fst h
              exact ⟨fun _ => rq_GB_L2 h1 hb hr hk hC hc hp hq q0 l (by omega) N1 N2, fun h0 => absurd h0 (by decide)⟩
          · rw [if_neg (fun k => l k.1)] at h
            obtain rfl : 3 = E := congrArg Prod.fst h
            exact ⟨fun _ => rq_GB_L1 h1 hb hr hk hC hc hp hq q0 (by omega) N1 N2, fun h0 => absurd h0 (by decide)⟩
      · rw [pres_not2 n2] at h
        obtain rfl : 4 = E := congrArg Prod.fst h
        exact ⟨fun _ => rq_GB_F2 h1 hb hr hk hC hc hp hq N1 (fun W => rnum3_any q W (by omega) false (by simpa using n2)), fun h0 => absurd h0 (by decide)⟩
    · rw [pres_not1 n1] at h
      obtain rfl : 4 = E := congrArg Prod.fst h
      exact ⟨fun _ => rq_GB_F1 h1 hb hr hk hC hc hp hq (fun W => rnum3_any p W (by omega) false (by simpa using n1)), fun h0 => absurd h0 (by decide)⟩
  · have eN := psplit_C_not hC hk hc false
    have eY := psplit_C hk hc
    obtain ⟨p, hp⟩ : ∃ p, p = s.extract 0 K := ⟨_, rfl⟩
    obtain ⟨q, hq⟩ : ∃ q, q = s.extract (K + 1) s.size := ⟨_, rfl⟩
    rw [← hp, ← hq] at eN eY
    have sp : p.size = K := by rw [hp]; exact ext_size0 (by omega)
    have sq : q.size = s.size - (K + 1) := by rw [hq]; exact ext_sizeN _ _
    by_cases n1 : isNum p
    · have N1 := fun W => rnum3_any p W (by omega) true (by simpa using n1)
      by_cases n2 : allDig q
      · have N2 := fun W => rdigits_any q W (by omega) true (by simpa using n2)
        rw [eY n1 n2] at h
        simp only at h
        rw [pres_point n1 (dall_bt.2 n2.1)] at h
        rw [if_neg (fun k => by cases k.1)] at h
        by_cases l : p.size + q.size ≤ 200
        · rw [if_pos l] at h
          obtain rfl : 0 = E := congrArg Prod.fst h
          have eZ := (congrArg Prod.snd h).symm
          simp only at eZ
          refine ⟨fun h0 => absurd rfl h0, fun _ {sZ LZ DZ} kZ => ?_⟩
          obtain ⟨Ln, hLn⟩ : ∃ L, L = digs (numv (p ++ q) (p ++ q).size) := ⟨_, rfl⟩
          obtain ⟨Ld, hLd⟩ : ∃ L, L = digs (numv (⟨#[49]⟩ ++ zeros q.size) (⟨#[49]⟩ ++ zeros q.size : ByteArray).size) := ⟨_, rfl⟩
          have bn := numb_len hLn (dig_app n1 n2)
          have bd := numb_len hLd (isNum_all (den_num _))
          have s1 : (p ++ q).size = p.size + q.size := ByteArray.size_append
          have s2 := den_size q.size
          have cN := can_signed false _ hLn
          have cD := hLd
          rw [den_val] at cD
          rw [app_val] at cN
          exact rq_GC_OK h1 hb hr hk hC hc hp hq l N1 N2 (fun W => rnumb (p ++ q) hLn (by omega) (dig_app n1 n2) W) (fun W => rnumb _ hLd (by omega) (isNum_all (den_num _)) W) (fun W a c => rsigned_any false a Ln.length c W) (fun W {a b c d} y1 y2 => rr_lowest cN cD (Nat.pos_iff_ne_zero.1 (Nat.pow_pos (by decide))) kZ eZ (by omega) (by omega) y1 y2)
        · rw [if_neg l] at h
          obtain rfl : 3 = E := congrArg Prod.fst h
          exact ⟨fun _ => rq_GC_L h1 hb hr hk hC hc hp hq (by omega) N1 N2, fun h0 => absurd h0 (by decide)⟩
      · rw [eN (fun k => n2 k.2)] at h
        obtain rfl : 4 = E := congrArg Prod.fst h
        exact ⟨fun _ => rq_GC_F2 h1 hb hr hk hC hc hp hq N1 (fun W => rdigits_any q W (by omega) false (by simpa using n2)), fun h0 => absurd h0 (by decide)⟩
    · rw [eN (fun k => n1 k.1)] at h
      obtain rfl : 4 = E := congrArg Prod.fst h
      exact ⟨fun _ => rq_GC_F1 h1 hb hr hk hC hc hp hq (fun W => rnum3_any p W (by omega) false (by simpa using n1)), fun h0 => absurd h0 (by decide)⟩
set_option maxRecDepth 100000 in
set_option maxHeartbeats 4000000 in
theorem rq_all_H {w : World} {s d : ByteArray} (h1 : s.size ≠ 0) (hb : bt s 0 = 45) (hd : ∀ W : World, (Instr.slice 9 (.string s) (some (.int .i64 1)) none none).run Tryz.prog W = .ok (.string d) W) (hr : d.size ≤ 2000) {E : Int} {Z : Rat} (h : pres true (psplit d).1 (psplit d).2 = (E, Z)) :
    (E ≠ 0 → Calls Tryz.prog 10 #[.string s] w fun e w' => e = .returned (.tuple #[.agg #[.bool false, .slice none 0 0, .slice none 0 0], .int .i64 E]) ∧ Below w.heap.size w w') ∧
    (E = 0 → ∀ {sZ : Bool} {LZ DZ : List Nat}, RCan sZ LZ DZ Z → Calls Tryz.prog 10 #[.string s] w fun e w' => ∃ a c a' c', e = .returned (.tuple #[.agg #[.bool sZ, .slice a LZ.length c, .slice a' DZ.length c'], .int .i64 0]) ∧ Reads w' (.slice a LZ.length c) LZ ∧ Reads w' (.slice a' DZ.length c') DZ ∧ Below w.heap.size w w') := by
  obtain ⟨K, hK, hC, hk⟩ := first_at d
  rcases hk with hk | ⟨hk, hc⟩ | ⟨hk, hc⟩
  · have e := psplit_A (hk ▸ hC)
    rw [e] at h
    simp only at h
    by_cases n1 : isNum d
    · have N1 := fun W => rnum3_any d W (by omega) true (by simpa using n1)
      have N2 := fun W => rnum3_any ⟨#[49]⟩ W (by decide) true (by simpa using one_num)
      by_cases z : d = ⟨#[48]⟩
      · rw [z, pres_not4] at h
        obtain rfl : 4 = E := congrArg Prod.fst h
        exact ⟨fun _ => rq_HA_Z h1 hb hd hr hk hC rfl z N1 N2, fun h0 => absurd h0 (by decide)⟩
      · unfold pres at h
        rw [if_pos ⟨n1, one_num, by decide, .inr z⟩] at h
        by_cases l : d.size ≤ 200
        · rw [if_pos ⟨l, by decide⟩] at h
          obtain rfl : 0 = E := congrArg Prod.fst h
          have eZ := (congrArg Prod.snd h).symm
          simp only at eZ
          refine ⟨fun h0 => absurd rfl h0, fun _ {sZ LZ DZ} kZ => ?_⟩
          obtain ⟨Ln, hLn⟩ : ∃ L, L = digs (numv d d.size) := ⟨_, rfl⟩
          obtain ⟨Ld, hLd⟩ : ∃ L, L = digs (numv ⟨#[49]⟩ (⟨#[49]⟩ : ByteArray).size) := ⟨_, rfl⟩
          have bn := numb_len hLn (isNum_all n1)
          have bd := numb_len hLd (isNum_all one_num)
          have b1 : (⟨#[49]⟩ : ByteArray).size = 1 := rfl
          exact rq_HA_OK h1 hb hd hr hk hC rfl z l N1 N2 (fun W => rnumb d hLn (by omega) (isNum_all n1) W) (fun W => rnumb _ hLd (by decide) (isNum_all one_num) W) (fun W a c => rsigned_any true a Ln.length c W) (fun W {a b c d} y1 y2 => rr_lowest (can_signed true _ hLn) hLd (by decide) kZ eZ (by omega) (by omega) y1 y2)
        · rw [if_neg (fun k => l k.1)] at h
          obtain rfl : 3 = E := congrArg Prod.fst h
          exact ⟨fun _ => rq_HA_L1 h1 hb hd hr hk hC rfl z (by omega) N1 N2, fun h0 => absurd h0 (by decide)⟩
    · rw [pres_not1 n1] at h
      obtain rfl : 4 = E := congrArg Prod.fst h
      exact ⟨fun _ => rq_HA_F1 h1 hb hd hr hk hC rfl (fun W => rnum3_any d W (by omega) false (by simpa using n1)), fun h0 => absurd h0 (by decide)⟩
  · have e := psplit_B hC hk hc
    rw [e] at h
    simp only at h
    obtain ⟨p, hp⟩ : ∃ p, p = d.extract 0 K := ⟨_, rfl⟩
    obtain ⟨q, hq⟩ : ∃ q, q = d.extract (K + 1) d.size := ⟨_, rfl⟩
    rw [← hp, ← hq] at h
    have sp : p.size = K := by rw [hp]; exact ext_size0 (by omega)
    have sq : q.size = d.size - (K + 1) := by rw [hq]; exact ext_sizeN _ _
    by_cases n1 : isNum p
    · have N1 := fun W => rnum3_any p W (by omega) true (by simpa using n1)
      by_cases n2 : isNum q
      · have N2 := fun W => rnum3_any q W (by omega) true (by simpa using n2)
        by_cases q0 : q = ⟨#[48]⟩
        · rw [q0, pres_not3] at h
          obtain rfl : 4 = E := congrArg Prod.fst h
          exact ⟨fun _ => rq_HB_F3 h1 hb hd hr hk hC hc hp hq q0 N1 N2, fun h0 => absurd h0 (by decide)⟩
        · by_cases z : p = ⟨#[48]⟩
          · rw [z, pres_not4] at h
            obtain rfl : 4 = E := congrArg Prod.fst h
            exact ⟨fun _ => rq_HB_Z h1 hb hd hr hk hC hc hp hq q0 z N1 N2, fun h0 => absurd h0 (by decide)⟩
          · unfold pres at h
            rw [if_pos ⟨n1, n2, q0, .inr z⟩] at h
            by_cases l : p.size ≤ 200
            · by_cases l2 : q.size ≤ 200
              · rw [if_pos ⟨l, l2⟩] at h
                obtain rfl : 0 = E := congrArg Prod.fst h
                have eZ := (congrArg Prod.snd h).symm
                simp only at eZ
                refine ⟨fun h0 => absurd rfl h0, fun _ {sZ LZ DZ} kZ => ?_⟩
                obtain ⟨Ln, hLn⟩ : ∃ L, L = digs (numv p p.size) := ⟨_, rfl⟩
                obtain ⟨Ld, hLd⟩ : ∃ L, L = digs (numv q q.size) := ⟨_, rfl⟩
                have bn := numb_len hLn (isNum_all n1)
                have bd := numb_len hLd (isNum_all n2)
                have d0 : numv q q.size ≠ 0 := fun e => q0 ((num_zero n2).1 e)
                exact rq_HB_OK h1 hb hd hr hk hC hc hp hq q0 z l l2 N1 N2 (fun W => rnumb p hLn (by omega) (isNum_all n1) W) (fun W => rnumb q hLd (by omega) (isNum_all n2) W) (fun W a c => rsigned_any true a Ln.length c W) (fun W {a b c d} y1 y2 => rr_lowest (can_signed true _ hLn) hLd d0 kZ eZ (by omega) (by omega) y1 y2)
              · rw [if_neg (fun k => l2 k.2)] at h
                obtain rfl : 3 = E := congrArg Prod.fst h
                exact ⟨fun _ => rq_HB_L2 h1 hb hd hr hk hC hc hp hq q0 z l (by omega) N1 N2, fun h0 => absurd h0 (by decide)⟩
            · rw [if_neg (fun k => l k.1)] at h
              obtain rfl : 3 = E := congrArg Prod.fst h
              exact ⟨fun _ => rq_HB_L1 h1 hb hd hr hk hC hc hp hq q0 z (by omega) N1 N2, fun h0 => absurd h0 (by decide)⟩
      · rw [pres_not2 n2] at h
        obtain rfl : 4 = E := congrArg Prod.fst h
        exact ⟨fun _ => rq_HB_F2 h1 hb hd hr hk hC hc hp hq N1 (fun W => rnum3_any q W (by omega) false (by simpa using n2)), fun h0 => absurd h0 (by decide)⟩
    · rw [pres_not1 n1] at h
      obtain rfl : 4 = E := congrArg Prod.fst h
      exact ⟨fun _ => rq_HB_F1 h1 hb hd hr hk hC hc hp hq (fun W => rnum3_any p W (by omega) false (by simpa using n1)), fun h0 => absurd h0 (by decide)⟩
  · have eN := psplit_C_not hC hk hc true
    have eY := psplit_C hk hc
    obtain ⟨p, hp⟩ : ∃ p, p = d.extract 0 K := ⟨_, rfl⟩
    obtain ⟨q, hq⟩ : ∃ q, q = d.extract (K + 1) d.size := ⟨_, rfl⟩
    rw [← hp, ← hq] at eN eY
    have sp : p.size = K := by rw [hp]; exact ext_size0 (by omega)
    have sq : q.size = d.size - (K + 1) := by rw [hq]; exact ext_sizeN _ _
    by_cases n1 : isNum p
    · have N1 := fun W => rnum3_any p W (by omega) true (by simpa using n1)
      by_cases n2 : allDig q
      · have N2 := fun W => rdigits_any q W (by omega) true (by simpa using n2)
        rw [eY n1 n2] at h
        simp only at h
        rw [pres_point n1 (dall_bt.2 n2.1)] at h
        have hz := noughts_dval n1 n2
        by_cases z1 : allNought p
        · have N3 := fun W => rnoughts_any p W (by omega) true (by simpa using z1)
          by_cases z2 : allNought q
          · have N4 := fun W => rnoughts_any q W (by omega) true (by simpa using z2)
            rw [if_pos ⟨rfl, hz.1 ⟨z1, z2⟩⟩] at h
            obtain rfl : 4 = E := congrArg Prod.fst h
            exact ⟨fun _ => rq_HC_Z h1 hb hd hr hk hC hc hp hq N1 N2 N3 N4, fun h0 => absurd h0 (by decide)⟩
          · have N4 := fun W => rnoughts_any q W (by omega) false (by simpa using z2)
            rw [if_neg (fun k => z2 (hz.2 k.2).2)] at h
            by_cases l : p.size + q.size ≤ 200
            · rw [if_pos l] at h
              obtain rfl : 0 = E := congrArg Prod.fst h
              have eZ := (congrArg Prod.snd h).symm
              simp only at eZ
              refine ⟨fun h0 => absurd rfl h0, fun _ {sZ LZ DZ} kZ => ?_⟩
              obtain ⟨Ln, hLn⟩ : ∃ L, L = digs (numv (p ++ q) (p ++ q).size) := ⟨_, rfl⟩
              obtain ⟨Ld, hLd⟩ : ∃ L, L = digs (numv (⟨#[49]⟩ ++ zeros q.size) (⟨#[49]⟩ ++ zeros q.size : ByteArray).size) := ⟨_, rfl⟩
              have bn := numb_len hLn (dig_app n1 n2)
              have bd := numb_len hLd (isNum_all (den_num _))
              have s1 : (p ++ q).size = p.size + q.size := ByteArray.size_append
              have s2 := den_size q.size
              have cN := can_signed true _ hLn
              have cD := hLd
              rw [den_val] at cD
              rw [app_val] at cN
              exact rq_HC_OKb h1 hb hd hr hk hC hc hp hq l N1 N2 N3 N4 (fun W => rnumb (p ++ q) hLn (by omega) (dig_app n1 n2) W) (fun W => rnumb _ hLd (by omega) (isNum_all (den_num _)) W) (fun W a c => rsigned_any true a Ln.length c W) (fun W {a b c d} y1 y2 => rr_lowest cN cD (Nat.pos_iff_ne_zero.1 (Nat.pow_pos (by decide))) kZ eZ (by omega) (by omega) y1 y2)
            · rw [if_neg l] at h
              obtain rfl : 3 = E := congrArg Prod.fst h
              exact ⟨fun _ => rq_HC_Lb h1 hb hd hr hk hC hc hp hq (by omega) N1 N2 N3 N4, fun h0 => absurd h0 (by decide)⟩
        · have N3 := fun W => rnoughts_any p W (by omega) false (by simpa using z1)
          rw [if_neg (fun k => z1 (hz.2 k.2).1)] at h
          by_cases l : p.size + q.size ≤ 200
          · rw [if_pos l] at h
            obtain rfl : 0 = E := congrArg Prod.fst h
            have eZ := (congrArg Prod.snd h).symm
            simp only at eZ
            refine ⟨fun h0 => absurd rfl h0, fun _ {sZ LZ DZ} kZ => ?_⟩
            obtain ⟨Ln, hLn⟩ : ∃ L, L = digs (numv (p ++ q) (p ++ q).size) := ⟨_, rfl⟩
            obtain ⟨Ld, hLd⟩ : ∃ L, L = digs (numv (⟨#[49]⟩ ++ zeros q.size) (⟨#[49]⟩ ++ zeros q.size : ByteArray).size) := ⟨_, rfl⟩
            have bn := numb_len hLn (dig_app n1 n2)
            have bd := numb_len hLd (isNum_all (den_num _))
            have s1 : (p ++ q).size = p.size + q.size := ByteArray.size_append
            have s2 := den_size q.size
            have cN := can_signed true _ hLn
            have cD := hLd
            rw [den_val] at cD
            rw [app_val] at cN
            exact rq_HC_OKa h1 hb hd hr hk hC hc hp hq l N1 N2 N3 (fun W => rnumb (p ++ q) hLn (by omega) (dig_app n1 n2) W) (fun W => rnumb _ hLd (by omega) (isNum_all (den_num _)) W) (fun W a c => rsigned_any true a Ln.length c W) (fun W {a b c d} y1 y2 => rr_lowest cN cD (Nat.pos_iff_ne_zero.1 (Nat.pow_pos (by decide))) kZ eZ (by omega) (by omega) y1 y2)
          · rw [if_neg l] at h
            obtain rfl : 3 = E := congrArg Prod.fst h
            exact ⟨fun _ => rq_HC_La h1 hb hd hr hk hC hc hp hq (by omega) N1 N2 N3, fun h0 => absurd h0 (by decide)⟩
      · rw [eN (fun k => n2 k.2)] at h
        obtain rfl : 4 = E := congrArg Prod.fst h
        exact ⟨fun _ => rq_HC_F2 h1 hb hd hr hk hC hc hp hq N1 (fun W => rdigits_any q W (by omega) false (by simpa using n2)), fun h0 => absurd h0 (by decide)⟩
    · rw [eN (fun k => n1 k.1)] at h
      obtain rfl : 4 = E := congrArg Prod.fst h
      exact ⟨fun _ => rq_HC_F1 h1 hb hd hr hk hC hc hp hq (fun W => rnum3_any p W (by omega) false (by simpa using n1)), fun h0 => absurd h0 (by decide)⟩
theorem rq_all {w : World} {s : ByteArray} (hs : s.size ≤ 2000) {E : Int} {Z : Rat} (h : pout s = (E, Z)) :
    (E ≠ 0 → Calls Tryz.prog 10 #[.string s] w fun e w' => e = .returned (.tuple #[.agg #[.bool false, .slice none 0 0, .slice none 0 0], .int .i64 E]) ∧ Below w.heap.size w w') ∧
    (E = 0 → ∀ {sZ : Bool} {LZ DZ : List Nat}, RCan sZ LZ DZ Z → Calls Tryz.prog 10 #[.string s] w fun e w' => ∃ a c a' c', e = .returned (.tuple #[.agg #[.bool sZ, .slice a LZ.length c, .slice a' DZ.length c'], .int .i64 0]) ∧ Reads w' (.slice a LZ.length c) LZ ∧ Reads w' (.slice a' DZ.length c') DZ ∧ Below w.heap.size w w') := by
  unfold pout at h
  by_cases h1 : s.size = 0
  · obtain ⟨k1, k2⟩ := hyphen_no (.inl h1)
    obtain rfl := no_bytesR s h1
    rw [k1, k2, psplit_A (s := ⟨#[]⟩) (fun j hj => absurd hj (Nat.not_lt_zero j)), pres_not1 empty_num] at h
    obtain rfl : 4 = E := congrArg Prod.fst h
    exact ⟨fun _ => rq_EA_F1 hs rfl (fun j hj => absurd hj (Nat.not_lt_zero j)) rfl (fun W => rnum3_any _ W (by decide) false (by simpa using empty_num)), fun h0 => absurd h0 (by decide)⟩
  · by_cases hb : bt s 0 = 45
    · obtain ⟨k1, k2⟩ := hyphen_yes (by omega) hb
      rw [k1, k2] at h
      obtain ⟨d, hd⟩ : ∃ d, d = s.extract 1 s.size := ⟨_, rfl⟩
      rw [← hd] at h
      have hsl : ∀ W : World, (Instr.slice 9 (.string s) (some (.int .i64 1)) none none).run Tryz.prog W = .ok (.string d) W := fun W => by
        rw [hd]
        exact run_slice_string_l W _ s (by kernel_rfl) .i64 1 (by decide) (by omega)
      exact rq_all_H h1 hb hsl (by rw [hd, ByteArray.size_extract]; omega) h
    · obtain ⟨k1, k2⟩ := hyphen_no (.inr hb)
      rw [k1, k2] at h
      exact rq_all_G h1 hb hs h
theorem rr_parse_err (s : ByteArray) (hs : s.size ≤ 2000) {E : Int} {Z : Rat} (h : pout s = (E, Z)) (h0 : E ≠ 0) (w : World) :
    Calls Tryz.prog 10 #[.string s] w fun e w' => e = .returned (.tuple #[.agg #[.bool false, .slice none 0 0, .slice none 0 0], .int .i64 E]) ∧ Below w.heap.size w w' := (rq_all hs h).1 h0
theorem rr_parse_val (s : ByteArray) (hs : s.size ≤ 2000) {Z : Rat} (h : pout s = (0, Z)) {sZ : Bool} {LZ DZ : List Nat} (kZ : RCan sZ LZ DZ Z) (w : World) :
    Calls Tryz.prog 10 #[.string s] w fun e w' => ∃ a c a' c', e = .returned (.tuple #[.agg #[.bool sZ, .slice a LZ.length c, .slice a' DZ.length c'], .int .i64 0]) ∧ Reads w' (.slice a LZ.length c) LZ ∧ Reads w' (.slice a' DZ.length c') DZ ∧ Below w.heap.size w w' := (rq_all hs h).2 rfl kZ

end Go.Proofs.YtimdinmhphihkaaGreatDoor
