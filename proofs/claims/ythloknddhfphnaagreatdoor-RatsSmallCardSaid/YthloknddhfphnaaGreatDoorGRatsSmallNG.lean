/- Fractions: RatsSmall: a walk of it. -/
import Derived.Deep.RegionHeld3
import Derived.Test.YthloknddhfphnaaGreatDoorGRatsSmallM
set_option linter.unusedSimpArgs false
set_option linter.unusedVariables false
namespace Go.Proofs.YthloknddhfphnaaGreatDoor
open Go Go.Proofs Go.RowKit Go.Shelf Nu

attribute [local go_sem] Oper.semAt_some

set_option maxRecDepth 100000 in
set_option maxHeartbeats 16000000 in
theorem rsmall_ng {w : World} {m n u1 u2 : Int} (m1 : -32768 ≤ m) (m2 : m ≤ 32767) (n1 : -32768 ≤ n) (n2 : n ≤ 32767) (e1 : 0 ≤ u1) (f1 : u1 ≤ 65535) (e2 : 0 ≤ u2) (f2 : u2 ≤ 65535) (hn : n ≠ 0) (hr : ¬ m.tmod (u1 + 1) < 0) :
    Calls Tryz.prog 8 #[.int .i16 m, .int .i16 n, .agg #[.int .u16 u1, .int .u16 u2]] w fun e w' => e = .returned (.bool true) ∧ Below w.heap.size w w' := by
  obtain ⟨p, hp⟩ : ∃ p : Int, p = u1 + 1 := ⟨_, rfl⟩
  obtain ⟨q, hq⟩ : ∃ q : Int, q = u2 + 1 := ⟨_, rfl⟩
  rw [← hp] at hr
  have bp : 1 ≤ p ∧ p ≤ 65536 := by omega
  have bq : 1 ≤ q ∧ q ≤ 65536 := by omega
  have hF := small_quo (m := m) bp.1
  rw [if_neg hr] at hF
  have bF : -2147483648 ≤ m / p ∧ m / p ≤ 2147483648 := ⟨(Int.le_ediv_iff_mul_le (by omega)).2 (by omega), by have := (Int.ediv_lt_iff_lt_mul (a := m) (b := 2147483648) (c := p) (by omega)).2 (by omega); omega⟩
  obtain ⟨fl, hfl⟩ : ∃ f : Int, f = m / p := ⟨_, rfl⟩
  rw [← hfl] at hF bF
  obtain ⟨f0, hf0⟩ : ∃ f : Int, f = m.tdiv p := ⟨_, rfl⟩
  rw [← hf0] at hF
  obtain ⟨r0, hr0⟩ : ∃ f : Int, f = m.tmod p := ⟨_, rfl⟩
  rw [← hr0] at hr
  obtain ⟨mq, hmq⟩ : ∃ z : Int, z = m * q := ⟨_, rfl⟩
  have bmq : -4294967296 ≤ mq ∧ mq ≤ 4294967296 := by rw [hmq]; have := small_prod (x := m) (y := q) (a := 32768) (b := 65536) (by omega) (by omega); omega
  obtain ⟨np, hnp⟩ : ∃ z : Int, z = n * p := ⟨_, rfl⟩
  have bnp : -4294967296 ≤ np ∧ np ≤ 4294967296 := by rw [hnp]; have := small_prod (x := n) (y := p) (a := 32768) (b := 65536) (by omega) (by omega); omega
  obtain ⟨pq, hpq⟩ : ∃ z : Int, z = p * q := ⟨_, rfl⟩
  have bpq : -4294967296 ≤ pq ∧ pq ≤ 4294967296 := by rw [hpq]; have := small_prod (x := p) (y := q) (a := 65536) (b := 65536) (by omega) (by omega); omega
  obtain ⟨mn, hmn⟩ : ∃ z : Int, z = m * n := ⟨_, rfl⟩
  have bmn : -4294967296 ≤ mn ∧ mn ≤ 4294967296 := by rw [hmn]; have := small_prod (x := m) (y := n) (a := 32768) (b := 32768) (by omega) (by omega); omega
  obtain ⟨pn, hpn⟩ : ∃ z : Int, z = p * n := ⟨_, rfl⟩
  have bpn : -4294967296 ≤ pn ∧ pn ≤ 4294967296 := by rw [hpn]; have := small_prod (x := p) (y := n) (a := 65536) (b := 32768) (by omega) (by omega); omega
  obtain ⟨sm, hsm⟩ : ∃ z : Int, z = mq + np := ⟨_, rfl⟩
  have bsm : -8589934592 ≤ sm ∧ sm ≤ 8589934592 := by omega
  have hpq0 : pq ≠ 0 := by rw [hpq]; exact Int.mul_ne_zero (by omega) (by omega)
  have hpn0 : pn ≠ 0 := by rw [hpn]; exact Int.mul_ne_zero (by omega) hn
  obtain ⟨sX, LX, DX, cX⟩ := RCan.ex (((m : Int) : Rat) / ((p : Int) : Rat))
  have RX : rl (((m : Int) : Rat) / ((p : Int) : Rat)) ≤ 6 := by exact rl_quot (by omega) (by omega) (by omega)
  have bX : LX.length ≤ 9999 ∧ DX.length ≤ 9999 := by have := cX.len; omega
  obtain ⟨sY, LY, DY, cY⟩ := RCan.ex (((n : Int) : Rat) / ((q : Int) : Rat))
  have RY : rl (((n : Int) : Rat) / ((q : Int) : Rat)) ≤ 6 := by exact rl_quot (by omega) (by omega) (by omega)
  have bY : LY.length ≤ 9999 ∧ DY.length ≤ 9999 := by have := cY.len; omega
  obtain ⟨sG, LG, cG⟩ := Can.ex (fl)
  have bG : LG.length ≤ 2 := by exact can_len64 cG (by omega) (by omega)
  obtain ⟨sZ, LZ, DZ, cZ⟩ := RCan.ex (((m : Int) : Rat) / ((p : Int) : Rat) / (((n : Int) : Rat) / ((q : Int) : Rat)))
  have RZ : rl (((m : Int) : Rat) / ((p : Int) : Rat) / (((n : Int) : Rat) / ((q : Int) : Rat))) ≤ 12 := by have := rl_mul (X := ((m : Int) : Rat) / ((p : Int) : Rat)) (Y := (((n : Int) : Rat) / ((q : Int) : Rat))⁻¹) (Z := ((m : Int) : Rat) / ((p : Int) : Rat) / (((n : Int) : Rat) / ((q : Int) : Rat))) (Rat.div_def _ _); have h2 := rl_inv (X := ((n : Int) : Rat) / ((q : Int) : Rat)) (by exact small_ne (by omega) hn); omega
  have bZ : LZ.length ≤ 9999 ∧ DZ.length ≤ 9999 := by have := cZ.len; omega
  obtain ⟨sC, LC, DC, cC⟩ := RCan.ex (((mq : Int) : Rat) / ((pn : Int) : Rat))
  have RC : rl (((mq : Int) : Rat) / ((pn : Int) : Rat)) ≤ 6 := by exact rl_quot (by omega) (by omega) (by omega)
  have bC : LC.length ≤ 9999 ∧ DC.length ≤ 9999 := by have := cC.len; omega
  obtain ⟨sS, LS, DS, cS⟩ := RCan.ex (((m : Int) : Rat) / ((p : Int) : Rat) + ((n : Int) : Rat) / ((q : Int) : Rat))
  have RS : rl (((m : Int) : Rat) / ((p : Int) : Rat) + ((n : Int) : Rat) / ((q : Int) : Rat)) ≤ 25 := by have := rl_sum (X := ((m : Int) : Rat) / ((p : Int) : Rat)) (Y := ((n : Int) : Rat) / ((q : Int) : Rat)) (.inl rfl); omega
  have bS : LS.length ≤ 9999 ∧ DS.length ≤ 9999 := by have := cS.len; omega
  obtain ⟨sT, LT, DT, cT⟩ := RCan.ex (((sm : Int) : Rat) / ((pq : Int) : Rat))
  have RT : rl (((sm : Int) : Rat) / ((pq : Int) : Rat)) ≤ 6 := by exact rl_quot (by omega) (by omega) (by omega)
  have bT : LT.length ≤ 9999 ∧ DT.length ≤ 9999 := by have := cT.len; omega
  obtain ⟨sP, LP, DP, cP⟩ := RCan.ex (((m : Int) : Rat) / ((p : Int) : Rat) * (((n : Int) : Rat) / ((q : Int) : Rat)))
  have RP : rl (((m : Int) : Rat) / ((p : Int) : Rat) * (((n : Int) : Rat) / ((q : Int) : Rat))) ≤ 12 := by have := rl_mul (X := ((m : Int) : Rat) / ((p : Int) : Rat)) (Y := ((n : Int) : Rat) / ((q : Int) : Rat)) rfl; omega
  have bP : LP.length ≤ 9999 ∧ DP.length ≤ 9999 := by have := cP.len; omega
  obtain ⟨sU, LU, DU, cU⟩ := RCan.ex (((mn : Int) : Rat) / ((pq : Int) : Rat))
  have RU : rl (((mn : Int) : Rat) / ((pq : Int) : Rat)) ≤ 6 := by exact rl_quot (by omega) (by omega) (by omega)
  have bU : LU.length ≤ 9999 ∧ DU.length ≤ 9999 := by have := cU.len; omega
  obtain ⟨sO, LO, DO, cO⟩ := RCan.ex ((m : Rat))
  have RO : rl ((m : Rat)) ≤ 6 := by have := rl_int m; have h2 : (digs m.natAbs).length ≤ 2 := len64 (by omega); omega
  have bO : LO.length ≤ 9999 ∧ DO.length ≤ 9999 := by have := cO.len; omega
  obtain ⟨sV, LV, DV, cV⟩ := RCan.ex (((m : Int) : Rat) / ((1 : Int) : Rat))
  have RV : rl (((m : Int) : Rat) / ((1 : Int) : Rat)) ≤ 6 := by exact rl_quot (by decide) (by omega) (by decide)
  have bV : LV.length ≤ 9999 ∧ DV.length ≤ 9999 := by have := cV.len; omega
  obtain ⟨zc, hzc⟩ : ∃ z, rsg (((m : Int) : Rat) / ((p : Int) : Rat)) (((n : Int) : Rat) / ((q : Int) : Rat)) = z := ⟨_, rfl⟩
  have jz : decide (mq < np) = (zc == -1) := by rw [hmq, hnp]; exact small_cmp bp.1 bq.1 hzc
  have fw1 : IntKind.i64.wrap m = m := IntWalk.i64_in _ (by omega)
  have fw2 : IntKind.i64.wrap n = n := IntWalk.i64_in _ (by omega)
  have fw3 : IntKind.i64.wrap u1 = u1 := IntWalk.i64_in _ (by omega)
  have fw4 : IntKind.i64.wrap u2 = u2 := IntWalk.i64_in _ (by omega)
  have fw5 : IntKind.i64.wrap (u1 + 1) = p := by rw [hp]; exact IntWalk.i64_in _ (by omega)
  have fw6 : IntKind.i64.wrap (u2 + 1) = q := by rw [hq]; exact IntWalk.i64_in _ (by omega)
  have fw7 : m.tdiv p = fl := by rw [hF]; exact hf0.symm
  have fw7' : IntKind.i64.wrap fl = fl := IntWalk.i64_in _ (by omega)
  have fw8 : m.tmod p = r0 := hr0.symm
  have fw8' : IntKind.i64.wrap r0 = r0 := IntWalk.i64_in _ (by have := Int.tmod_lt_of_pos m (show 0 < p by omega); have h2 := Int.tmod_lt_of_pos (-m) (show 0 < p by omega); rw [Int.neg_tmod] at h2; omega)
  have j1 : decide (r0 < 0) = false := decide_eq_false hr
  have j2 : ¬ p = 0 := by omega
  have j3 : (p == 0) = false := by simp [j2]
  have j4 : decide (p = 0) = false := decide_eq_false j2
  have j5 : (n == 0) = false := by simp [hn]
  have j7 : (n != 0) = true := by simp [hn]
  have j6 : decide (n = 0) = false := decide_eq_false hn
  have v1 : IntKind.i64.wrap (m * q) = mq := by rw [← hmq]; exact IntWalk.i64_in _ (by omega)
  have v2 : IntKind.i64.wrap (n * p) = np := by rw [← hnp]; exact IntWalk.i64_in _ (by omega)
  have v3 : IntKind.i64.wrap (p * q) = pq := by rw [← hpq]; exact IntWalk.i64_in _ (by omega)
  have v4 : IntKind.i64.wrap (m * n) = mn := by rw [← hmn]; exact IntWalk.i64_in _ (by omega)
  have v5 : IntKind.i64.wrap (p * n) = pn := by rw [← hpn]; exact IntWalk.i64_in _ (by omega)
  have v6 : IntKind.i64.wrap (mq + np) = sm := by rw [← hsm]; exact IntWalk.i64_in _ (by omega)
  have tok6 : True := trivial
  have tok7 : True := trivial
  have tok8 : True := trivial
  have tok9 : True := trivial
  have tok10 : True := trivial
  have tok11 : True := trivial
  have tok12 : True := trivial
  have tok13 : True := trivial
  have tok14 : True := trivial
  have tok15 : True := trivial
  have tok16 : True := trivial
  have tok17 : True := trivial
  have k1 := fun (W : World) => r_lof (m) (p) W cX (rfl) (by omega) (by omega) (by omega) (by omega) (by omega)
  have k2 := fun (W : World) => r_lof (n) (q) W cY (rfl) (by omega) (by omega) (by omega) (by omega) (by omega)
  have k3 := fun (W : World) {aa10 : Option Addr} {ee10 : Nat} {aa11 : Option Addr} {ee11 : Nat} (g1 : Reads W (.slice aa10 LX.length ee10) LX) (h1 : Reads W (.slice aa11 DX.length ee11) DX) => r_floor cX.is (X := ((m : Int) : Rat) / ((p : Int) : Rat)) (s := sG) (L := LG) (by rw [small_floor (by omega), ← hfl]; exact cG) (by omega) (by omega) g1 h1
  have k4 := fun (W : World) {a : Option Addr} {e : Nat} (g1 : Reads W (.slice a LG.length e) LG) => q_back fl cG g1 (by omega) (by omega)
  have k5 := fun (W : World) {aa10 : Option Addr} {ee10 : Nat} {aa11 : Option Addr} {ee11 : Nat} {aa20 : Option Addr} {ee20 : Nat} {aa21 : Option Addr} {ee21 : Nat} (g1 : Reads W (.slice aa10 LX.length ee10) LX) (h1 : Reads W (.slice aa11 DX.length ee11) DX) (g2 : Reads W (.slice aa20 LY.length ee20) LY) (h2 : Reads W (.slice aa21 DY.length ee21) DY) => r_div_ok cX cY (by exact small_ne (by omega) hn) cZ rfl (by omega) (by omega) (by omega) (by omega) g1 h1 g2 h2
  have k6 := fun (W : World) => r_lof mq pn W cC (rfl) (by omega) (by omega) (by omega) (by omega) (by omega)
  have k7 := fun (W : World) {aa10 : Option Addr} {ee10 : Nat} {aa11 : Option Addr} {ee11 : Nat} {aa20 : Option Addr} {ee20 : Nat} {aa21 : Option Addr} {ee21 : Nat} (g1 : Reads W (.slice aa10 LZ.length ee10) LZ) (h1 : Reads W (.slice aa11 DZ.length ee11) DZ) (g2 : Reads W (.slice aa20 LC.length ee20) LC) (h2 : Reads W (.slice aa21 DC.length ee21) DC) => r_same true cZ cC (decide_eq_true (by rw [hmq, hpn]; exact (small_div bp.1 bq.1 hn).symm)) (by omega) (by omega) (by omega) (by omega) g1 h1 g2 h2
  have k8 := fun (W : World) {aa10 : Option Addr} {ee10 : Nat} {aa11 : Option Addr} {ee11 : Nat} {aa20 : Option Addr} {ee20 : Nat} {aa21 : Option Addr} {ee21 : Nat} (g1 : Reads W (.slice aa10 LX.length ee10) LX) (h1 : Reads W (.slice aa11 DX.length ee11) DX) (g2 : Reads W (.slice aa20 LY.length ee20) LY) (h2 : Reads W (.slice aa21 DY.length ee21) DY) => r_add cX.is cY.is cS (rfl) (by omega) (by omega) (by omega) (by omega) g1 h1 g2 h2
  have k9 := fun (W : World) => r_lof (sm) (pq) W cT (rfl) (by omega) (by omega) (by omega) (by omega) (by omega)
  have k10 := fun (W : World) {aa10 : Option Addr} {ee10 : Nat} {aa11 : Option Addr} {ee11 : Nat} {aa20 : Option Addr} {ee20 : Nat} {aa21 : Option Addr} {ee21 : Nat} (g1 : Reads W (.slice aa10 LS.length ee10) LS) (h1 : Reads W (.slice aa11 DS.length ee11) DS) (g2 : Reads W (.slice aa20 LT.length ee20) LT) (h2 : Reads W (.slice aa21 DT.length ee21) DT) => r_same true cS cT (decide_eq_true (by rw [hsm, hmq, hnp, hpq]; exact (small_sum bp.1 bq.1).symm)) (by omega) (by omega) (by omega) (by omega) g1 h1 g2 h2
  have k11 := fun (W : World) {aa10 : Option Addr} {ee10 : Nat} {aa11 : Option Addr} {ee11 : Nat} {aa20 : Option Addr} {ee20 : Nat} {aa21 : Option Addr} {ee21 : Nat} (g1 : Reads W (.slice aa10 LX.length ee10) LX) (h1 : Reads W (.slice aa11 DX.length ee11) DX) (g2 : Reads W (.slice aa20 LY.length ee20) LY) (h2 : Reads W (.slice aa21 DY.length ee21) DY) => r_mul cX.is cY.is cP (rfl) (by omega) (by omega) (by omega) (by omega) g1 h1 g2 h2
  have k12 := fun (W : World) => r_lof (mn) (pq) W cU (rfl) (by omega) (by omega) (by omega) (by omega) (by omega)
  have k13 := fun (W : World) {aa10 : Option Addr} {ee10 : Nat} {aa11 : Option Addr} {ee11 : Nat} {aa20 : Option Addr} {ee20 : Nat} {aa21 : Option Addr} {ee21 : Nat} (g1 : Reads W (.slice aa10 LP.length ee10) LP) (h1 : Reads W (.slice aa11 DP.length ee11) DP) (g2 : Reads W (.slice aa20 LU.length ee20) LU) (h2 : Reads W (.slice aa21 DU.length ee21) DU) => r_same true cP cU (decide_eq_true (by rw [hmn, hpq]; exact (small_mul bp.1 bq.1).symm)) (by omega) (by omega) (by omega) (by omega) g1 h1 g2 h2
  have k14 := fun (W : World) {aa10 : Option Addr} {ee10 : Nat} {aa11 : Option Addr} {ee11 : Nat} {aa20 : Option Addr} {ee20 : Nat} {aa21 : Option Addr} {ee21 : Nat} (g1 : Reads W (.slice aa10 LX.length ee10) LX) (h1 : Reads W (.slice aa11 DX.length ee11) DX) (g2 : Reads W (.slice aa20 LY.length ee20) LY) (h2 : Reads W (.slice aa21 DY.length ee21) DY) => r_cmp (zc) (hzc) cX.is cY.is (by omega) (by omega) (by omega) (by omega) g1 h1 g2 h2
  have k15 := fun (W : World) {aa10 : Option Addr} {ee10 : Nat} {aa11 : Option Addr} {ee11 : Nat} (g1 : Reads W (.slice aa10 LX.length ee10) LX) (h1 : Reads W (.slice aa11 DX.length ee11) DX) => r_whole (r0 == 0) cX.is (by rw [hr0]; exact small_whole bp.1) (by omega) (by omega) g1 h1
  have k16 := fun (W : World) => r_of (w := W) m cO (by omega) (by omega)
  have k17 := fun (W : World) => r_lof (m) (1) W cV (rfl) (by omega) (by omega) (by omega) (by omega) (by omega)
  have k18 := fun (W : World) {aa10 : Option Addr} {ee10 : Nat} {aa11 : Option Addr} {ee11 : Nat} {aa20 : Option Addr} {ee20 : Nat} {aa21 : Option Addr} {ee21 : Nat} (g1 : Reads W (.slice aa10 LO.length ee10) LO) (h1 : Reads W (.slice aa11 DO.length ee11) DO) (g2 : Reads W (.slice aa20 LV.length ee20) LV) (h2 : Reads W (.slice aa21 DV.length ee21) DV) => r_same true cO cV (decide_eq_true (by grind)) (by omega) (by omega) (by omega) (by omega) g1 h1 g2 h2
  have M : Mem w [(w.heap.size, 49, [.int .u16 u1, .int .u16 u2])] [] (w.alloc (.cells #[.int .u16 u1, .int .u16 u2] 49)) := by
    have M := ((Mem.start w).new 49 [.int .u16 u1, .int .u16 u2])
    simpa only [World.size_alloc] using M
  clear cX RX bX cY RY bY cG bG cZ RZ bZ cC RC bC cS RS bS cT RT bT cP RP bP cU RU bU cO RO bO cV RV bV m1 m2 n1 n2 e1 f1 e2 f2 hn hr hp hq bp bq hF bF hfl hf0 hr0 hsm bsm hzc hpq0 hmq hnp hpq hmn hpn bmq bnp bpq bmn bpn hpn0
  go_enter Tryz.func8, Tryz.ntmps8
  have z0_0 := M.cell 0 rfl 0 rfl; have z0_1 := M.cell 0 rfl 1 rfl
  go_wp2_with (first
    | (go_at_call 17; with_reducible refine (k1 _).mono ?_; rintro e w1 ⟨aX, eX, uX, fX, rfl, g, g', rr⟩; have M' := (((M.up rr).add g).add g').new 27 [.bool sX, .slice aX LX.length eX, .slice uX DX.length fX]; clear M rr g g'; have M := M'; clear M'; have z1_0_0 := M.cell 0 rfl 0 rfl; have z1_0_1 := M.cell 0 rfl 1 rfl; have z1_0_2 := M.cell 0 rfl 2 rfl; clear z0_0 z0_1)
    | (go_at_call 17; with_reducible refine (k2 _).mono ?_; rintro e w2 ⟨aY, eY, uY, fY, rfl, g, g', rr⟩; have M' := (((M.up rr).add g).add g').new 27 [.bool sY, .slice aY LY.length eY, .slice uY DY.length fY]; clear M rr g g'; have M := M'; clear M'; clear z1_0_0 z1_0_1 z1_0_2; have z2_1_0 := M.cell 1 rfl 0 rfl; have z2_1_1 := M.cell 1 rfl 1 rfl; have z2_1_2 := M.cell 1 rfl 2 rfl; have z2_0_0 := M.cell 0 rfl 0 rfl; have z2_0_1 := M.cell 0 rfl 1 rfl; have z2_0_2 := M.cell 0 rfl 2 rfl)
    | (go_at_call 21; with_reducible refine (k3 _ (M.get 3 rfl) (M.get 2 rfl)).mono ?_; rintro e w3 ⟨aG, eG, rfl, g, rr⟩; have M' := (M.up rr).add g; clear M rr g; have M := M'; clear M'; clear z2_1_0 z2_1_1 z2_1_2 z2_0_0 z2_0_1 z2_0_2; have z3_1_0 := M.cell 1 rfl 0 rfl; have z3_1_1 := M.cell 1 rfl 1 rfl; have z3_1_2 := M.cell 1 rfl 2 rfl; have z3_0_0 := M.cell 0 rfl 0 rfl; have z3_0_1 := M.cell 0 rfl 1 rfl; have z3_0_2 := M.cell 0 rfl 2 rfl)
    | (go_at_call 28; with_reducible refine (k4 _ (M.get 0 rfl)).mono ?_; rintro e w4 ⟨rfl, rr⟩; have M' := M.up rr; clear M rr ; have M := M'; clear M'; clear z3_1_0 z3_1_1 z3_1_2 z3_0_0 z3_0_1 z3_0_2; have z4_1_0 := M.cell 1 rfl 0 rfl; have z4_1_1 := M.cell 1 rfl 1 rfl; have z4_1_2 := M.cell 1 rfl 2 rfl; have z4_0_0 := M.cell 0 rfl 0 rfl; have z4_0_1 := M.cell 0 rfl 1 rfl; have z4_0_2 := M.cell 0 rfl 2 rfl)
    | (go_at_call 18; with_reducible refine (k5 _ (M.get 4 rfl) (M.get 3 rfl) (M.get 2 rfl) (M.get 1 rfl)).mono ?_; rintro e w5 ⟨aZ, eZ, uZ, fZ, rfl, g, g', rr⟩; have M' := (((M.up rr).add g).add g').new 27 [.bool sZ, .slice aZ LZ.length eZ, .slice uZ DZ.length fZ]; clear M rr g g'; have M := M'; clear M'; clear z4_1_0 z4_1_1 z4_1_2 z4_0_0 z4_0_1 z4_0_2; have z5_2_0 := M.cell 2 rfl 0 rfl; have z5_2_1 := M.cell 2 rfl 1 rfl; have z5_2_2 := M.cell 2 rfl 2 rfl; have z5_1_0 := M.cell 1 rfl 0 rfl; have z5_1_1 := M.cell 1 rfl 1 rfl; have z5_1_2 := M.cell 1 rfl 2 rfl; have z5_0_0 := M.cell 0 rfl 0 rfl; have z5_0_1 := M.cell 0 rfl 1 rfl; have z5_0_2 := M.cell 0 rfl 2 rfl))
  clear z5_2_0 z5_2_1 z5_2_2 z5_1_0 z5_1_1 z5_1_2 z5_0_0 z5_0_1 z5_0_2
  apply region_cut_ss (Fact := (fun aC eC uC fC W => Mem w [(w5.heap.size, 27, [.bool sZ, .slice aZ LZ.length eZ, .slice uZ DZ.length fZ]), (w2.heap.size, 27, [.bool sY, .slice aY LY.length eY, .slice uY DY.length fY]), (w1.heap.size, 27, [.bool sX, .slice aX LX.length eX, .slice uX DX.length fX]), (w.heap.size, 49, [.int .u16 u1, .int .u16 u2])] [(.slice uC DC.length fC, DC), (.slice aC LC.length eC, LC), (.slice uZ DZ.length fZ, DZ), (.slice aZ LZ.length eZ, LZ), (.slice aG LG.length eG, LG), (.slice uY DY.length fY, DY), (.slice aY LY.length eY, LY), (.slice uX DX.length fX, DX), (.slice aX LX.length eX, LX)] W))
  case first =>
    refine region_mem (S := (fun W => BoxN W (w5.heap.size) 27 #[.bool sZ, .slice aZ LZ.length eZ, .slice uZ DZ.length fZ])) M (by kernel_rfl) ?_
    intro V0 M
    have hS0 : (fun W => BoxN W (w5.heap.size) 27 #[.bool sZ, .slice aZ LZ.length eZ, .slice uZ DZ.length fZ]) V0 := M.box 0 rfl
    refine wpAnyH_take (i := 0) (oi := ⟨_, _, _, _, _, _⟩) (v := (.int .i64 n)) rfl (by kernel_rfl) (by kernel_rfl) (by kernel_rfl) (fun _ _ _ h => nomatch h.1) (Or.inl ⟨by rfl, fun W3 hS => by have hS1 := hS; go_simp⟩) hS0 ?_
    try simp only [Act.put, List.setIfInBounds_toArray, List.set_cons_zero, List.set_cons_succ]
    refine wpAnyH_take (i := 1) (oi := ⟨_, _, _, _, _, _⟩) (v := (.bool true)) rfl (by kernel_rfl) (by kernel_rfl) (by kernel_rfl) (fun _ _ _ h => nomatch h.1) (Or.inl ⟨by rfl, fun W3 hS => by have hS1 := hS; go_simp⟩) hS0 ?_
    try simp only [Act.put, List.setIfInBounds_toArray, List.set_cons_zero, List.set_cons_succ]
    refine wpAnyH_take (i := 2) (oi := ⟨_, _, _, _, _, _⟩) (v := (.bool true)) rfl (by kernel_rfl) (by kernel_rfl) (by kernel_rfl) (fun _ _ _ h => nomatch h.1) (Or.inl ⟨by rfl, fun W3 hS => by have hS1 := hS; go_simp⟩) hS0 ?_
    try simp only [Act.put, List.setIfInBounds_toArray, List.set_cons_zero, List.set_cons_succ]
    refine wpAnyH_take (i := 3) (oi := ⟨_, _, _, _, _, _⟩) (v := (.int .i64 0)) rfl (by kernel_rfl) (by kernel_rfl) (by kernel_rfl) (fun _ _ _ h => nomatch h.1) (Or.inl ⟨by rfl, fun W3 hS => by have hS1 := hS; go_simp⟩) hS0 ?_
    try simp only [Act.put, List.setIfInBounds_toArray, List.set_cons_zero, List.set_cons_succ]
    refine wpAnyH_take (i := 4) (oi := ⟨_, _, _, _, _, _⟩) (v := (.bool false)) rfl (by kernel_rfl) (by kernel_rfl) (by kernel_rfl) (fun _ _ _ h => nomatch h.1) (Or.inl ⟨by rfl, fun W3 hS => by have hS1 := hS; go_simp⟩) hS0 ?_
    try simp only [Act.put, List.setIfInBounds_toArray, List.set_cons_zero, List.set_cons_succ]
    refine wpAnyH_take (i := 5) (oi := ⟨_, _, _, _, _, _⟩) (v := (.bool false)) rfl (by kernel_rfl) (by kernel_rfl) (by kernel_rfl) (fun _ _ _ h => nomatch h.1) (Or.inl ⟨by rfl, fun W3 hS => by have hS1 := hS; go_simp⟩) hS0 ?_
    try simp only [Act.put, List.setIfInBounds_toArray, List.set_cons_zero, List.set_cons_succ]
    refine wpAnyH_take (i := 6) (oi := ⟨_, _, _, _, _, _⟩) (v := (.agg #[.bool sZ, .slice aZ LZ.length eZ, .slice uZ DZ.length fZ])) rfl (by kernel_rfl) (by kernel_rfl) (by kernel_rfl) (fun _ _ _ h => nomatch h.1) (Or.inl ⟨by rfl, fun W3 hS => by have hS1 := hS; have c1_0 := hS1.cell 0 _ rfl; have c1_1 := hS1.cell 1 _ rfl; have c1_2 := hS1.cell 2 _ rfl; go_simp⟩) hS0 ?_
    try simp only [Act.put, List.setIfInBounds_toArray, List.set_cons_zero, List.set_cons_succ]
    refine wpAnyH_take (i := 7) (oi := ⟨_, _, _, _, _, _⟩) (v := (.int .i64 m)) rfl (by kernel_rfl) (by kernel_rfl) (by kernel_rfl) (fun _ _ _ h => nomatch h.1) (Or.inl ⟨by rfl, fun W3 hS => by have hS1 := hS; go_simp⟩) hS0 ?_
    try simp only [Act.put, List.setIfInBounds_toArray, List.set_cons_zero, List.set_cons_succ]
    refine wpAnyH_take (i := 8) (oi := ⟨_, _, _, _, _, _⟩) (v := (.int .i64 q)) rfl (by kernel_rfl) (by kernel_rfl) (by kernel_rfl) (fun _ _ _ h => nomatch h.1) (Or.inl ⟨by rfl, fun W3 hS => by have hS1 := hS; go_simp⟩) hS0 ?_
    try simp only [Act.put, List.setIfInBounds_toArray, List.set_cons_zero, List.set_cons_succ]
    refine wpAnyH_take (i := 9) (oi := ⟨_, _, _, _, _, _⟩) (v := (.int .i64 mq)) rfl (by kernel_rfl) (by kernel_rfl) (by kernel_rfl) (fun _ _ _ h => nomatch h.1) (Or.inl ⟨by rfl, fun W3 hS => by have hS1 := hS; go_simp⟩) hS0 ?_
    try simp only [Act.put, List.setIfInBounds_toArray, List.set_cons_zero, List.set_cons_succ]
    refine wpAnyH_take (i := 10) (oi := ⟨_, _, _, _, _, _⟩) (v := (.int .i64 p)) rfl (by kernel_rfl) (by kernel_rfl) (by kernel_rfl) (fun _ _ _ h => nomatch h.1) (Or.inl ⟨by rfl, fun W3 hS => by have hS1 := hS; go_simp⟩) hS0 ?_
    try simp only [Act.put, List.setIfInBounds_toArray, List.set_cons_zero, List.set_cons_succ]
    refine wpAnyH_take (i := 11) (oi := ⟨_, _, _, _, _, _⟩) (v := (.int .i64 n)) rfl (by kernel_rfl) (by kernel_rfl) (by kernel_rfl) (fun _ _ _ h => nomatch h.1) (Or.inl ⟨by rfl, fun W3 hS => by have hS1 := hS; go_simp⟩) hS0 ?_
    try simp only [Act.put, List.setIfInBounds_toArray, List.set_cons_zero, List.set_cons_succ]
    refine wpAnyH_take (i := 12) (oi := ⟨_, _, _, _, _, _⟩) (v := (.int .i64 pn)) rfl (by kernel_rfl) (by kernel_rfl) (by kernel_rfl) (fun _ _ _ h => nomatch h.1) (Or.inl ⟨by rfl, fun W3 hS => by have hS1 := hS; go_simp⟩) hS0 ?_
    try simp only [Act.put, List.setIfInBounds_toArray, List.set_cons_zero, List.set_cons_succ]
    clear hS0
    try simp only [Act.put, List.setIfInBounds_toArray, List.set_cons_zero, List.set_cons_succ]
    refine wpAnyH_all (rs := [13]) (by kernel_rfl) (by simp) ?_
    intro i hi
    obtain rfl : i = 13 := by simpa using hi
    refine wpOp_intro rfl (fun K1 hK => ?_)
    clear hi
    go_simp
    refine (k6 _).mono ?_
    rintro e V1_13 ⟨aC, eC, uC, fC, rfl, g, g', rr⟩
    have M' := ((M.up rr).add g).add g'
    clear M rr g g'
    have M := M'; clear M'
    refine hK _ _ ⟨M.box 0 rfl, ?_⟩
    clear hK K1
    refine wpAnyH_all (rs := [14]) (by kernel_rfl) (by simp) ?_
    intro i hi
    obtain rfl : i = 14 := by simpa using hi
    refine wpOp_intro rfl (fun K2 hK => ?_)
    clear hi
    go_simp
    refine (k7 _ (M.get 3 rfl) (M.get 2 rfl) (M.get 1 rfl) (M.get 0 rfl)).mono ?_
    rintro e V2_14 ⟨rfl, rr⟩
    have M' := M.up rr
    clear M rr 
    have M := M'; clear M'
    refine hK _ _ ⟨M.box 0 rfl, ?_⟩
    clear hK K2
    have hS0 : (fun W => BoxN W (w5.heap.size) 27 #[.bool sZ, .slice aZ LZ.length eZ, .slice uZ DZ.length fZ]) _ := M.box 0 rfl
    refine wpAnyH_take (i := 15) (oi := ⟨_, _, _, _, _, _⟩) (v := (.bool false)) rfl (by kernel_rfl) (by kernel_rfl) (by kernel_rfl) (fun _ _ _ h => nomatch h.1) (Or.inl ⟨by rfl, fun W3 hS => by have hS1 := hS; go_simp⟩) hS0 ?_
    try simp only [Act.put, List.setIfInBounds_toArray, List.set_cons_zero, List.set_cons_succ]
    refine wpAnyH_take (i := 16) (oi := ⟨_, _, _, _, _, _⟩) (v := (.bool false)) rfl (by kernel_rfl) (by kernel_rfl) (by kernel_rfl) (fun _ _ _ h => nomatch h.1) (Or.inl ⟨by rfl, fun W3 hS => by have hS1 := hS; go_simp⟩) hS0 ?_
    try simp only [Act.put, List.setIfInBounds_toArray, List.set_cons_zero, List.set_cons_succ]
    refine wpAnyH_take (i := 17) (oi := ⟨_, _, _, _, _, _⟩) (v := (.bool false)) rfl (by kernel_rfl) (by kernel_rfl) (by kernel_rfl) (fun _ _ _ h => nomatch h.1) (Or.inl ⟨by rfl, fun W3 hS => by have hS1 := hS; go_simp⟩) hS0 ?_
    try simp only [Act.put, List.setIfInBounds_toArray, List.set_cons_zero, List.set_cons_succ]
    refine wpAnyH_take (i := 18) (oi := ⟨_, _, _, _, _, _⟩) (v := (.bool false)) rfl (by kernel_rfl) (by kernel_rfl) (by kernel_rfl) (fun _ _ _ h => nomatch h.1) (Or.inl ⟨by rfl, fun W3 hS => by have hS1 := hS; go_simp⟩) hS0 ?_
    try simp only [Act.put, List.setIfInBounds_toArray, List.set_cons_zero, List.set_cons_succ]
    refine wpAnyH_take (i := 19) (oi := ⟨_, _, _, _, _, _⟩) (v := (.int .i64 n)) rfl (by kernel_rfl) (by kernel_rfl) (by kernel_rfl) (fun _ _ _ h => nomatch h.1) (Or.inl ⟨by rfl, fun W3 hS => by have hS1 := hS; go_simp⟩) hS0 ?_
    try simp only [Act.put, List.setIfInBounds_toArray, List.set_cons_zero, List.set_cons_succ]
    refine wpAnyH_take (i := 20) (oi := ⟨_, _, _, _, _, _⟩) (v := (.bool false)) rfl (by kernel_rfl) (by kernel_rfl) (by kernel_rfl) (fun _ _ _ h => nomatch h.1) (Or.inl ⟨by rfl, fun W3 hS => by have hS1 := hS; go_simp⟩) hS0 ?_
    try simp only [Act.put, List.setIfInBounds_toArray, List.set_cons_zero, List.set_cons_succ]
    refine wpAnyH_take (i := 21) (oi := ⟨_, _, _, _, _, _⟩) (v := (.bool false)) rfl (by kernel_rfl) (by kernel_rfl) (by kernel_rfl) (fun _ _ _ h => nomatch h.1) (Or.inl ⟨by rfl, fun W3 hS => by have hS1 := hS; go_simp⟩) hS0 ?_
    try simp only [Act.put, List.setIfInBounds_toArray, List.set_cons_zero, List.set_cons_succ]
    refine wpAnyH_take (i := 22) (oi := ⟨_, _, _, _, _, _⟩) (v := undef) rfl (by kernel_rfl) (by kernel_rfl) (by kernel_rfl) (fun _ _ _ h => nomatch h.1) (Or.inr ⟨by rfl, rfl⟩) hS0 ?_
    try simp only [Act.put, List.setIfInBounds_toArray, List.set_cons_zero, List.set_cons_succ]
    refine wpAnyH_take (i := 23) (oi := ⟨_, _, _, _, _, _⟩) (v := undef) rfl (by kernel_rfl) (by kernel_rfl) (by kernel_rfl) (fun _ _ _ h => nomatch h.1) (Or.inr ⟨by rfl, rfl⟩) hS0 ?_
    try simp only [Act.put, List.setIfInBounds_toArray, List.set_cons_zero, List.set_cons_succ]
    refine wpAnyH_take (i := 24) (oi := ⟨_, _, _, _, _, _⟩) (v := (.bool false)) rfl (by kernel_rfl) (by kernel_rfl) (by kernel_rfl) (fun _ _ _ h => nomatch h.1) (Or.inl ⟨by rfl, fun W3 hS => by have hS1 := hS; go_simp⟩) hS0 ?_
    try simp only [Act.put, List.setIfInBounds_toArray, List.set_cons_zero, List.set_cons_succ]
    refine wpAnyH_take (i := 25) (oi := ⟨_, _, _, _, _, _⟩) (v := (.bool false)) rfl (by kernel_rfl) (by kernel_rfl) (by kernel_rfl) (fun _ _ _ h => nomatch h.1) (Or.inl ⟨by rfl, fun W3 hS => by have hS1 := hS; go_simp⟩) hS0 ?_
    try simp only [Act.put, List.setIfInBounds_toArray, List.set_cons_zero, List.set_cons_succ]
    clear hS0
    try simp only [Act.put, List.setIfInBounds_toArray, List.set_cons_zero, List.set_cons_succ]
    refine wpAnyH_done (by kernel_rfl) ?_ _
    exact ⟨rfl, aC, eC, uC, fC, rfl, M⟩
  intro aC eC uC fC V M
  go_wp2
  dsimp only [List.append]
  replace M := M.drew
  go_region_held3 (fun W => W.cell? ⟨w1.heap.size, 0, none⟩ = some (.bool sX) ∧ W.cell? ⟨w1.heap.size, 1, none⟩ = some (.slice aX LX.length eX) ∧ W.cell? ⟨w1.heap.size, 2, none⟩ = some (.slice uX DX.length fX) ∧ W.cell? ⟨w2.heap.size, 0, none⟩ = some (.bool sY) ∧ W.cell? ⟨w2.heap.size, 1, none⟩ = some (.slice aY LY.length eY) ∧ W.cell? ⟨w2.heap.size, 2, none⟩ = some (.slice uY DY.length fY)) (exact ⟨M.cell 2 rfl 0 rfl, M.cell 2 rfl 1 rfl, M.cell 2 rfl 2 rfl, M.cell 1 rfl 0 rfl, M.cell 1 rfl 1 rfl, M.cell 1 rfl 2 rfl⟩) (first
    | (go_at_call 10; clear tok6; with_reducible refine (r_alive _).mono ?_; rintro e w6 ⟨rfl, rr⟩; have M' := M.up rr; clear M rr ; have M := M'; clear M')
    | (go_at_call 12; clear tok7; with_reducible refine (k8 _ (M.get 8 rfl) (M.get 7 rfl) (M.get 6 rfl) (M.get 5 rfl)).mono ?_; rintro e w7 ⟨aS, eS, uS, fS, rfl, g, g', rr⟩; have M' := ((M.up rr).add g).add g'; clear M rr g g'; have M := M'; clear M')
    | (go_at_call 17; clear tok8; with_reducible refine (k9 _).mono ?_; rintro e w8 ⟨aT, eT, uT, fT, rfl, g, g', rr⟩; have M' := ((M.up rr).add g).add g'; clear M rr g g'; have M := M'; clear M')
    | (go_at_call 15; clear tok9; with_reducible refine (k10 _ (M.get 3 rfl) (M.get 2 rfl) (M.get 1 rfl) (M.get 0 rfl)).mono ?_; rintro e w9 ⟨rfl, rr⟩; have M' := M.up rr; clear M rr ; have M := M'; clear M')
    | (go_at_call 13; clear tok10; with_reducible refine (k11 _ (M.get 12 rfl) (M.get 11 rfl) (M.get 10 rfl) (M.get 9 rfl)).mono ?_; rintro e w10 ⟨aP, eP, uP, fP, rfl, g, g', rr⟩; have M' := ((M.up rr).add g).add g'; clear M rr g g'; have M := M'; clear M')
    | (go_at_call 17; clear tok11; with_reducible refine (k12 _).mono ?_; rintro e w11 ⟨aU, eU, uU, fU, rfl, g, g', rr⟩; have M' := ((M.up rr).add g).add g'; clear M rr g g'; have M := M'; clear M')
    | (go_at_call 15; clear tok12; with_reducible refine (k13 _ (M.get 3 rfl) (M.get 2 rfl) (M.get 1 rfl) (M.get 0 rfl)).mono ?_; rintro e w12 ⟨rfl, rr⟩; have M' := M.up rr; clear M rr ; have M := M'; clear M')
    | (go_at_call 20; clear tok13; with_reducible refine (k14 _ (M.get 16 rfl) (M.get 15 rfl) (M.get 14 rfl) (M.get 13 rfl)).mono ?_; rintro e w13 ⟨rfl, rr⟩; have M' := M.up rr; clear M rr ; have M := M'; clear M')
    | (go_at_call 25; clear tok14; with_reducible refine (k15 _ (M.get 16 rfl) (M.get 15 rfl)).mono ?_; rintro e w14 ⟨rfl, rr⟩; have M' := M.up rr; clear M rr ; have M := M'; clear M')
    | (go_at_call 29; clear tok15; with_reducible refine (k16 _).mono ?_; rintro e w15 ⟨aO, eO, uO, fO, rfl, g, g', rr⟩; have M' := ((M.up rr).add g).add g'; clear M rr g g'; have M := M'; clear M')
    | (go_at_call 17; clear tok16; with_reducible refine (k17 _).mono ?_; rintro e w16 ⟨aV, eV, uV, fV, rfl, g, g', rr⟩; have M' := ((M.up rr).add g).add g'; clear M rr g g'; have M := M'; clear M')
    | (go_at_call 15; clear tok17; with_reducible refine (k18 _ (M.get 3 rfl) (M.get 2 rfl) (M.get 1 rfl) (M.get 0 rfl)).mono ?_; rintro e w17 ⟨rfl, rr⟩; have M' := M.up rr; clear M rr ; have M := M'; clear M'))
  go_wp2
  go_ret
  exact ⟨rfl, M.below⟩
end Go.Proofs.YthloknddhfphnaaGreatDoor
