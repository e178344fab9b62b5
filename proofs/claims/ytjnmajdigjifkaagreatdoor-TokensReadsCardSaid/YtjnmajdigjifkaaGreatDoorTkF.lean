/- Tokens: Read. -/
import Derived.Test.YtjnmajdigjifkaaGreatDoorTkE
import Derived.Deep.Quiet
namespace Go.Proofs.YtjnmajdigjifkaaGreatDoor
open Go Go.Proofs Go.RowKit Go.Shelf

/-- what holds between two places -/
def RInv (w : World) (B : Nat) (s : ByteArray) (ts : List Tk.Tok) (x : Option Nat) (g : Nat) (v a : Value) (wr : World) : Prop :=
  ∃ (k : Nat) (acc rest : List Tk.Tok), k + g = s.size ∧ a = .int .i64 (k : Int) ∧ ts = acc ++ rest ∧ Tk.Rd (s.data.toList.drop k) k rest x ∧ acc.length ≤ k ∧
    TFresh wr (B + 1) v acc ∧ BoxN wr B 47 pcs ∧ Below w.heap.size w wr
/-- what holds between two pieces -/
structure IW (w : World) (B : Nat) (l : List UInt8) (acc : List Tk.Tok) (v : Value) (i : Nat) (wy : World) : Prop where
  no : ∀ j, j < i → pz j l = 0
  own : TFresh wy (B + 1) v acc
  box : BoxN wy B 47 pcs
  bel : Below w.heap.size w wy
def IInv (w : World) (B : Nat) (l : List UInt8) (acc : List Tk.Tok) (k : Nat) (v : Value) (g : Nat) (s2 s3 s18 : Value) (wy : World) : Prop :=
  ∃ i : Nat, i + g = 5 ∧ s2 = v ∧ s3 = .int .i64 (k : Int) ∧ s18 = .int .i64 (i : Int) ∧ IW w B l acc v i wy
/-- a piece as it lies -/
def pc (i : Nat) : Array Value := match i with
  | 0 => #[.int .u8 0, .func (.func 51) #[] #[]] | 1 => #[.int .u8 0, .func (.func 52) #[] #[]] | 2 => #[.int .u8 1, .func (.func 53) #[] #[]]
  | 3 => #[.int .u8 2, .func (.func 54) #[] #[]] | _ => #[.int .u8 3, .func (.func 55) #[] #[]]
theorem TFresh.alloc {W : World} {base : Nat} {v : Value} {l : List Tk.Tok} (h : TFresh W base v l) (o : Obj) : TFresh (W.alloc o) base v l := World.ownsRow.alloc h o
theorem BoxN.new (W : World) (t : TypeId) (cs : Array Value) : BoxN (W.alloc (.cells cs t)) W.heap.size t cs := heap_alloc_new W _
theorem BoxN.alloc {W : World} {B : Nat} {t : TypeId} {cs : Array Value} (h : BoxN W B t cs) (o : Obj) : BoxN (W.alloc o) B t cs := (Below.heap_alloc W o B h.lt).trans h
theorem BoxN.cell {W : World} {B : Nat} {t : TypeId} {cs : Array Value} (h : BoxN W B t cs) (o : Nat) (v : Value) (hv : cs[o]? = some v) : W.cell? ⟨B, o, none⟩ = some v := by
  unfold World.cell?; rw [show W.heap[B]? = _ from h]; exact hv
theorem TFresh.drewN {W : World} {base : Nat} {v : Value} {l : List Tk.Tok} (h : TFresh W base v l) (n : Nat) : TFresh (W.drewN n) base v l := h
theorem TFresh.ne {W : World} {base B : Nat} {v : Value} {l : List Tk.Tok} (h : TFresh W base v l) (hB : W.heap.size ≤ B ∨ B < base) : v.ownBlock ≠ some B := by
  rcases h.2 with ⟨rfl, _⟩ | ⟨g, cap, cur, rfl, hb, hg, _⟩
  · simp [Value.ownBlock]
  · have := (Array.getElem?_eq_some_iff.1 hg).1
    simp [Value.ownBlock]; omega
theorem grown_box {W W' : World} {row : Option Nat} {B : Nat} {t : TypeId} {cs : Array Value} (h : BoxN W B t cs) (hg : W.grownBy W' row) (hr : row ≠ some B) : BoxN W' B t cs :=
  (hg.block B h.lt (fun e => hr e.symm)).trans h
/-- what holds where a piece has been laid out -/
structure PW (w : World) (B P : Nat) (l : List UInt8) (acc : List Tk.Tok) (v : Value) (i : Nat) (W : World) : Prop where
  no : ∀ j, j < i → pz j l = 0
  own : TFresh W (B + 1) v acc
  box : BoxN W B 47 pcs
  bel : Below w.heap.size w W
  pbox : BoxN W P 46 (pc i)
  lt : B < P
  ne : v.ownBlock ≠ some P
theorem IW.step {w : World} {B : Nat} {l : List UInt8} {acc : List Tk.Tok} {v : Value} {i : Nat} {W : World} (h : IW w B l acc v i W) : PW w B W.heap.size l acc v i (W.alloc (.cells (pc i) 46)) :=
  ⟨h.no, h.own.alloc _, h.box.alloc _, h.bel.alloc h.bel.size _, BoxN.new _ _ _, h.box.lt, h.own.ne (.inl (Nat.le_refl _))⟩
theorem PW.drewN {w : World} {B P : Nat} {l : List UInt8} {acc : List Tk.Tok} {v : Value} {i : Nat} {W : World} (h : PW w B P l acc v i W) (n : Nat) : PW w B P l acc v i (W.drewN n) :=
  ⟨h.no, h.own.drewN n, h.box, ⟨h.bel.os, h.bel.tape, h.bel.output, h.bel.size, h.bel.block⟩, h.pbox, h.lt, h.ne⟩
theorem PW.back {w : World} {B P : Nat} {l : List UInt8} {acc : List Tk.Tok} {v : Value} {i : Nat} {W : World} (h : PW w B P l acc v i W) (hz : pz i l = 0) : IW w B l acc v (i + 1) W :=
  ⟨fun j hj => by
    by_cases e : j = i
    · subst e; exact hz
    · exact h.no j (by omega), h.own, h.box, h.bel⟩
theorem ext_take (s : ByteArray) (k z : Nat) : s.extract k (k + z) = ⟨((s.data.toList.drop k).take z).toArray⟩ := by
  apply ByteArray.ext
  apply Array.toList_inj.1
  have := Lib.extract_toList s k (k + z)
  rw [Lib.toList_data] at this
  rw [this]
  simp
theorem TFresh.base_le {W : World} {base g : Nat} {v : Value} {l : List Tk.Tok} (h : TFresh W base v l) (hg : v.ownBlock = some g) : base ≤ g := by
  rcases h.2 with ⟨rfl, _⟩ | ⟨g', cap, cur, rfl, hb, _⟩
  · cases hg
  · simp [Value.ownBlock] at hg; omega
theorem PW.hit {w : World} {B P : Nat} {l : List UInt8} {acc : List Tk.Tok} {v v' : Value} {i : Nat} {W w5 w6 : World} {o : Obj} {t : Tk.Tok} {c : List Value} (h : PW w B P l acc v i W) (hw : w.heap.size ≤ B) (rr : Below W.heap.size W w5)
    (ho : w6.ownsRow (B + 1) 51 3 v' (acc.length + 1) (tcells acc ++ c)) (hg : (w5.alloc o).grownBy w6 v.ownBlock) (hc : c = tcell t) :
    TFresh w6 (B + 1) v' (acc ++ [t]) ∧ BoxN w6 B 47 pcs ∧ Below w.heap.size w w6 := by
  have h5 : w.heap.size ≤ W.heap.size := h.bel.size
  have e5 : W.heap.size ≤ w5.heap.size := rr.size
  refine ⟨?_, ?_, ?_⟩
  · unfold TFresh
    rw [tcells_snoc, List.length_append, ← hc]
    exact ho
  · exact grown_box ((h.box.below rr h.box.lt).alloc o) hg (h.own.ne (.inr (by omega)))
  · have b5 : Below w.heap.size w w5 := h.bel.trans (rr.mono h5)
    refine (b5.alloc (Nat.le_trans h5 e5) o).grown hg (by simp; omega) ?_
    intro g e
    have := h.own.base_le e
    omega
theorem undrew {n : Nat} {a b : World} (h : Below n a.drew b) : Below n a b := ⟨h.os, h.tape, h.output, h.size, h.block⟩
theorem ltB {W W1 : World} {B n : Nat} (h : Below n W W1) (hB : B < W.heap.size) : B < W1.heap.size := Nat.lt_of_lt_of_le hB h.size

set_option maxRecDepth 100000 in
set_option maxHeartbeats 8000000 in
theorem read_any {s : ByteArray} {w : World} (hs : s.size ≤ 65536) (hT : HasTab w) {ts : List Tk.Tok} {x : Option Nat} (hR : Tk.Rd s.data.toList 0 ts x) :
    Calls Tryz.prog 4 #[.string s] w (ReadAns w ts x) := by
  have HT := Lib.hid hT
  have HR := Lib.hid hR
  have hlt := hT.lt
  obtain ⟨i0, hi0, hz0', hz1', hz2'⟩ := info_parts info_tok
  clear hT hR
  obtain ⟨PC, hPC⟩ : ∃ PC, PC = pcs := ⟨_, rfl⟩
  have hszp : (Tryz.prog.info? 47).map (·.size) = some PC.size := by rw [hPC]; exact size_pcs
  have HPC := Lib.hid hPC
  have HSZ := Lib.hid hszp
  clear hPC hszp
  go_enter Tryz.func4, Tryz.ntmps4
  go_wp2
  go_step3
  go_wp2_with (first
    | (go_at_call 9; refine (pieces_any _).mono ?_; rintro e w1 ⟨rfl, hb1⟩)
    | (refine wpList_store_row rfl 47 (.tmp 5) (.tmp 12) rfl w1.heap.size pcs rfl rfl 47 _ (heap_alloc_last w1 _) size_pcs rfl one_pcs ?_; rw [World.setRow_alloc_new]; simp only [Act.put]))
  go_step3
  go_wp2
  have hBw := hb1.size
  have HB1 := Lib.hid hb1
  clear hb1
  go_loopg [2, 3] s.size (fun g v a wr => RInv w w1.heap.size s ts x g v a wr)
  case atStart => exact ⟨0, [], ts, by omega, rfl, rfl, HR.out, Nat.le_refl _, TFresh.nil _ _, BoxN.new _ _ _, HB1.out.alloc hBw _⟩
  case round =>
    obtain ⟨k, acc, rest, hkg, rfl, hts, hrd, hacc, hown, hbox, hbel⟩ := hrel
    have HTS := Lib.hid hts
    have HRD := Lib.hid hrd
    have HOWN := Lib.hid hown
    have HBOX := Lib.hid hbox
    have HBEL := Lib.hid hbel
    have hBlt := hbox.lt
    clear hts hrd hown hbel
    by_cases hlk : k < s.size
    · obtain ⟨l, hl⟩ : ∃ l, l = s.data.toList.drop k := ⟨_, rfl⟩
      have HL := Lib.hid hl
      have hlen : l.length = s.size - k := by rw [hl, List.length_drop, ← size_list]
      have HLEN := Lib.hid hlen
      clear hl hlen
      have hbox' : wr.heap[w1.heap.size]? = some (.cells PC 47 (0, 0)) := by rw [HPC.out]; exact hbox
      clear hbox
      have hsz' := HSZ.out
      go_wp2_with (refine wpList_load_row rfl 47 (.tmp 5) rfl w1.heap.size rfl 47 PC (0, 0) _ hbox' Tryz.underlying47 rfl hsz' ?_)
      clear hbox' hsz'
      go_loopg [2, 3, 18] 5 (fun g2 s2 s3 s18 wy => IInv w w1.heap.size l acc k u2 g2 s2 s3 s18 wy)
      case atStart => exact ⟨0, by omega, rfl, rfl, rfl, fun j hj => by omega, HOWN.out, HBOX.out, HBEL.out⟩
      case round =>
        obtain ⟨i, hig, rfl, rfl, e18, hI⟩ := hrel
        have HI := Lib.hid hI
        have hBy := hI.box.lt
        have hwy := hI.bel.size
        have htw : HasTab wr := HT.out.below hI.bel hlt
        have HTW := Lib.hid htw
        clear hI htw
        have hi5 : i = 0 ∨ i = 1 ∨ i = 2 ∨ i = 3 ∨ i = 4 ∨ i = 5 := by omega
        rcases hi5 with rfl | rfl | rfl | rfl | rfl | rfl
        · obtain rfl : u18 = .int .i64 0 := e18
          have ix : ∀ W : World, (Instr.index 47 (.agg PC) (.int .i64 0)).run Tryz.prog W = .ok (.agg (pc 0)) W := fun W => by rw [HPC.out]; kernel_rfl
          go_wp2_with (refine wpList_store_row rfl 46 (.tmp 7) (.tmp 20) rfl wr.heap.size (pc 0) rfl rfl 46 _ (heap_alloc_last wr _) size_piece rfl (by kernel_rfl) ?_; rw [World.setRow_alloc_new]; simp only [Act.put])
          have hI := HI.out.step
          obtain ⟨W2, hW2⟩ : ∃ W2, W2 = wr.alloc (.cells (pc 0) 46) := ⟨_, rfl⟩
          obtain ⟨P, hP⟩ : ∃ P, P = wr.heap.size := ⟨_, rfl⟩
          obtain ⟨z, hz⟩ : ∃ z, z = pz 0 l := ⟨_, rfl⟩
          rw [← hW2, ← hP] at hI
          rw [← hW2, ← hP]
          have htw : HasTab W2 := HT.out.below hI.bel hlt
          have HZ := Lib.hid hz
          have hzl : z ≤ s.size - k := by rw [hz]; have := pz_le 0 l; rw [HLEN.out] at this; exact this
          have q0 : (0 : Int) ≤ (k : Int) := by omega
          have q1 : (k : Int) ≤ (s.size : Int) := by omega
          have kc : ∀ n, Calls Tryz.prog 51 #[.string (s.extract k s.size)] (W2.drewN n) fun e w' => e = .returned (.int .i64 (z : Int)) ∧ ∃ m, w' = (W2.drewN n).drewN m := fun n => by
            have htw' : HasTab (W2.drewN n) := htw
            have e : z = pz 0 (s.extract k s.size).data.toList := by rw [hz, HL.out, ext_drop]
            rw [e]
            exact (blankSize_any _ _ (by simp; omega)).mono fun e w' h => ⟨h.1, 0, h.2.symm⟩
          have c1 := hI.pbox.cell 1 _ (show (pc 0)[1]? = some (.func (.func 51) #[] #[]) from rfl)
          have HI2 := Lib.hid hI
          clear hI hW2 hP hz htw
          go_quiet ((go_at_call 51; exact Calls.quiet_of (kc _)))
          have hI3 := HI2.out.drewN nq
          obtain ⟨W3, hW3⟩ : ∃ W3, W3 = W2.drewN nq := ⟨_, rfl⟩
          rw [← hW3] at hI3
          rw [← hW3]
          have HI3 := Lib.hid hI3
          have c0 := hI3.pbox.cell 0 _ (show (pc 0)[0]? = some (.int .u8 0) from rfl)
          clear hW3 hI3 c1 kc q0 q1
          by_cases z0 : z = 0
          · have HZ0 : Hid (pz 0 l = 0) := Lib.hid (by rw [← HZ.out]; exact z0)
            have z1 : ((z : Int) == 0) = true := by simp [z0]
            clear z0
            go_wp2
            go_roundg (5 - 1)
            case measure => omega
            case rel => exact ⟨1, by omega, rfl, rfl, by first | rfl | simp, HI3.out.back HZ0.out⟩
          · have HZ0 : Hid (pz 0 l ≠ 0) := Lib.hid (by rw [← HZ.out]; exact z0)
            have z1 : ((z : Int) == 0) = false := by simp [z0]
            have z2 : 0 < z := by omega
            clear z0
            go_wp2
            go_roundg (s.size - (k + z))
            case measure => omega
            case rel =>
              have h := hit_none (i := 0) (by omega) HZ0.out (HL.out ▸ HRD.out)
              rw [HL.out, ← HL.out, ← HZ.out, HL.out, List.drop_drop] at h
              exact ⟨k + z, acc, rest, by omega, by first | rfl | simp, HTS.out, h, by omega, HI3.out.own, HI3.out.box, HI3.out.bel⟩
        · obtain rfl : u18 = .int .i64 1 := e18
          have ix : ∀ W : World, (Instr.index 47 (.agg PC) (.int .i64 1)).run Tryz.prog W = .ok (.agg (pc 1)) W := fun W => by rw [HPC.out]; kernel_rfl
          go_wp2_with (refine wpList_store_row rfl 46 (.tmp 7) (.tmp 20) rfl wr.heap.size (pc 1) rfl rfl 46 _ (heap_alloc_last wr _) size_piece rfl (by kernel_rfl) ?_; rw [World.setRow_alloc_new]; simp only [Act.put])
          have hI := HI.out.step
          obtain ⟨W2, hW2⟩ : ∃ W2, W2 = wr.alloc (.cells (pc 1) 46) := ⟨_, rfl⟩
          obtain ⟨P, hP⟩ : ∃ P, P = wr.heap.size := ⟨_, rfl⟩
          obtain ⟨z, hz⟩ : ∃ z, z = pz 1 l := ⟨_, rfl⟩
          rw [← hW2, ← hP] at hI
          rw [← hW2, ← hP]
          have htw : HasTab W2 := HT.out.below hI.bel hlt
          have HZ := Lib.hid hz
          have hzl : z ≤ s.size - k := by rw [hz]; have := pz_le 1 l; rw [HLEN.out] at this; exact this
          have q0 : (0 : Int) ≤ (k : Int) := by omega
          have q1 : (k : Int) ≤ (s.size : Int) := by omega
          have kc : ∀ n, Calls Tryz.prog 52 #[.string (s.extract k s.size)] (W2.drewN n) fun e w' => e = .returned (.int .i64 (z : Int)) ∧ ∃ m, w' = (W2.drewN n).drewN m := fun n => by
            have htw' : HasTab (W2.drewN n) := htw
            have e : z = pz 1 (s.extract k s.size).data.toList := by rw [hz, HL.out, ext_drop]
            rw [e]
            exact commentSize_any _ _ (by simp; omega)
          have c1 := hI.pbox.cell 1 _ (show (pc 1)[1]? = some (.func (.func 52) #[] #[]) from rfl)
          have HI2 := Lib.hid hI
          clear hI hW2 hP hz htw
          go_quiet ((go_at_call 52; exact Calls.quiet_of (kc _)))
          have hI3 := HI2.out.drewN nq
          obtain ⟨W3, hW3⟩ : ∃ W3, W3 = W2.drewN nq := ⟨_, rfl⟩
          rw [← hW3] at hI3
          rw [← hW3]
          have HI3 := Lib.hid hI3
          have c0 := hI3.pbox.cell 0 _ (show (pc 1)[0]? = some (.int .u8 0) from rfl)
          clear hW3 hI3 c1 kc q0 q1
          by_cases z0 : z = 0
          · have HZ0 : Hid (pz 1 l = 0) := Lib.hid (by rw [← HZ.out]; exact z0)
            have z1 : ((z : Int) == 0) = true := by simp [z0]
            clear z0
            go_wp2
            go_roundg (5 - 2)
            case measure => omega
            case rel => exact ⟨2, by omega, rfl, rfl, by first | rfl | simp, HI3.out.back HZ0.out⟩
          · have HZ0 : Hid (pz 1 l ≠ 0) := Lib.hid (by rw [← HZ.out]; exact z0)
            have z1 : ((z : Int) == 0) = false := by simp [z0]
            have z2 : 0 < z := by omega
            clear z0
            go_wp2
            go_roundg (s.size - (k + z))
            case measure => omega
            case rel =>
              have h := hit_none (i := 1) (by omega) HZ0.out (HL.out ▸ HRD.out)
              rw [HL.out, ← HL.out, ← HZ.out, HL.out, List.drop_drop] at h
              exact ⟨k + z, acc, rest, by omega, by first | rfl | simp, HTS.out, h, by omega, HI3.out.own, HI3.out.box, HI3.out.bel⟩
        · obtain rfl : u18 = .int .i64 2 := e18
          have ix : ∀ W : World, (Instr.index 47 (.agg PC) (.int .i64 2)).run Tryz.prog W = .ok (.agg (pc 2)) W := fun W => by rw [HPC.out]; kernel_rfl
          go_wp2_with (refine wpList_store_row rfl 46 (.tmp 7) (.tmp 20) rfl wr.heap.size (pc 2) rfl rfl 46 _ (heap_alloc_last wr _) size_piece rfl (by kernel_rfl) ?_; rw [World.setRow_alloc_new]; simp only [Act.put])
          have hI := HI.out.step
          obtain ⟨W2, hW2⟩ : ∃ W2, W2 = wr.alloc (.cells (pc 2) 46) := ⟨_, rfl⟩
          obtain ⟨P, hP⟩ : ∃ P, P = wr.heap.size := ⟨_, rfl⟩
          obtain ⟨z, hz⟩ : ∃ z, z = pz 2 l := ⟨_, rfl⟩
          rw [← hW2, ← hP] at hI
          rw [← hW2, ← hP]
          have htw : HasTab W2 := HT.out.below hI.bel hlt
          have HZ := Lib.hid hz
          have hzl : z ≤ s.size - k := by rw [hz]; have := pz_le 2 l; rw [HLEN.out] at this; exact this
          have q0 : (0 : Int) ≤ (k : Int) := by omega
          have q1 : (k : Int) ≤ (s.size : Int) := by omega
          have kc : ∀ n, Calls Tryz.prog 53 #[.string (s.extract k s.size)] (W2.drewN n) fun e w' => e = .returned (.int .i64 (z : Int)) ∧ ∃ m, w' = (W2.drewN n).drewN m := fun n => by
            have htw' : HasTab (W2.drewN n) := htw
            have e : z = pz 2 (s.extract k s.size).data.toList := by rw [hz, HL.out, ext_drop]
            rw [e]
            exact (wordSize_any _ _ (by simp; omega)).mono fun e w' h => ⟨h.1, 0, h.2.symm⟩
          have c1 := hI.pbox.cell 1 _ (show (pc 2)[1]? = some (.func (.func 53) #[] #[]) from rfl)
          have HI2 := Lib.hid hI
          clear hI hW2 hP hz htw
          go_quiet ((go_at_call 53; exact Calls.quiet_of (kc _)))
          have hI3 := HI2.out.drewN nq
          obtain ⟨W3, hW3⟩ : ∃ W3, W3 = W2.drewN nq := ⟨_, rfl⟩
          rw [← hW3] at hI3
          rw [← hW3]
          have HI3 := Lib.hid hI3
          have c0 := hI3.pbox.cell 0 _ (show (pc 2)[0]? = some (.int .u8 1) from rfl)
          clear hW3 hI3 c1 kc q0 q1
          by_cases z0 : z = 0
          · have HZ0 : Hid (pz 2 l = 0) := Lib.hid (by rw [← HZ.out]; exact z0)
            have z1 : ((z : Int) == 0) = true := by simp [z0]
            clear z0
            go_wp2
            go_roundg (5 - 3)
            case measure => omega
            case rel => exact ⟨3, by omega, rfl, rfl, by first | rfl | simp, HI3.out.back HZ0.out⟩
          · have HZ0 : Hid (pz 2 l ≠ 0) := Lib.hid (by rw [← HZ.out]; exact z0)
            have z1 : ((z : Int) == 0) = false := by simp [z0]
            have z2 : 0 < z := by omega
            clear z0
            have s1 : (s.extract k (k + z)).size ≤ 1000000 := by rw [ByteArray.size_extract]; omega
            have kC := fun W : World => clone_any (s.extract k (k + z)) W s1
            have q0 : (0 : Int) ≤ (k : Int) := by omega
            have q1 : (k : Int) ≤ (s.size : Int) := by omega
            have q2 : (0 : Int) ≤ (k : Int) + (z : Int) := by omega
            have q3 : (k : Int) + (z : Int) ≤ (s.size : Int) := by omega
            have q4 : IntKind.i64.wrap ((k : Int) + (z : Int)) = (k : Int) + (z : Int) := IntWalk.i64_in _ (by omega)
            have q5 : ((k : Int) + (z : Int)).toNat = k + z := by omega
            have q6 : (k : Int) ≤ (k : Int) + (z : Int) := by omega
            have hP3 : P < W3.heap.size := HI3.out.pbox.lt
            have hB3 : w1.heap.size < W3.heap.size := HI3.out.box.lt
            have hm1 : acc.length + 1 ≤ maxLen := by unfold maxLen; omega
            have hm2 : (acc.length + 1) * 32 ≤ 140737488355328 := by omega
            clear s1
            go_wp2
            go_region_held3 (fun w' => w'.cell? ⟨P, 0, none⟩ = some (.int .u8 1))
              (first
                | go_keep
                | (exact (rr.cell (p := ⟨P, 0, none⟩) hP3).trans c0)
                | (exact (grown_box ((HI3.out.pbox.below rr hP3).alloc _) hgrow HI3.out.ne).cell 0 _ rfl))
              ((first
                | (go_at_call 10; (with_reducible refine (kC _).mono ?_); rintro e w5 ⟨rfl, rr0⟩; have rr : Below W3.heap.size W3 w5 := undrew rr0; clear rr0)
                | (refine step_append_lies _ (by rfl) _ _ _ (by rfl) (w1.heap.size + 1) 51 i0 _ 3 32 Tryz.underlying22 hi0 hz0' hz1' hz2' rfl (by omega) _ acc.length (tcells acc) (by rfl) ((HI3.out.own.below rr).alloc _)
                    ⟨w5.heap.size, 0, none⟩ 1 1 [.int .u8 1, .string (s.extract k (k + z)), .int .i64 (k : Int)] (by rfl) (by rfl) (World.news_of_block (cs := #[.int .u8 1, .string (s.extract k (k + z)), .int .i64 (k : Int)]) (t := 51) (fr := (0, 0)) (heap_alloc_new w5 _)) (by simp [Value.oneCell'])
                    (by omega) hm1 hm2 (by simp; have := rr.size; omega) (w5.heap.size + 1) (by simp) ?_; intro gg cap w6 hown1 hgrow hat hlt6)))
            have hh := HI3.out.hit (t := ⟨2 - 1, l.take z, k⟩) hBw rr hown1 hgrow (by rw [ext_take, ← HL.out]; rfl)
            have HH := Lib.hid hh
            clear hh hown1 hgrow hat hlt6 rr
            go_wp2
            go_roundg (s.size - (k + z))
            case measure => omega
            case rel =>
              obtain ⟨rest', e, hr⟩ := hit_tok (i := 2) (by omega) (by omega) HZ0.out HI3.out.no (HL.out ▸ HRD.out)
              rw [← HZ.out, HL.out, List.drop_drop] at hr
              rw [← HZ.out] at e
              exact ⟨k + z, acc ++ [⟨2 - 1, l.take z, k⟩], rest', by omega, by first | rfl | simp, by rw [HTS.out, e]; simp, hr, by simp; omega, HH.out.1, HH.out.2.1, HH.out.2.2⟩
        · obtain rfl : u18 = .int .i64 3 := e18
          have ix : ∀ W : World, (Instr.index 47 (.agg PC) (.int .i64 3)).run Tryz.prog W = .ok (.agg (pc 3)) W := fun W => by rw [HPC.out]; kernel_rfl
          go_wp2_with (refine wpList_store_row rfl 46 (.tmp 7) (.tmp 20) rfl wr.heap.size (pc 3) rfl rfl 46 _ (heap_alloc_last wr _) size_piece rfl (by kernel_rfl) ?_; rw [World.setRow_alloc_new]; simp only [Act.put])
          have hI := HI.out.step
          obtain ⟨W2, hW2⟩ : ∃ W2, W2 = wr.alloc (.cells (pc 3) 46) := ⟨_, rfl⟩
          obtain ⟨P, hP⟩ : ∃ P, P = wr.heap.size := ⟨_, rfl⟩
          obtain ⟨z, hz⟩ : ∃ z, z = pz 3 l := ⟨_, rfl⟩
          rw [← hW2, ← hP] at hI
          rw [← hW2, ← hP]
          have htw : HasTab W2 := HT.out.below hI.bel hlt
          have HZ := Lib.hid hz
          have hzl : z ≤ s.size - k := by rw [hz]; have := pz_le 3 l; rw [HLEN.out] at this; exact this
          have q0 : (0 : Int) ≤ (k : Int) := by omega
          have q1 : (k : Int) ≤ (s.size : Int) := by omega
          have kc : ∀ n, Calls Tryz.prog 54 #[.string (s.extract k s.size)] (W2.drewN n) fun e w' => e = .returned (.int .i64 (z : Int)) ∧ ∃ m, w' = (W2.drewN n).drewN m := fun n => by
            have htw' : HasTab (W2.drewN n) := htw
            have e : z = pz 3 (s.extract k s.size).data.toList := by rw [hz, HL.out, ext_drop]
            rw [e]
            exact (numberSize_any _ _ (by simp; omega)).mono fun e w' h => ⟨h.1, 0, h.2.symm⟩
          have c1 := hI.pbox.cell 1 _ (show (pc 3)[1]? = some (.func (.func 54) #[] #[]) from rfl)
          have HI2 := Lib.hid hI
          clear hI hW2 hP hz htw
          go_quiet ((go_at_call 54; exact Calls.quiet_of (kc _)))
          have hI3 := HI2.out.drewN nq
          obtain ⟨W3, hW3⟩ : ∃ W3, W3 = W2.drewN nq := ⟨_, rfl⟩
          rw [← hW3] at hI3
          rw [← hW3]
          have HI3 := Lib.hid hI3
          have c0 := hI3.pbox.cell 0 _ (show (pc 3)[0]? = some (.int .u8 2) from rfl)
          clear hW3 hI3 c1 kc q0 q1
          by_cases z0 : z = 0
          · have HZ0 : Hid (pz 3 l = 0) := Lib.hid (by rw [← HZ.out]; exact z0)
            have z1 : ((z : Int) == 0) = true := by simp [z0]
            clear z0
            go_wp2
            go_roundg (5 - 4)
            case measure => omega
            case rel => exact ⟨4, by omega, rfl, rfl, by first | rfl | simp, HI3.out.back HZ0.out⟩
          · have HZ0 : Hid (pz 3 l ≠ 0) := Lib.hid (by rw [← HZ.out]; exact z0)
            have z1 : ((z : Int) == 0) = false := by simp [z0]
            have z2 : 0 < z := by omega
            clear z0
            have s1 : (s.extract k (k + z)).size ≤ 1000000 := by rw [ByteArray.size_extract]; omega
            have kC := fun W : World => clone_any (s.extract k (k + z)) W s1
            have q0 : (0 : Int) ≤ (k : Int) := by omega
            have q1 : (k : Int) ≤ (s.size : Int) := by omega
            have q2 : (0 : Int) ≤ (k : Int) + (z : Int) := by omega
            have q3 : (k : Int) + (z : Int) ≤ (s.size : Int) := by omega
            have q4 : IntKind.i64.wrap ((k : Int) + (z : Int)) = (k : Int) + (z : Int) := IntWalk.i64_in _ (by omega)
            have q5 : ((k : Int) + (z : Int)).toNat = k + z := by omega
            have q6 : (k : Int) ≤ (k : Int) + (z : Int) := by omega
            have hP3 : P < W3.heap.size := HI3.out.pbox.lt
            have hB3 : w1.heap.size < W3.heap.size := HI3.out.box.lt
            have hm1 : acc.length + 1 ≤ maxLen := by unfold maxLen; omega
            have hm2 : (acc.length + 1) * 32 ≤ 140737488355328 := by omega
            clear s1
            go_wp2
            go_region_held3 (fun w' => w'.cell? ⟨P, 0, none⟩ = some (.int .u8 2))
              (first
                | go_keep
                | (exact (rr.cell (p := ⟨P, 0, none⟩) hP3).trans c0)
                | (exact (grown_box ((HI3.out.pbox.below rr hP3).alloc _) hgrow HI3.out.ne).cell 0 _ rfl))
              ((first
                | (go_at_call 10; (with_reducible refine (kC _).mono ?_); rintro e w5 ⟨rfl, rr0⟩; have rr : Below W3.heap.size W3 w5 := undrew rr0; clear rr0)
                | (refine step_append_lies _ (by rfl) _ _ _ (by rfl) (w1.heap.size + 1) 51 i0 _ 3 32 Tryz.underlying22 hi0 hz0' hz1' hz2' rfl (by omega) _ acc.length (tcells acc) (by rfl) ((HI3.out.own.below rr).alloc _)
                    ⟨w5.heap.size, 0, none⟩ 1 1 [.int .u8 2, .string (s.extract k (k + z)), .int .i64 (k : Int)] (by rfl) (by rfl) (World.news_of_block (cs := #[.int .u8 2, .string (s.extract k (k + z)), .int .i64 (k : Int)]) (t := 51) (fr := (0, 0)) (heap_alloc_new w5 _)) (by simp [Value.oneCell'])
                    (by omega) hm1 hm2 (by simp; have := rr.size; omega) (w5.heap.size + 1) (by simp) ?_; intro gg cap w6 hown1 hgrow hat hlt6)))
            have hh := HI3.out.hit (t := ⟨3 - 1, l.take z, k⟩) hBw rr hown1 hgrow (by rw [ext_take, ← HL.out]; rfl)
            have HH := Lib.hid hh
            clear hh hown1 hgrow hat hlt6 rr
            go_wp2
            go_roundg (s.size - (k + z))
            case measure => omega
            case rel =>
              obtain ⟨rest', e, hr⟩ := hit_tok (i := 3) (by omega) (by omega) HZ0.out HI3.out.no (HL.out ▸ HRD.out)
              rw [← HZ.out, HL.out, List.drop_drop] at hr
              rw [← HZ.out] at e
              exact ⟨k + z, acc ++ [⟨3 - 1, l.take z, k⟩], rest', by omega, by first | rfl | simp, by rw [HTS.out, e]; simp, hr, by simp; omega, HH.out.1, HH.out.2.1, HH.out.2.2⟩
        · obtain rfl : u18 = .int .i64 4 := e18
          have ix : ∀ W : World, (Instr.index 47 (.agg PC) (.int .i64 4)).run Tryz.prog W = .ok (.agg (pc 4)) W := fun W => by rw [HPC.out]; kernel_rfl
          go_wp2_with (refine wpList_store_row rfl 46 (.tmp 7) (.tmp 20) rfl wr.heap.size (pc 4) rfl rfl 46 _ (heap_alloc_last wr _) size_piece rfl (by kernel_rfl) ?_; rw [World.setRow_alloc_new]; simp only [Act.put])
          have hI := HI.out.step
          obtain ⟨W2, hW2⟩ : ∃ W2, W2 = wr.alloc (.cells (pc 4) 46) := ⟨_, rfl⟩
          obtain ⟨P, hP⟩ : ∃ P, P = wr.heap.size := ⟨_, rfl⟩
          obtain ⟨z, hz⟩ : ∃ z, z = pz 4 l := ⟨_, rfl⟩
          rw [← hW2, ← hP] at hI
          rw [← hW2, ← hP]
          have htw : HasTab W2 := HT.out.below hI.bel hlt
          have HZ := Lib.hid hz
          have hzl : z ≤ s.size - k := by rw [hz]; have := pz_le 4 l; rw [HLEN.out] at this; exact this
          have q0 : (0 : Int) ≤ (k : Int) := by omega
          have q1 : (k : Int) ≤ (s.size : Int) := by omega
          have kc : ∀ n, Calls Tryz.prog 55 #[.string (s.extract k s.size)] (W2.drewN n) fun e w' => e = .returned (.int .i64 (z : Int)) ∧ ∃ m, w' = (W2.drewN n).drewN m := fun n => by
            have htw' : HasTab (W2.drewN n) := htw
            have e : z = pz 4 (s.extract k s.size).data.toList := by rw [hz, HL.out, ext_drop]
            rw [e]
            exact (signsSize_any _ _ htw').mono fun e w' h => ⟨h.1, 0, h.2.symm⟩
          have c1 := hI.pbox.cell 1 _ (show (pc 4)[1]? = some (.func (.func 55) #[] #[]) from rfl)
          have HI2 := Lib.hid hI
          clear hI hW2 hP hz htw
          go_quiet ((go_at_call 55; exact Calls.quiet_of (kc _)))
          have hI3 := HI2.out.drewN nq
          obtain ⟨W3, hW3⟩ : ∃ W3, W3 = W2.drewN nq := ⟨_, rfl⟩
          rw [← hW3] at hI3
          rw [← hW3]
          have HI3 := Lib.hid hI3
          have c0 := hI3.pbox.cell 0 _ (show (pc 4)[0]? = some (.int .u8 3) from rfl)
          clear hW3 hI3 c1 kc q0 q1
          by_cases z0 : z = 0
          · have HZ0 : Hid (pz 4 l = 0) := Lib.hid (by rw [← HZ.out]; exact z0)
            have z1 : ((z : Int) == 0) = true := by simp [z0]
            clear z0
            go_wp2
            go_roundg (5 - 5)
            case measure => omega
            case rel => exact ⟨5, by omega, rfl, rfl, by first | rfl | simp, HI3.out.back HZ0.out⟩
          · have HZ0 : Hid (pz 4 l ≠ 0) := Lib.hid (by rw [← HZ.out]; exact z0)
            have z1 : ((z : Int) == 0) = false := by simp [z0]
            have z2 : 0 < z := by omega
            clear z0
            have s1 : (s.extract k (k + z)).size ≤ 1000000 := by rw [ByteArray.size_extract]; omega
            have kC := fun W : World => clone_any (s.extract k (k + z)) W s1
            have q0 : (0 : Int) ≤ (k : Int) := by omega
            have q1 : (k : Int) ≤ (s.size : Int) := by omega
            have q2 : (0 : Int) ≤ (k : Int) + (z : Int) := by omega
            have q3 : (k : Int) + (z : Int) ≤ (s.size : Int) := by omega
            have q4 : IntKind.i64.wrap ((k : Int) + (z : Int)) = (k : Int) + (z : Int) := IntWalk.i64_in _ (by omega)
            have q5 : ((k : Int) + (z : Int)).toNat = k + z := by omega
            have q6 : (k : Int) ≤ (k : Int) + (z : Int) := by omega
            have hP3 : P < W3.heap.size := HI3.out.pbox.lt
            have hB3 : w1.heap.size < W3.heap.size := HI3.out.box.lt
            have hm1 : acc.length + 1 ≤ maxLen := by unfold maxLen; omega
            have hm2 : (acc.length + 1) * 32 ≤ 140737488355328 := by omega
            clear s1
            go_wp2
            go_region_held3 (fun w' => w'.cell? ⟨P, 0, none⟩ = some (.int .u8 3))
              (first
                | go_keep
                | (exact (rr.cell (p := ⟨P, 0, none⟩) hP3).trans c0)
                | (exact (grown_box ((HI3.out.pbox.below rr hP3).alloc _) hgrow HI3.out.ne).cell 0 _ rfl))
              ((first
                | (go_at_call 10; (with_reducible refine (kC _).mono ?_); rintro e w5 ⟨rfl, rr0⟩; have rr : Below W3.heap.size W3 w5 := undrew rr0; clear rr0)
                | (refine step_append_lies _ (by rfl) _ _ _ (by rfl) (w1.heap.size + 1) 51 i0 _ 3 32 Tryz.underlying22 hi0 hz0' hz1' hz2' rfl (by omega) _ acc.length (tcells acc) (by rfl) ((HI3.out.own.below rr).alloc _)
                    ⟨w5.heap.size, 0, none⟩ 1 1 [.int .u8 3, .string (s.extract k (k + z)), .int .i64 (k : Int)] (by rfl) (by rfl) (World.news_of_block (cs := #[.int .u8 3, .string (s.extract k (k + z)), .int .i64 (k : Int)]) (t := 51) (fr := (0, 0)) (heap_alloc_new w5 _)) (by simp [Value.oneCell'])
                    (by omega) hm1 hm2 (by simp; have := rr.size; omega) (w5.heap.size + 1) (by simp) ?_; intro gg cap w6 hown1 hgrow hat hlt6)))
            have hh := HI3.out.hit (t := ⟨4 - 1, l.take z, k⟩) hBw rr hown1 hgrow (by rw [ext_take, ← HL.out]; rfl)
            have HH := Lib.hid hh
            clear hh hown1 hgrow hat hlt6 rr
            go_wp2
            go_roundg (s.size - (k + z))
            case measure => omega
            case rel =>
              obtain ⟨rest', e, hr⟩ := hit_tok (i := 4) (by omega) (by omega) HZ0.out HI3.out.no (HL.out ▸ HRD.out)
              rw [← HZ.out, HL.out, List.drop_drop] at hr
              rw [← HZ.out] at e
              exact ⟨k + z, acc ++ [⟨4 - 1, l.take z, k⟩], rest', by omega, by first | rfl | simp, by rw [HTS.out, e]; simp, hr, by simp; omega, HH.out.1, HH.out.2.1, HH.out.2.2⟩
        · obtain rfl : u18 = .int .i64 5 := e18
          have hne : l ≠ [] := by
            intro e
            have := HLEN.out
            rw [e] at this
            simp at this
            omega
          obtain ⟨hr0, hx0⟩ := hit_no hne HI.out.no (HL.out ▸ HRD.out)
          subst hx0
          clear hr0 hne
          go_wp2
          try rw [Exit.noGoto_ret]
          go_ret3
          exact ⟨rfl, HI.out.bel⟩
    · have hk : k = s.size := by omega
      have hd : s.data.toList.drop k = [] := List.drop_of_length_le (by rw [← size_list]; omega)
      have h0 := HRD.out
      rw [hd] at h0
      obtain ⟨hr0, hx0⟩ := h0.of_nil
      subst hx0
      have hts := HTS.out
      rw [hr0, List.append_nil] at hts
      have HTS2 := Lib.hid hts
      clear hts hr0 h0 hd
      obtain rfl : s.size = k := hk.symm
      go_wp2
      try rw [Exit.noGoto_ret]
      go_ret3
      exact ⟨_, rfl, HTS2.out ▸ HOWN.out.mono (by omega), HBEL.out⟩
end Go.Proofs.YtjnmajdigjifkaaGreatDoor
