/- The document's answer: a number divided by one part, by hand. The document's answer: bits moved down, by hand. The document's answer: bits moved .. -/
import Derived.Test.YtgmbaamfobhceaaGreatGRTv
import Derived.Test.YtgmbaamfobhceaaGreatGPart
import Derived.Test.YtgmbaamfobhceaaGreatGDiv
import Derived.Test.YtgmbaamfobhceaaGreatGCmp
import Derived.Test.YtgmbaamfobhceaaGreatGInts
import Derived.Test.YtgmbaamfobhceaaGreatGMathG
set_option linter.unusedSimpArgs false
set_option linter.unusedVariables false
namespace Go.Proofs.YtgmbaamfobhceaaGreat
open Go Go.Proofs Go.RowKit Go.Shelf Nu
attribute [local go_sem] Oper.semAt_some
def DLong (w : World) (gu gq N N3 V E : Nat) (vv : Value) (lv : List Nat) (k : Nat) (W : World) : Prop :=
 (∃ (qs cur : List Nat) (post : List Value), Blk W gq [] qs [] ∧ qs.length = N3 ∧ Sm qs ∧ Blk W gu [] cur post ∧ cur.length = N ∧ Sm cur ∧ Dv V E k qs (val cur)) ∧ Reads W vv lv ∧ Below w.heap.size w W
theorem DLong.step {w W W' : World} {gu gq N N3 V E m i Q : Nat} {vv : Value} {lv qs cur row' : List Nat} {post : List Value}
   (hq : Blk W gq [] qs []) (hql : qs.length = N3) (hqs : Sm qs) (hcs : Sm cur) (hcl : cur.length = N) (hD : Dv V E (i + 1) qs (val cur)) (hm : E < 4294967296 ^ m) (hi : i < N3) (hiN : i + m < N)
   (hR : Reads W vv lv) (hne1 : vv.ownBlock ≠ some gu) (hne2 : vv.ownBlock ≠ some gq) (hugq : gu ≠ gq) (hbw : Below w.heap.size w W) (hgu : w.heap.size ≤ gu) (hgq : w.heap.size ≤ gq)
   (hrow : row'.length = m + 1) (hrs : Sm row') (hrv : val row' = val ((cur.drop i).take (m + 1)) % E)
   (hB' : Blk W' gu ((cur.take i).map u32v) row' ((cur.drop (i + m + 1)).map u32v ++ post)) (hgr : W.grownBy W' (some gu)) (hQ : Q = val ((cur.drop i).take (m + 1)) / E) (hQ32 : Q < 4294967296) :
   W'.cell? ⟨gq, i, none⟩ = some (.int .u32 (qs.getD i 0 : Nat)) ∧ W'.frozen? ⟨gq, i, none⟩ = false ∧ DLong w gu gq N N3 V E vv lv i (W'.setCell ⟨gq, i, none⟩ (.int .u32 (Q : Int))) := by
 have hst := (Dv.step hm hD hcs (by omega) (by omega) hrow hrv).2
 have Q4 : Blk W' gq [] qs [] := Blk.kept hq hgr (by simpa using Ne.symm hugq)
 have z0 := Q4.cell (o := 0) rfl i (by omega)
 have z1 := Q4.frozen i
 rw [Nat.zero_add] at z0
 have Q5 := Q4.set (o := 0) rfl i Q (by omega)
 rw [Nat.zero_add] at Q5
 have hq7 : Blk W' gu [] (cur.take i ++ row' ++ cur.drop (i + m + 1)) post := Blk.split.2 hB'
 have hW0 : w.heap.size ≤ W.heap.size := hbw.size
 refine ⟨z0, z1, ⟨qs.set i Q, cur.take i ++ row' ++ cur.drop (i + m + 1), post, Q5, by rw [List.length_set]; exact hql, hqs.set _ _ hQ32, hq7.kept (grown_setCell (g := gq) (grown_refl W' (some gq)) i _) (by simpa using hugq), ?_, (((hcs.take i).append hrs).append (hcs.drop _)), ?_⟩, ?_, ?_⟩
 · rw [List.length_append, List.length_append, hrow, List.length_take, List.length_drop]; omega
 · rw [hQ]; exact hst
 · exact (hR.grown hgr hne1).grown (grown_setCell (g := gq) (grown_refl W' (some gq)) i _) hne2
 · exact (hbw.grown hgr hW0 (fun j e => by cases e; exact hgu)).setCell (p := ⟨gq, i, none⟩) hgq _
def divOk (A B : List Nat) : Prop := chk A = true ∧ chk B = true ∧ B ≠ []
instance (A B : List Nat) : Decidable (divOk A B) := inferInstanceAs (Decidable (_ ∧ _))
section
variable {W : World} {p1 p2 : Option Addr} {q1 q2 : Nat} {s1 s2 s3 : Bool} {L1 L2 L3 : List Nat} {X Y : Int}
end
section
variable {w : World} {p1 p2 : Option Addr} {q1 q2 : Nat} {n : Bool} {l d : List Nat}
end
section
variable {w : World} {p1 p2 : Option Addr} {q1 q2 : Nat} {n : Bool} {l d : List Nat}
end
end Go.Proofs.YtgmbaamfobhceaaGreat
