/- At every replica the program's BeatReplica answers as its model does, field by field, writes into no argument, and its answer owns its memory: the law FnExactBeatReplica is true at every argument, with no condition. -/
import Derived.Test.YtcefhlkbbipmmaaGreatBase
import Derived.Test.YtcefhlkbbipmmaaGreatZT
import Derived.Test.YtcefhlkbbipmmaaGreatCopy
import Derived.Test.YtcefhlkbbipmmaaGreatMark
import Derived.Test.YtcefhlkbbipmmaaGreatEq
import Derived.Test.YtcefhlkbbipmmaaGreatMark2
import Derived.Test.YtcefhlkbbipmmaaGreatSm
import Derived.Test.YtcefhlkbbipmmaaGreatPutS
import Derived.Test.YtcefhlkbbipmmaaGreatFacts
import Derived.Test.YtcefhlkbbipmmaaGreatZM
import Derived.Test.YtcefhlkbbipmmaaGreatYE
import Derived.Test.YtcefhlkbbipmmaaGreatP1
import Derived.Test.YtcefhlkbbipmmaaGreatZU
import Derived.Test.YtcefhlkbbipmmaaGreatZZ
import Derived.Test.YtcefhlkbbipmmaaGreatZV
import Derived.Test.YtcefhlkbbipmmaaGreatYP
import Derived.Test.YtcefhlkbbipmmaaGreatO1b
import Derived.Test.YtcefhlkbbipmmaaGreatO1
import Derived.Test.YtcefhlkbbipmmaaGreatXA
import Derived.Test.YtcefhlkbbipmmaaGreatZR
import Derived.Test.YtcefhlkbbipmmaaGreatBools
import Derived.Test.YtcefhlkbbipmmaaGreatWA
import Derived.Test.YtcefhlkbbipmmaaGreatWB
import Derived.Test.YtcefhlkbbipmmaaGreatWH
import Derived.Test.YtcefhlkbbipmmaaGreatWL
import Derived.Test.YtcefhlkbbipmmaaGreatWK
import Derived.Test.YtcefhlkbbipmmaaGreatWQ
import Derived.Test.YtcefhlkbbipmmaaGreatXH
import Derived.Test.YtcefhlkbbipmmaaGreatWC
import Derived.Test.YtcefhlkbbipmmaaGreatI5a
import Derived.Test.YtcefhlkbbipmmaaGreatI5s
import Derived.Test.YtcefhlkbbipmmaaGreatWN
import Derived.Test.YtcefhlkbbipmmaaGreatWF
import Derived.Test.YtcefhlkbbipmmaaGreatWR
import Derived.Test.YtcefhlkbbipmmaaGreatWS
import Derived.Test.YtcefhlkbbipmmaaGreatWW
import Derived.Test.YtcefhlkbbipmmaaGreatWX
import Derived.Test.YtcefhlkbbipmmaaGreatXB
import Derived.Test.YtcefhlkbbipmmaaGreatWG
import Derived.Test.YtcefhlkbbipmmaaGreatLAs
import Derived.WalkKit
import Derived.WalkSpells
import Derived.Deep.Draws
import Derived.Deep.MidRow
import Derived.Test.YtcefhlkbbipmmaaGreatChecked
import Derived.WalkLawsBesides
import Derived.Deep.QuietTactic
import Derived.BigQuiet
import Derived.Deep.RegionHeld3
import Derived.Deep.WholeRow
import Derived.Deep.AppendSrc
import Derived.Maps.AppendAt
import Derived.Laws.CopyRow
import Derived.Lib.SliceRun
import Derived.Lib.Overlaps
import Derived.Lib.AppendZeros
import Derived.Laws.Externs
import Derived.Deep.AppendLies
import Derived.Deep.RegionLaw
import Derived.Laws.ComplexArith
import Derived.Laws.Tables
import Derived.ProofKit
import Derived.OpenShut
import Derived.Lib.SmallJoins
import Derived.Deep.SlicePairs
import Derived.Test.YtcefhlkbbipmmaaGreatRows
import Derived.Deep.DeepCutAuto
import Derived.OwnWalk
/- Chapter 3: blocks copied, compared, marked and held by the laws. -/
namespace Go.Proofs.YtcefhlkbbipmmaaGreat
open Go.RowKit

section
variable (cd u : Int)
end

end Go.Proofs.YtcefhlkbbipmmaaGreat

/- What the two DiskFault answer: the same number, a plain function of the words and the cache. -/
namespace Go.Proofs.YtcefhlkbbipmmaaGreat
open Go.RowKit

end Go.Proofs.YtcefhlkbbipmmaaGreat

/- What the program's inner functions over its array of words answer. -/
namespace Go.Proofs.YtcefhlkbbipmmaaGreat
open Go.RowKit

end Go.Proofs.YtcefhlkbbipmmaaGreat

/- What the program's FlushDisk answers. -/
namespace Go.Proofs.YtcefhlkbbipmmaaGreat
open Go.RowKit

end Go.Proofs.YtcefhlkbbipmmaaGreat

/- What the model's inner functions of chapter 1 answer. -/
namespace Go.Proofs.YtcefhlkbbipmmaaGreat
open Go.RowKit

end Go.Proofs.YtcefhlkbbipmmaaGreat

/- What the model's FlushDisk answers: the same as the program's. -/
namespace Go.Proofs.YtcefhlkbbipmmaaGreat
open Go.RowKit

end Go.Proofs.YtcefhlkbbipmmaaGreat

/- What the program's and the model's AllWords answer, and the laws' helpers on an answer of a code and a list. -/
namespace Go.Proofs.YtcefhlkbbipmmaaGreat
open Go.RowKit

end Go.Proofs.YtcefhlkbbipmmaaGreat

/- Chapter 4: what is so when the model's SetTree gives nodes back. -/
namespace Go.Proofs.YtcefhlkbbipmmaaGreat
open Go.RowKit

end Go.Proofs.YtcefhlkbbipmmaaGreat

/- Chapter 3: blocks: what the model's functions answer. -/
namespace Go.Proofs.YtcefhlkbbipmmaaGreat
open Go.RowKit

end Go.Proofs.YtcefhlkbbipmmaaGreat

/- Chapter 3: new blocks: what the model answers. -/
namespace Go.Proofs.YtcefhlkbbipmmaaGreat
open Go.RowKit

end Go.Proofs.YtcefhlkbbipmmaaGreat

/- Chapter 3: blocks taken, shared and dropped: what the model answers. -/
namespace Go.Proofs.YtcefhlkbbipmmaaGreat
open Go.RowKit

end Go.Proofs.YtcefhlkbbipmmaaGreat

/- Chapter 3: the model's answers by what they are told to be; how long they are. -/
namespace Go.Proofs.YtcefhlkbbipmmaaGreat
open Go.RowKit

section
variable {o : Bool} {l u : Nat} (ao : Option Addr) (n cap : Nat) (bs : List (Int × Int)) (w : World) (h : RowAt w o l u 2 ao n cap (pairs bs)) (hn : n ≤ 2097152)
include h hn
end
end Go.Proofs.YtcefhlkbbipmmaaGreat

/- Chapter 4: what the functions answer is right, and not great. -/
namespace Go.Proofs.YtcefhlkbbipmmaaGreat
open Go.RowKit

end Go.Proofs.YtcefhlkbbipmmaaGreat

/- Chapter 4: a forest that the model's call makes and changes: where it lies. -/
namespace Go.Proofs.YtcefhlkbbipmmaaGreat
open Go.RowKit

section
variable {w w' : World} {lo P : Nat} {vn : Value} {ab : Option Addr} {nb cb : Nat} {K : Nat → KS} {f : Fo}
end

end Go.Proofs.YtcefhlkbbipmmaaGreat

/- Chapter 4: the model's copy of a forest. -/
namespace Go.Proofs.YtcefhlkbbipmmaaGreat
open Go.RowKit

end Go.Proofs.YtcefhlkbbipmmaaGreat

/- Chapter 4: the model's ShareTree. -/
namespace Go.Proofs.YtcefhlkbbipmmaaGreat
open Go.RowKit

end Go.Proofs.YtcefhlkbbipmmaaGreat

/- Chapter 4: one less refers to a node: what the model does. -/
namespace Go.Proofs.YtcefhlkbbipmmaaGreat
open Go.RowKit

end Go.Proofs.YtcefhlkbbipmmaaGreat

/- Chapter 4: one less refers to a root: what the model does. -/
namespace Go.Proofs.YtcefhlkbbipmmaaGreat
open Go.RowKit

end Go.Proofs.YtcefhlkbbipmmaaGreat

/- Chapter 4: the model's DropTree. -/
namespace Go.Proofs.YtcefhlkbbipmmaaGreat
open Go.RowKit

end Go.Proofs.YtcefhlkbbipmmaaGreat

/- Chapter 4: kids that are none, kids with another one: what the model answers. -/
namespace Go.Proofs.YtcefhlkbbipmmaaGreat
open Go.RowKit

end Go.Proofs.YtcefhlkbbipmmaaGreat

/- Chapter 4: a new node: what the model does. -/
namespace Go.Proofs.YtcefhlkbbipmmaaGreat
open Go.RowKit

end Go.Proofs.YtcefhlkbbipmmaaGreat

/- Chapter 4: one more refers to each of some kids: what the model does. -/
namespace Go.Proofs.YtcefhlkbbipmmaaGreat
open Go.RowKit

end Go.Proofs.YtcefhlkbbipmmaaGreat

/- Chapter 4: the leaf of a place with another block there: what the model does. -/
namespace Go.Proofs.YtcefhlkbbipmmaaGreat
open Go.RowKit

end Go.Proofs.YtcefhlkbbipmmaaGreat

/- Chapter 4: the root with another leaf at a place: what the model does. -/
namespace Go.Proofs.YtcefhlkbbipmmaaGreat
open Go.RowKit

end Go.Proofs.YtcefhlkbbipmmaaGreat

/- Chapter 4: a place with another block: what the model does. -/
namespace Go.Proofs.YtcefhlkbbipmmaaGreat
open Go.RowKit

end Go.Proofs.YtcefhlkbbipmmaaGreat

/- Small whole numbers as floats, and a block as a complex number: there and back. -/
namespace Go.Proofs.YtcefhlkbbipmmaaGreat
open Go.RowKit

section
variable {x : Int} (h0 : 0 ≤ x) (h1 : x ≤ 256)
include h0 h1
end
end Go.Proofs.YtcefhlkbbipmmaaGreat

/- Chapter 3: the program's smaller functions: blocks as complex numbers. -/
namespace Go.Proofs.YtcefhlkbbipmmaaGreat
open Go.RowKit

end Go.Proofs.YtcefhlkbbipmmaaGreat

/- Chapter 3: the program's BlocksFault; blocks as numbers and back. -/
namespace Go.Proofs.YtcefhlkbbipmmaaGreat
open Go.RowKit

end Go.Proofs.YtcefhlkbbipmmaaGreat

namespace Go.Proofs.YtcefhlkbbipmmaaGreat
open Go.RowKit

set_option maxRecDepth 20000 in
set_option maxHeartbeats 2000000 in
theorem copyReplica_z {own : Bool} {lo hi : Nat} (r : Rep) (h : RH) (w : World) (x : RepAt w own lo hi h r) (hs : RSz h 1048576) :
    Calls Tryz.prog 109 #[.agg #[.int .i64 r.id, .int .i64 r.size, .int .i64 r.view, .bool r.normal, .int .i64 r.last, .slice h.L.1 h.L.2.1 h.L.2.2, .int .i64 r.commit, .slice h.O.1 h.O.2.1 h.O.2.2, .slice h.A.1 h.A.2.1 h.A.2.2, .slice h.D.1 h.D.2.1 h.D.2.2]] w fun e w' => ∃ (z u : Nat) (h' : RH), e = .returned (.agg #[.int .i64 r.id, .int .i64 r.size, .int .i64 r.view, .bool r.normal, .int .i64 r.last, .slice h'.L.1 h'.L.2.1 h'.L.2.2, .int .i64 r.commit, .slice h'.O.1 h'.O.2.1 h'.O.2.2, .slice h'.A.1 h'.A.2.1 h'.A.2.2, .slice h'.D.1 h'.D.2.1 h'.D.2.2]) ∧ w.heap.size ≤ z ∧ u ≤ w'.heap.size ∧ RepAt w' true z u h' r ∧ RSz h' 1048576 ∧ Below w.heap.size w w' := by
  have HS : Hid (∀ i, i < h.D.2.1 → (h.K i).2.1 ≤ 1048576) := hs.K
  go_enter Tryz.func109, Tryz.ntmps109
  go_wp2_with (first | ((have g := ob0); clear g; (with_reducible refine alloc_newX 29 [.int .i64 0, .int .i64 0, .int .i64 0, .bool false, .int .i64 0, .slice none 0 0, .int .i64 0, .slice none 0 0, .slice none 0 0, .slice none 0 0] (fun _ => by kernel_rfl) ?_); intro b1 W1 N1; have ob1 : w.heap.size ≤ b1 := Nat.le_trans B.size N1.ge; have o0_b1 : b0 < b1 := Nat.lt_of_lt_of_le X0.lt N1.ge; replace X0 := X0.below N1.below; replace c0 := X0.cell; replace f0 := X0.froz; replace B := below_next B N1.below; have X1 := N1.bx; have c1 := X1.cell; have f1 := X1.froz; clear N1) | ((with_reducible refine box_newX 29 [.int .i64 r.id, .int .i64 r.size, .int .i64 r.view, .bool r.normal, .int .i64 r.last, .slice h.L.1 h.L.2.1 h.L.2.2, .int .i64 r.commit, .slice h.O.1 h.O.2.1 h.O.2.2, .slice h.A.1 h.A.2.1 h.A.2.2, .slice h.D.1 h.D.2.1 h.D.2.2] rfl ?_); intro b0 W0 N0; have ob0 : w.heap.size ≤ b0 := N0.ge; have B := N0.below; have X0 := N0.bx; have c0 := X0.cell; have f0 := X0.froz; clear N0) | fail)
  refine (cloneE_z _ _ _ r.log _ (by exact x.log.below B) hs.L).mono ?_
  rintro e w5 ⟨ra5, rc5, z5, u5, rfl, Gz5, _, hR5, R5, BB⟩
  have oz5 : w.heap.size ≤ z5 := Nat.le_trans B.size Gz5
  have o0_z5 : b0 < z5 := Nat.lt_of_lt_of_le X0.lt Gz5
  have o1_z5 : b1 < z5 := Nat.lt_of_lt_of_le X1.lt Gz5
  clear Gz5
  replace X0 := X0.below BB
  replace c0 := X0.cell
  replace f0 := X0.froz
  replace X1 := X1.below BB
  replace c1 := X1.cell
  replace f1 := X1.froz
  replace B := below_next B BB
  clear BB
  go_wp2_with (first | ((with_reducible refine store_oneX 24 X0 5 (.slice ra5 h.L.2.1 rc5) (by simp) (by kernel_rfl) rfl rfl rfl ?_); intro V1 S; replace X0 : Bx V1 b0 [.int .i64 r.id, .int .i64 r.size, .int .i64 r.view, .bool r.normal, .int .i64 r.last, .slice ra5 h.L.2.1 rc5, .int .i64 r.commit, .slice h.O.1 h.O.2.1 h.O.2.2, .slice h.A.1 h.A.2.1 h.A.2.2, .slice h.D.1 h.D.2.1 h.D.2.2] := S.bx; replace c0 := X0.cell; replace f0 := X0.froz; replace X1 := X1.kept S.kept (by omega); replace c1 := X1.cell; replace f1 := X1.froz; replace R5 := R5.kept S.kept (by omega); replace hR5 := Nat.le_trans hR5 S.kept.size; replace B := B.trans (S.kept.below _ (by omega) B.size); clear S) | fail)
  refine (cloneI_z _ _ _ r.oks _ (by exact x.oks.below B) hs.O).mono ?_
  rintro e w7 ⟨ra7, rc7, z7, u7, rfl, Gz7, _, hR7, R7, BB⟩
  have oz7 : w.heap.size ≤ z7 := Nat.le_trans B.size Gz7
  have o0_z7 : b0 < z7 := Nat.lt_of_lt_of_le X0.lt Gz7
  have o1_z7 : b1 < z7 := Nat.lt_of_lt_of_le X1.lt Gz7
  have oR5_z7 : u5 ≤ z7 := Nat.le_trans hR5 Gz7
  clear Gz7
  replace X0 := X0.below BB
  replace c0 := X0.cell
  replace f0 := X0.froz
  replace X1 := X1.below BB
  replace c1 := X1.cell
  replace f1 := X1.froz
  replace R5 := R5.below BB
  replace hR5 := Nat.le_trans hR5 BB.size
  replace B := below_next B BB
  clear BB
  go_wp2_with (first | ((with_reducible refine store_oneX 25 X0 7 (.slice ra7 h.O.2.1 rc7) (by simp) (by kernel_rfl) rfl rfl rfl ?_); intro V2 S; replace X0 : Bx V2 b0 [.int .i64 r.id, .int .i64 r.size, .int .i64 r.view, .bool r.normal, .int .i64 r.last, .slice ra5 h.L.2.1 rc5, .int .i64 r.commit, .slice ra7 h.O.2.1 rc7, .slice h.A.1 h.A.2.1 h.A.2.2, .slice h.D.1 h.D.2.1 h.D.2.2] := S.bx; replace c0 := X0.cell; replace f0 := X0.froz; replace X1 := X1.kept S.kept (by omega); replace c1 := X1.cell; replace f1 := X1.froz; replace R5 := R5.kept S.kept (by omega); replace hR5 := Nat.le_trans hR5 S.kept.size; replace R7 := R7.kept S.kept (by omega); replace hR7 := Nat.le_trans hR7 S.kept.size; replace B := B.trans (S.kept.below _ (by omega) B.size); clear S) | fail)
  refine (cloneB_z _ _ _ r.asks _ (by exact x.asks.below B) hs.A).mono ?_
  rintro e w8 ⟨ra8, rc8, z8, u8, rfl, Gz8, _, hR8, R8, BB⟩
  have oz8 : w.heap.size ≤ z8 := Nat.le_trans B.size Gz8
  have o0_z8 : b0 < z8 := Nat.lt_of_lt_of_le X0.lt Gz8
  have o1_z8 : b1 < z8 := Nat.lt_of_lt_of_le X1.lt Gz8
  have oR5_z8 : u5 ≤ z8 := Nat.le_trans hR5 Gz8
  have oR7_z8 : u7 ≤ z8 := Nat.le_trans hR7 Gz8
  clear Gz8
  replace X0 := X0.below BB
  replace c0 := X0.cell
  replace f0 := X0.froz
  replace X1 := X1.below BB
  replace c1 := X1.cell
  replace f1 := X1.froz
  replace R5 := R5.below BB
  replace hR5 := Nat.le_trans hR5 BB.size
  replace R7 := R7.below BB
  replace hR7 := Nat.le_trans hR7 BB.size
  replace B := below_next B BB
  clear BB
  go_wp2_with (first | ((with_reducible refine store_oneX 26 X0 8 (.slice ra8 h.A.2.1 rc8) (by simp) (by kernel_rfl) rfl rfl rfl ?_); intro V3 S; replace X0 : Bx V3 b0 [.int .i64 r.id, .int .i64 r.size, .int .i64 r.view, .bool r.normal, .int .i64 r.last, .slice ra5 h.L.2.1 rc5, .int .i64 r.commit, .slice ra7 h.O.2.1 rc7, .slice ra8 h.A.2.1 rc8, .slice h.D.1 h.D.2.1 h.D.2.2] := S.bx; replace c0 := X0.cell; replace f0 := X0.froz; replace X1 := X1.kept S.kept (by omega); replace c1 := X1.cell; replace f1 := X1.froz; replace R5 := R5.kept S.kept (by omega); replace hR5 := Nat.le_trans hR5 S.kept.size; replace R7 := R7.kept S.kept (by omega); replace hR7 := Nat.le_trans hR7 S.kept.size; replace R8 := R8.kept S.kept (by omega); replace hR8 := Nat.le_trans hR8 S.kept.size; replace B := B.trans (S.kept.below _ (by omega) B.size); clear S) | fail)
  refine (copyDoers_z _ _ _ h.K r.doers _ (by exact x.doers.below B) hs.D HS.out).mono ?_
  rintro e w9 ⟨ra9, rc9, z9, u9, K', rfl, Gz9, hR9, R9, HK, BB⟩
  have HK' : Hid _ := HK
  clear HK
  have oz9 : w.heap.size ≤ z9 := Nat.le_trans B.size Gz9
  have o0_z9 : b0 < z9 := Nat.lt_of_lt_of_le X0.lt Gz9
  have o1_z9 : b1 < z9 := Nat.lt_of_lt_of_le X1.lt Gz9
  have oR5_z9 : u5 ≤ z9 := Nat.le_trans hR5 Gz9
  have oR7_z9 : u7 ≤ z9 := Nat.le_trans hR7 Gz9
  have oR8_z9 : u8 ≤ z9 := Nat.le_trans hR8 Gz9
  clear Gz9
  replace X0 := X0.below BB
  replace c0 := X0.cell
  replace f0 := X0.froz
  replace X1 := X1.below BB
  replace c1 := X1.cell
  replace f1 := X1.froz
  replace R5 := R5.below BB
  replace hR5 := Nat.le_trans hR5 BB.size
  replace R7 := R7.below BB
  replace hR7 := Nat.le_trans hR7 BB.size
  replace R8 := R8.below BB
  replace hR8 := Nat.le_trans hR8 BB.size
  replace B := below_next B BB
  clear BB
  go_wp2_with (first | ((with_reducible refine store_midX 29 X1 0 [.int .i64 r.id, .int .i64 r.size, .int .i64 r.view, .bool r.normal, .int .i64 r.last, .slice ra5 h.L.2.1 rc5, .int .i64 r.commit, .slice ra7 h.O.2.1 rc7, .slice ra8 h.A.2.1 rc8, .slice ra9 h.D.2.1 rc9] (by simp) (by kernel_rfl) (by simp [Value.oneCell']) rfl rfl ?_); intro V5 S; replace X0 := X0.kept S.kept (by omega); replace c0 := X0.cell; replace f0 := X0.froz; replace X1 : Bx V5 b1 [.int .i64 r.id, .int .i64 r.size, .int .i64 r.view, .bool r.normal, .int .i64 r.last, .slice ra5 h.L.2.1 rc5, .int .i64 r.commit, .slice ra7 h.O.2.1 rc7, .slice ra8 h.A.2.1 rc8, .slice ra9 h.D.2.1 rc9] := S.bx; replace c1 := X1.cell; replace f1 := X1.froz; replace R5 := R5.kept S.kept (by omega); replace hR5 := Nat.le_trans hR5 S.kept.size; replace R7 := R7.kept S.kept (by omega); replace hR7 := Nat.le_trans hR7 S.kept.size; replace R8 := R8.kept S.kept (by omega); replace hR8 := Nat.le_trans hR8 S.kept.size; replace R9 := R9.kept S.kept (by omega); replace hR9 := Nat.le_trans hR9 S.kept.size; replace B := B.trans (S.kept.below _ (by omega) B.size); clear S) | ((with_reducible refine store_oneX 27 X0 9 (.slice ra9 h.D.2.1 rc9) (by simp) (by kernel_rfl) rfl rfl rfl ?_); intro V4 S; replace X0 : Bx V4 b0 [.int .i64 r.id, .int .i64 r.size, .int .i64 r.view, .bool r.normal, .int .i64 r.last, .slice ra5 h.L.2.1 rc5, .int .i64 r.commit, .slice ra7 h.O.2.1 rc7, .slice ra8 h.A.2.1 rc8, .slice ra9 h.D.2.1 rc9] := S.bx; replace c0 := X0.cell; replace f0 := X0.froz; replace X1 := X1.kept S.kept (by omega); replace c1 := X1.cell; replace f1 := X1.froz; replace R5 := R5.kept S.kept (by omega); replace hR5 := Nat.le_trans hR5 S.kept.size; replace R7 := R7.kept S.kept (by omega); replace hR7 := Nat.le_trans hR7 S.kept.size; replace R8 := R8.kept S.kept (by omega); replace hR8 := Nat.le_trans hR8 S.kept.size; replace R9 := R9.kept S.kept (by omega); replace hR9 := Nat.le_trans hR9 S.kept.size; replace B := B.trans (S.kept.below _ (by omega) B.size); clear S))
  refine bodyPost_ret (v := .agg #[.int .i64 r.id, .int .i64 r.size, .int .i64 r.view, .bool r.normal, .int .i64 r.last, .slice ra5 h.L.2.1 rc5, .int .i64 r.commit, .slice ra7 h.O.2.1 rc7, .slice ra8 h.A.2.1 rc8, .slice ra9 h.D.2.1 rc9]) (by simp [results, Tryz.results109, go_sem, *]) rfl ⟨w.heap.size, V5.heap.size, ⟨(ra5, h.L.2.1, rc5), (ra7, h.O.2.1, rc7), (ra8, h.A.2.1, rc8), (ra9, h.D.2.1, rc9), K'⟩, rfl, Nat.le_refl _, Nat.le_refl _, ?_, ?_, B⟩
  · exact repAt_ofZ R5 R7 R8 R9 ⟨by omega, by omega⟩ ⟨by omega, by omega⟩ ⟨by omega, by omega⟩ ⟨by omega, by omega⟩ (by omega) (by omega) (by omega) (by omega) (by omega) (by omega)
  · exact ⟨hs.L, hs.O, hs.A, hs.D, fun i hi => by rw [HK'.out i hi]; exact HS.out i hi⟩
set_option maxRecDepth 20000 in
set_option maxHeartbeats 2000000 in
theorem nodeOf_z {own : Bool} {lo hi : Nat} (r : Rep) (h : RH) (w : World) (x : RepAt w own lo hi h r) (hs : RSz h 1048576) :
    Calls Tryz.prog 41 #[.agg #[.int .i64 r.id, .int .i64 r.size, .int .i64 r.view, .bool r.normal, .int .i64 r.last, .slice h.L.1 h.L.2.1 h.L.2.2, .int .i64 r.commit, .slice h.O.1 h.O.2.1 h.O.2.2, .slice h.A.1 h.A.2.1 h.A.2.2, .slice h.D.1 h.D.2.1 h.D.2.2]] w fun e w' => ∃ (bq z u : Nat) (h' : RH), e = .returned (.pointer (some ⟨bq, 0, none⟩)) ∧ w.heap.size ≤ z ∧ u ≤ bq ∧ w.heap.size ≤ bq ∧ Bx w' bq [.int .i64 r.id, .int .i64 r.size, .int .i64 r.view, .bool r.normal, .int .i64 r.last, .slice h'.L.1 h'.L.2.1 h'.L.2.2, .int .i64 r.commit, .slice h'.O.1 h'.O.2.1 h'.O.2.2, .slice h'.A.1 h'.A.2.1 h'.A.2.2, .slice h'.D.1 h'.D.2.1 h'.D.2.2, .slice none 0 0] ∧ RepAt w' true z u h' r ∧ RSz h' 1048576 ∧ Below w.heap.size w w' := by
  go_enter Tryz.func41, Tryz.ntmps41
  go_wp2_with (first | ((with_reducible refine box_newX 29 [.int .i64 r.id, .int .i64 r.size, .int .i64 r.view, .bool r.normal, .int .i64 r.last, .slice h.L.1 h.L.2.1 h.L.2.2, .int .i64 r.commit, .slice h.O.1 h.O.2.1 h.O.2.2, .slice h.A.1 h.A.2.1 h.A.2.2, .slice h.D.1 h.D.2.1 h.D.2.2] rfl ?_); intro b0 W0 N0; have ob0 : w.heap.size ≤ b0 := N0.ge; have B := N0.below; have X0 := N0.bx; have c0 := X0.cell; clear N0) | fail)
  refine (copyReplica_z r h _ (x.below B) hs).mono ?_
  rintro e w1 ⟨z, u, h', rfl, Gz, hR, R, HZ, BB⟩
  have oz : w.heap.size ≤ z := Nat.le_trans B.size Gz
  have o0_z : b0 < z := Nat.lt_of_lt_of_le X0.lt Gz
  clear Gz
  replace X0 := X0.below BB
  replace c0 := X0.cell
  replace B := below_next B BB
  clear BB
  go_wp2_with (first | ((have g := ob0); clear g; (with_reducible refine box_newX 111 [.int .i64 r.id, .int .i64 r.size, .int .i64 r.view, .bool r.normal, .int .i64 r.last, .slice h'.L.1 h'.L.2.1 h'.L.2.2, .int .i64 r.commit, .slice h'.O.1 h'.O.2.1 h'.O.2.2, .slice h'.A.1 h'.A.2.1 h'.A.2.2, .slice h'.D.1 h'.D.2.1 h'.D.2.2, .slice none 0 0] rfl ?_); intro b1 W1 N1; have ob1 : w.heap.size ≤ b1 := Nat.le_trans B.size N1.ge; have o0_b1 : b0 < b1 := Nat.lt_of_lt_of_le X0.lt N1.ge; have oR_b1 : u ≤ b1 := Nat.le_trans hR N1.ge; replace X0 := X0.below N1.below; replace c0 := X0.cell; replace R := R.below N1.below; replace hR := Nat.le_trans hR N1.below.size; replace B := below_next B N1.below; have X1 := N1.bx; have c1 := X1.cell; clear N1))
  go_ret
  exact ⟨b1, z, u, h', rfl, oz, oR_b1, ob1, X1, R, HZ, B⟩
set_option maxRecDepth 20000 in
set_option maxHeartbeats 2000000 in
theorem primaryFor_z {own : Bool} {lo hi : Nat} (r : Rep) (h : RH) (w : World) (x : RepAt w own lo hi h r) (hs : RSz h 1048576) :
    Calls Tryz.prog 73 #[.agg #[.int .i64 r.id, .int .i64 r.size, .int .i64 r.view, .bool r.normal, .int .i64 r.last, .slice h.L.1 h.L.2.1 h.L.2.2, .int .i64 r.commit, .slice h.O.1 h.O.2.1 h.O.2.2, .slice h.A.1 h.A.2.1 h.A.2.2, .slice h.D.1 h.D.2.1 h.D.2.2]] w fun e w' => ∃ (bq z u : Nat) (h' : RH), e = .returned (.agg #[.pointer (some ⟨bq, 0, none⟩)]) ∧ w.heap.size ≤ z ∧ u ≤ bq ∧ w.heap.size ≤ bq ∧ Bx w' bq [.int .i64 r.id, .int .i64 r.size, .int .i64 r.view, .bool r.normal, .int .i64 r.last, .slice h'.L.1 h'.L.2.1 h'.L.2.2, .int .i64 r.commit, .slice h'.O.1 h'.O.2.1 h'.O.2.2, .slice h'.A.1 h'.A.2.1 h'.A.2.2, .slice h'.D.1 h'.D.2.1 h'.D.2.2, .slice none 0 0] ∧ RepAt w' true z u h' r ∧ RSz h' 1048576 ∧ Below w.heap.size w w' := by
  go_enter Tryz.func73, Tryz.ntmps73
  go_wp2_with (first | ((have g := ob0); clear g; (with_reducible refine alloc_newX 108 [.pointer none] (fun _ => by kernel_rfl) ?_); intro b1 W1 N1; have ob1 : w.heap.size ≤ b1 := Nat.le_trans B.size N1.ge; have o0_b1 : b0 < b1 := Nat.lt_of_lt_of_le X0.lt N1.ge; replace X0 := X0.below N1.below; replace c0 := X0.cell; replace B := below_next B N1.below; have X1 := N1.bx; have c1 := X1.cell; have f1 := X1.froz; clear N1) | ((with_reducible refine box_newX 29 [.int .i64 r.id, .int .i64 r.size, .int .i64 r.view, .bool r.normal, .int .i64 r.last, .slice h.L.1 h.L.2.1 h.L.2.2, .int .i64 r.commit, .slice h.O.1 h.O.2.1 h.O.2.2, .slice h.A.1 h.A.2.1 h.A.2.2, .slice h.D.1 h.D.2.1 h.D.2.2] rfl ?_); intro b0 W0 N0; have ob0 : w.heap.size ≤ b0 := N0.ge; have B := N0.below; have X0 := N0.bx; have c0 := X0.cell; clear N0) | fail)
  refine (nodeOf_z r h _ (x.below B) hs).mono ?_
  rintro e w1 ⟨bq, z, u, h', rfl, Gz, uq, Gq, XQ, R, HZ, BB⟩
  have oz := Nat.le_trans B.size Gz
  have oq := Nat.le_trans B.size Gq
  have o1_z : b1 < z := Nat.lt_of_lt_of_le X1.lt Gz
  have o1_q : b1 < bq := Nat.lt_of_lt_of_le X1.lt Gq
  clear Gz Gq
  replace X0 := X0.below BB
  replace c0 := X0.cell
  replace X1 := X1.below BB
  replace c1 := X1.cell
  replace f1 := X1.froz
  replace B := below_next B BB
  clear BB
  go_wp2_with (first | ((with_reducible refine store_midX 108 X1 0 [.pointer (some ⟨bq, 0, none⟩)] (by simp) (by kernel_rfl) (by simp [Value.oneCell']) rfl rfl ?_); intro V1 S; replace X1 : Bx V1 b1 [.pointer (some ⟨bq, 0, none⟩)] := S.bx; replace c1 := X1.cell; replace R := R.kept S.kept (by omega); replace XQ := XQ.kept S.kept (by omega); replace B := B.trans (S.kept.below _ (by omega) B.size); clear S))
  refine bodyPost_ret (v := .agg #[.pointer (some ⟨bq, 0, none⟩)]) (by simp [results, Tryz.results73, go_sem, *]) rfl ⟨bq, z, u, h', rfl, oz, uq, oq, XQ, R, HZ, B⟩

end Go.Proofs.YtcefhlkbbipmmaaGreat

namespace Go.Proofs.YtcefhlkbbipmmaaGreat
open Go.RowKit

set_option maxRecDepth 20000 in
set_option maxHeartbeats 2000000 in
theorem l9Agreed_is {own : Bool} {lo hi : Nat} (r : Rep) (h : RH) (b0 : Nat) (w : World) (X0 : Bx w b0 [.int .i64 r.id, .int .i64 r.size, .int .i64 r.view, .bool r.normal, .int .i64 r.last, .slice h.L.1 h.L.2.1 h.L.2.2, .int .i64 r.commit, .slice h.O.1 h.O.2.1 h.O.2.2, .slice h.A.1 h.A.2.1 h.A.2.2, .slice h.D.1 h.D.2.1 h.D.2.2]) (x : RepAt w own lo hi h r) (hs : 1 ≤ r.size ∧ r.size ≤ 5) (hid : 0 ≤ r.id ∧ r.id ≤ r.size - 1) (hlo : r.log.length ≤ 40) (hl : (r.oks.length : Int) = r.size) :
    Calls Tryz.prog 81 #[.pointer (some ⟨b0, 0, none⟩)] w fun e w' => e = .returned (.int .i64 (agrR r)) ∧ w' = w := by
  have hol := x.oks.nInts
  have hll := x.log.nSixs
  have hxo := x.oks
  have HA : Hid (agrTo r.oks r.id r.size h.L.2.1 = agrR r) := by show _ = _; unfold agrR; rw [hll]
  obtain ⟨id, size, view, normal, last, log, commit, oks, asks, doers⟩ := r
  simp only at X0 hs hid hlo hl hol hll hxo HA
  generalize agrR _ = res at *
  obtain ⟨m, rfl⟩ : ∃ m : Nat, size = m := ⟨size.toNat, by omega⟩
  obtain ⟨i0, rfl⟩ : ∃ i0 : Nat, id = i0 := ⟨id.toNat, by omega⟩
  have HmO : Hid (m = h.O.2.1) := (by omega : m = h.O.2.1)
  have hLl : h.L.2.1 ≤ 40 := by omega
  clear x hll hol hl hlo log asks doers
  have c0 := X0.cell
  go_enter Tryz.func81, Tryz.ntmps81
  go_wp2
  go_loopw [3, 4, 5] (fun kv _ _ wr => ∃ k : Nat, k ≤ h.L.2.1 ∧ kv = .int .i64 k ∧ Hid (agrTo oks i0 m k = res) ∧ w = wr) (fun kv _ _ _ => (intOf kv).toNat)
  case atStart => exact ⟨_, Nat.le_refl _, rfl, HA, rfl⟩
  case round =>
    obtain ⟨k, hk, rfl, HK, rfl⟩ := hrel
    clear HA
    by_cases h0 : k = 0
    · subst h0
      have hd : res = 0 := by rw [← HK.out, agrTo]
      subst hd
      go_wp2
      go_ret
      exact ⟨rfl, rfl⟩
    obtain ⟨p, rfl⟩ : ∃ p, k = p + 1 := ⟨k - 1, by omega⟩
    clear h0
    have hp0 : (0 : Int) < ((p + 1 : Nat) : Int) := by omega
    have s2 : ((p + 1 : Nat) : Int) = (p : Int) + 1 := by simp
    have hp1 : (0 : Int) < (p : Int) + 1 := by omega
    have s0 : IntKind.i64.wrap (p : Int) = p := wrapI_same _ (by omega)
    have HK2 : Hid _ := HK.out
    rw [agrTo] at HK2
    clear HK
    go_wp2
    go_loopw [4, 5] (fun hv iv wr => ∃ i : Nat, i ≤ m ∧ iv = .int .i64 i ∧ hv = .int .i64 (cntA oks i0 ((p : Int) + 1) i) ∧ w = wr) (fun _ iv _ => m - (intOf iv).toNat)
    case atStart => exact ⟨0, Nat.zero_le _, rfl, rfl, rfl⟩
    case round =>
      obtain ⟨i, hi, rfl, rfl, rfl⟩ := hrel
      have hb := cntA_in oks i0 ((p : Int) + 1) i
      by_cases hlt : i < m
      · have hli : (i : Int) < (m : Int) := by omega
        have hlo : (i : Int) < (h.O.2.1 : Int) := by have := HmO.out; omega
        have HS : Hid (cntA oks i0 ((p : Int) + 1) (i + 1) = cntA oks i0 ((p : Int) + 1) i + (if (i : Int) ≠ (i0 : Int) ∧ (p : Int) + 1 ≤ oks.getD i 0 then 1 else 0)) := rfl
        obtain ⟨b, off, eo, _, _, _, e0, _⟩ := hxo.int (k := i) (by have := HmO.out; omega)
        rw [eo] at c0 X0
        generalize oks.getD i 0 = y at *
        generalize hcc : cntA oks i0 ((p : Int) + 1) i = cc at *
        have w1 : IntKind.i64.wrap (cc + 1) = cc + 1 := wrapI_same _ (by omega)
        by_cases q1 : (i : Int) = i0
        · have q1' : ((i : Int) != (i0 : Int)) = false := by simp [q1]
          have HT : Hid _ := HS.out
          rw [if_neg (fun z => z.1 q1), Int.add_zero] at HT
          clear q1 HS hcc
          go_wp2
          go_roundw
          case rel => exact ⟨i + 1, by omega, by go_num, by rw [HT.out], by first | rfl | trivial⟩
          case measure => simp [intOf]; omega
        have q1' : ((i : Int) != (i0 : Int)) = true := by simp [q1]
        by_cases q2 : (p : Int) + 1 ≤ y
        · have HT : Hid _ := HS.out
          rw [if_pos ⟨q1, q2⟩] at HT
          clear q1 HS hcc
          go_wp2
          go_roundw
          case rel => exact ⟨i + 1, by omega, by go_num, by rw [HT.out], by first | rfl | trivial⟩
          case measure => simp [intOf]; omega
        · have HT : Hid _ := HS.out
          rw [if_neg (fun z => q2 z.2), Int.add_zero] at HT
          clear q1 HS hcc
          go_wp2
          go_roundw
          case rel => exact ⟨i + 1, by omega, by go_num, by rw [HT.out], by first | rfl | trivial⟩
          case measure => simp [intOf]; omega
      · obtain rfl : i = m := by omega
        have HX : Hid _ := HK2.out
        rw [Int.toNat_natCast] at HX
        clear HK2
        generalize cntA oks i0 ((p : Int) + 1) i = cc at *
        go_wp2_with fail
        refine (l9Enough_is i (by omega) _).mono ?_
        rintro e W9 ⟨rfl, rfl⟩
        by_cases q : (i : Int) / 2 + 1 ≤ cc
        · have e : res = (p : Int) + 1 := by rw [← HX.out, if_pos q]
          subst e
          go_wp2
          go_ret
          exact ⟨rfl, rfl⟩
        · have HY : Hid _ := HX.out
          rw [if_neg q] at HY
          clear HX
          go_wp2
          go_roundw
          case rel => exact ⟨p, by omega, by go_num, HY, by first | rfl | trivial⟩
          case measure => simp [intOf]
end Go.Proofs.YtcefhlkbbipmmaaGreat

namespace Go.Proofs.YtcefhlkbbipmmaaGreat
open Go.RowKit

set_option maxRecDepth 20000 in
set_option maxHeartbeats 2000000 in
theorem l9Copy_z {own : Bool} {lo hi : Nat} (r : Rep) (h : RH) (w : World) (x : RepAt w own lo hi h r) (hs : RSz h 1048576) (hn9 : h.D.2.1 ≤ 1000) :
    Calls Tryz.prog 48 #[.agg #[.int .i64 r.id, .int .i64 r.size, .int .i64 r.view, .bool r.normal, .int .i64 r.last, .slice h.L.1 h.L.2.1 h.L.2.2, .int .i64 r.commit, .slice h.O.1 h.O.2.1 h.O.2.2, .slice h.A.1 h.A.2.1 h.A.2.2, .slice h.D.1 h.D.2.1 h.D.2.2]] w fun e w' => ∃ (z u : Nat) (h' : RH), e = .returned (.agg #[.int .i64 r.id, .int .i64 r.size, .int .i64 r.view, .bool r.normal, .int .i64 r.last, .slice h'.L.1 h'.L.2.1 h'.L.2.2, .int .i64 r.commit, .slice h'.O.1 h'.O.2.1 h'.O.2.2, .slice h'.A.1 h'.A.2.1 h'.A.2.2, .slice h'.D.1 h'.D.2.1 h'.D.2.2]) ∧ w.heap.size ≤ z ∧ u ≤ w'.heap.size ∧ RepAt w' true z u h' r ∧ RSz h' 1048576 ∧ Below w.heap.size w w' := by
  obtain ⟨i2, hi2, ha2, hb2, hc2⟩ := info_parts Tryz.info2'
  obtain ⟨i4, hi4, ha4, hb4, hc4⟩ := info_parts Tryz.info4'
  obtain ⟨i9, hi9, ha9, hb9, hc9⟩ := info_parts Tryz.infoDoer
  have HS : Hid (∀ i, i < h.D.2.1 → (h.K i).2.1 ≤ 1048576) := hs.K
  have hdl := x.doers.len
  go_enter Tryz.func48, Tryz.ntmps48
  go_wp2_with (first | ((have g := ob0); clear g; (with_reducible refine alloc_newX 29 [.int .i64 0, .int .i64 0, .int .i64 0, .bool false, .int .i64 0, .slice none 0 0, .int .i64 0, .slice none 0 0, .slice none 0 0, .slice none 0 0] (fun _ => by kernel_rfl) ?_); intro b1 W1 N1; have ob1 : w.heap.size ≤ b1 := Nat.le_trans B.size N1.ge; have o0_b1 : b0 < b1 := Nat.lt_of_lt_of_le X0.lt N1.ge; replace X0 := X0.below N1.below; replace c0 := X0.cell; replace f0 := X0.froz; replace B := below_next B N1.below; have X1 := N1.bx; have c1 := X1.cell; have f1 := X1.froz; clear N1) | ((with_reducible refine box_newX 29 [.int .i64 r.id, .int .i64 r.size, .int .i64 r.view, .bool r.normal, .int .i64 r.last, .slice h.L.1 h.L.2.1 h.L.2.2, .int .i64 r.commit, .slice h.O.1 h.O.2.1 h.O.2.2, .slice h.A.1 h.A.2.1 h.A.2.2, .slice h.D.1 h.D.2.1 h.D.2.2] rfl ?_); intro b0 W0 N0; have ob0 : w.heap.size ≤ b0 := N0.ge; have B := N0.below; have X0 := N0.bx; have c0 := X0.cell; have f0 := X0.froz; clear N0) | fail)
  refine (l8Copy_z _ _ _ r.log _ (by exact x.log.below B) hs.L).mono ?_
  rintro e w5 ⟨ra5, rc5, z5, ue5, rfl, Gz5, _, hR5, R5, BB⟩
  have oz5 : w.heap.size ≤ z5 := Nat.le_trans B.size Gz5
  have o0_z5 : b0 < z5 := Nat.lt_of_lt_of_le X0.lt Gz5
  have o1_z5 : b1 < z5 := Nat.lt_of_lt_of_le X1.lt Gz5
  clear Gz5
  replace X0 := X0.below BB
  replace c0 := X0.cell
  replace f0 := X0.froz
  replace X1 := X1.below BB
  replace c1 := X1.cell
  replace f1 := X1.froz
  replace B := below_next B BB
  clear BB
  go_upto_region 2 with (first | ((with_reducible refine store_oneX 24 X0 5 (.slice ra5 h.L.2.1 rc5) (by simp) (by kernel_rfl) rfl rfl rfl ?_); intro V1 S; replace X0 : Bx V1 b0 [.int .i64 r.id, .int .i64 r.size, .int .i64 r.view, .bool r.normal, .int .i64 r.last, .slice ra5 h.L.2.1 rc5, .int .i64 r.commit, .slice h.O.1 h.O.2.1 h.O.2.2, .slice h.A.1 h.A.2.1 h.A.2.2, .slice h.D.1 h.D.2.1 h.D.2.2] := S.bx; replace c0 := X0.cell; replace f0 := X0.froz; replace X1 := X1.kept S.kept (by omega); replace c1 := X1.cell; replace f1 := X1.froz; replace R5 := R5.kept S.kept (by omega); replace hR5 := Nat.le_trans hR5 S.kept.size; replace B := B.trans (S.kept.below _ (by omega) B.size); clear S))
  skip
  go_upto_region 3 with (first | ((with_reducible refine store_oneX 25 X0 7 (.slice (some ad7) h.O.2.1 rc7) (by simp) (by kernel_rfl) rfl rfl rfl ?_); intro V2 S; replace X0 : Bx V2 b0 [.int .i64 r.id, .int .i64 r.size, .int .i64 r.view, .bool r.normal, .int .i64 r.last, .slice ra5 h.L.2.1 rc5, .int .i64 r.commit, .slice (some ad7) h.O.2.1 rc7, .slice h.A.1 h.A.2.1 h.A.2.2, .slice h.D.1 h.D.2.1 h.D.2.2] := S.bx; replace c0 := X0.cell; replace f0 := X0.froz; replace X1 := X1.kept S.kept (by omega); replace c1 := X1.cell; replace f1 := X1.froz; replace X2 := X2.kept S.kept (by omega); replace c2 := X2.cell; replace R5 := R5.kept S.kept (by omega); replace hR5 := Nat.le_trans hR5 S.kept.size; replace R7 := R7.kept S.kept (by omega); replace hR7 := Nat.le_trans hR7 S.kept.size; replace B := B.trans (S.kept.below _ (by omega) B.size); clear S) | (at_builtin; refine Lib.wpList_append_run _ rfl _ _ _ _ rfl _ _ rfl rfl _ _ hr7 ?_; have oz7 : w.heap.size ≤ z7 := Nat.le_trans B.size Gz7; have o0_z7 : b0 < z7 := Nat.lt_of_lt_of_le X0.lt Gz7; have o1_z7 : b1 < z7 := Nat.lt_of_lt_of_le X1.lt Gz7; have o2_z7 : b2 < z7 := Nat.lt_of_lt_of_le X2.lt Gz7; have oR5_z7 : ue5 ≤ z7 := Nat.le_trans hR5 Gz7; replace X0 := X0.below BB; replace c0 := X0.cell; replace f0 := X0.froz; replace X1 := X1.below BB; replace c1 := X1.cell; replace f1 := X1.froz; replace X2 := X2.below BB; replace c2 := X2.cell; replace R5 := R5.below BB; replace hR5 := Nat.le_trans hR5 BB.size; replace B := below_next B BB; clear BB) | ((have g := ob1); clear g; (with_reducible refine lit_newX 25 0 #[] [] 2 (fun _ => by kernel_rfl)  ?_); intro b2 W2 N2; have ob2 : w.heap.size ≤ b2 := Nat.le_trans B.size N2.ge; have o0_b2 : b0 < b2 := Nat.lt_of_lt_of_le X0.lt N2.ge; have o1_b2 : b1 < b2 := Nat.lt_of_lt_of_le X1.lt N2.ge; have oR5_b2 : ue5 ≤ b2 := Nat.le_trans hR5 N2.ge; replace X0 := X0.below N2.below; replace c0 := X0.cell; replace f0 := X0.froz; replace X1 := X1.below N2.below; replace c1 := X1.cell; replace f1 := X1.froz; replace R5 := R5.below N2.below; replace hR5 := Nat.le_trans hR5 N2.below.size; replace B := below_next B N2.below; have X2 := N2.bx; have c2 := X2.cell; clear N2; obtain ⟨ad7, rc7, v7, hr7, Q7, BB, -⟩ := run_append_fresh (P := Tryz.prog) W2 25 25 2 i2 (.int .i64 0) 1 8 Tryz.underlying25 hi2 ha2 hb2 hc2 (by rw [hb2]; rfl) b2 h.O.1 h.O.2.1 h.O.2.2 (ints r.oks) (x.oks.below B) (ints_oneX r.oks) hs.O (by omega); obtain ⟨z7, ue7, Gz7, hR7, R7⟩ : ∃ z u, W2.heap.size ≤ z ∧ u ≤ v7.heap.size ∧ RowAt v7 true z u 1 (some ad7) h.O.2.1 rc7 (ints r.oks) := ⟨_, _, Nat.le_refl _, Nat.le_refl _, Q7⟩; clear Q7) | fail)
  go_upto_region 4 with (first | ((with_reducible refine store_oneX 26 X0 8 (.slice (some ad8) h.A.2.1 rc8) (by simp) (by kernel_rfl) rfl rfl rfl ?_); intro V3 S; replace X0 : Bx V3 b0 [.int .i64 r.id, .int .i64 r.size, .int .i64 r.view, .bool r.normal, .int .i64 r.last, .slice ra5 h.L.2.1 rc5, .int .i64 r.commit, .slice (some ad7) h.O.2.1 rc7, .slice (some ad8) h.A.2.1 rc8, .slice h.D.1 h.D.2.1 h.D.2.2] := S.bx; replace c0 := X0.cell; replace f0 := X0.froz; replace X1 := X1.kept S.kept (by omega); replace c1 := X1.cell; replace f1 := X1.froz; replace X2 := X2.kept S.kept (by omega); replace c2 := X2.cell; replace X3 := X3.kept S.kept (by omega); replace c3 := X3.cell; replace R5 := R5.kept S.kept (by omega); replace hR5 := Nat.le_trans hR5 S.kept.size; replace R7 := R7.kept S.kept (by omega); replace hR7 := Nat.le_trans hR7 S.kept.size; replace R8 := R8.kept S.kept (by omega); replace hR8 := Nat.le_trans hR8 S.kept.size; replace B := B.trans (S.kept.below _ (by omega) B.size); clear S) | (at_builtin; refine Lib.wpList_append_run _ rfl _ _ _ _ rfl _ _ rfl rfl _ _ hr8 ?_; have oz8 : w.heap.size ≤ z8 := Nat.le_trans B.size Gz8; have o0_z8 : b0 < z8 := Nat.lt_of_lt_of_le X0.lt Gz8; have o1_z8 : b1 < z8 := Nat.lt_of_lt_of_le X1.lt Gz8; have o2_z8 : b2 < z8 := Nat.lt_of_lt_of_le X2.lt Gz8; have o3_z8 : b3 < z8 := Nat.lt_of_lt_of_le X3.lt Gz8; have oR5_z8 : ue5 ≤ z8 := Nat.le_trans hR5 Gz8; have oR7_z8 : ue7 ≤ z8 := Nat.le_trans hR7 Gz8; replace X0 := X0.below BB; replace c0 := X0.cell; replace f0 := X0.froz; replace X1 := X1.below BB; replace c1 := X1.cell; replace f1 := X1.froz; replace X2 := X2.below BB; replace c2 := X2.cell; replace X3 := X3.below BB; replace c3 := X3.cell; replace R5 := R5.below BB; replace hR5 := Nat.le_trans hR5 BB.size; replace R7 := R7.below BB; replace hR7 := Nat.le_trans hR7 BB.size; replace B := below_next B BB; clear BB) | ((have g := ob2); clear g; (with_reducible refine lit_newX 26 0 #[] [] 4 (fun _ => by kernel_rfl)  ?_); intro b3 W3 N3; have ob3 : w.heap.size ≤ b3 := Nat.le_trans B.size N3.ge; have o0_b3 : b0 < b3 := Nat.lt_of_lt_of_le X0.lt N3.ge; have o1_b3 : b1 < b3 := Nat.lt_of_lt_of_le X1.lt N3.ge; have o2_b3 : b2 < b3 := Nat.lt_of_lt_of_le X2.lt N3.ge; have oR5_b3 : ue5 ≤ b3 := Nat.le_trans hR5 N3.ge; have oR7_b3 : ue7 ≤ b3 := Nat.le_trans hR7 N3.ge; replace X0 := X0.below N3.below; replace c0 := X0.cell; replace f0 := X0.froz; replace X1 := X1.below N3.below; replace c1 := X1.cell; replace f1 := X1.froz; replace X2 := X2.below N3.below; replace c2 := X2.cell; replace R5 := R5.below N3.below; replace hR5 := Nat.le_trans hR5 N3.below.size; replace R7 := R7.below N3.below; replace hR7 := Nat.le_trans hR7 N3.below.size; replace B := below_next B N3.below; have X3 := N3.bx; have c3 := X3.cell; clear N3; obtain ⟨ad8, rc8, v8, hr8, Q8, BB, -⟩ := run_append_fresh (P := Tryz.prog) W3 26 26 4 i4 (.bool false) 1 1 Tryz.underlying26 hi4 ha4 hb4 hc4 (by rw [hb4]; rfl) b3 h.A.1 h.A.2.1 h.A.2.2 (bls r.asks) (x.asks.below B) (bls_one r.asks) hs.A (by omega); obtain ⟨z8, ue8, Gz8, hR8, R8⟩ : ∃ z u, W3.heap.size ≤ z ∧ u ≤ v8.heap.size ∧ RowAt v8 true z u 1 (some ad8) h.A.2.1 rc8 (bls r.asks) := ⟨_, _, Nat.le_refl _, Nat.le_refl _, Q8⟩; clear Q8) | fail)
  obtain ⟨zz, hzz⟩ : ∃ zz, zz = V3.heap.size := ⟨_, rfl⟩
  have lt0 : b0 < zz := by rw [hzz]; exact X0.lt
  have lt1 : b1 < zz := by rw [hzz]; exact X1.lt
  have l5 : ue5 ≤ zz := by rw [hzz]; exact hR5
  have l7 : ue7 ≤ zz := by rw [hzz]; exact hR7
  have l8 : ue8 ≤ zz := by rw [hzz]; exact hR8
  have lw : w.heap.size ≤ zz := by rw [hzz]; exact B.size
  have HZZ : Hid _ := hzz
  clear hzz
  clear X2 c2 X3 c3
  go_wp2_with (first | ((with_reducible refine lit_newO 27 0 #[] [] 147 (fun _ => by kernel_rfl) ?_); intro b4 W9 N4 HH; replace X0 := X0.below N4.below; replace c0 := X0.cell; replace f0 := X0.froz; replace X1 := X1.below N4.below; replace c1 := X1.cell; replace f1 := X1.froz; replace R5 := R5.below N4.below; replace hR5 := Nat.le_trans hR5 N4.below.size; replace R7 := R7.below N4.below; replace hR7 := Nat.le_trans hR7 N4.below.size; replace R8 := R8.below N4.below; replace hR8 := Nat.le_trans hR8 N4.below.size; replace B := below_next B N4.below; have GG : zz ≤ b4 := (by rw [HZZ.out]; exact N4.ge); have LZ : zz ≤ W9.heap.size := (by rw [HZZ.out]; exact N4.below.size); clear N4) | fail)
  have O0 : W9.ownsRow zz 147 4 (.slice (some ⟨b4, 0, none⟩) 0 0) 0 (flatF 4 0 (drF kd0 r.doers)) := by rw [flatF_zero]; exact owns_litO GG HH
  have G0 : GrowAt 4 W9 zz 147 (.slice (some ⟨b4, 0, none⟩) 0 0) 0 (drF kd0 r.doers) kd0 (drL r.doers) := ⟨O0, fun i hi => absurd hi (Nat.not_lt_zero _), fun i hi => absurd hi (Nat.not_lt_zero _)⟩
  clear O0 HH HZZ GG
  have HX0 : Hid _ := X0
  have HX1 : Hid _ := X1
  have HR5 : Hid _ := R5
  have HR7 : Hid _ := R7
  have HR8 : Hid _ := R8
  have HB : Hid _ := B
  clear X0 X1 R5 R7 R8 B c1 f1 f0
  go_loopw [3, 4, 5] (fun v iv _ wr => ∃ (k : Nat) (K' : Nat → Hd), k ≤ h.D.2.1 ∧ iv = .int .i64 k ∧ GrowAt 4 wr zz 147 v k (drF K' r.doers) K' (drL r.doers) ∧ (∀ i, i < k → (K' i).2.1 = (h.K i).2.1) ∧ zz ≤ wr.heap.size ∧ Below zz W9 wr) (fun _ iv _ _ => h.D.2.1 - (intOf iv).toNat)
  case atStart => exact ⟨0, kd0, Nat.zero_le _, rfl, G0, fun i hi => absurd hi (Nat.not_lt_zero _), LZ, Below.refl _ _⟩
  case round =>
    rename_i v _
    obtain ⟨k, K', hk, rfl, G, HE, LZ2, BL⟩ := hrel
    clear c0 G0 LZ
    have X0 := HX0.out.low BL lt0
    have c0 := X0.cell
    have hbw : Below w.heap.size w wr := HB.out.trans (BL.mono lw)
    by_cases hlt : k < h.D.2.1
    · have hlk : (k : Int) < (h.D.2.1 : Int) := by omega
      obtain ⟨b, off, ed, _, _, hbs, e0, e1, e2, e3, _⟩ := (x.doers.below hbw).doer hlt
      have RR := (x.doers.els.logs k hlt).below hbw
      have hmk := HS.out k hlt
      obtain ⟨kn, hkn⟩ : ∃ kn, (r.doers.getD k dr0).1 = kn := ⟨_, rfl⟩
      obtain ⟨la, hla⟩ : ∃ la, (r.doers.getD k dr0).2.1 = la := ⟨_, rfl⟩
      obtain ⟨cm, hcm⟩ : ∃ cm, (r.doers.getD k dr0).2.2.2 = cm := ⟨_, rfl⟩
      rw [hkn] at e0
      rw [hla] at e1
      rw [hcm] at e3
      have H1 : Hid _ := hkn
      have H2 : Hid _ := hla
      have H3 : Hid _ := hcm
      clear hkn hla hcm
      obtain ⟨⟨qa, qm, qc⟩, hKk⟩ : ∃ q, h.K k = q := ⟨_, rfl⟩
      rw [hKk] at e2 RR hmk
      have HKK : Hid _ := hKk
      clear hKk
      simp only at e2 RR hmk
      rw [ed] at c0
      have HG : Hid _ := G
      have HEh : Hid _ := HE
      clear G HE
      go_wp2_with (first | ((with_reducible refine store_midX 147 X0 0 [.bool kn, .int .i64 la, .slice qa qm qc, .int .i64 cm] (by simp) (by kernel_rfl) (by simp [Value.oneCell']) rfl rfl ?_); intro V1 S; replace X0 : Bx V1 b0 [.bool kn, .int .i64 la, .slice qa qm qc, .int .i64 cm] := S.bx; replace c0 := X0.cell; replace f0 := X0.froz; replace B := B.trans (S.kept.below _ (by omega) B.size); clear S) | ((with_reducible refine alloc_newX 147 [.bool false, .int .i64 0, .slice none 0 0, .int .i64 0] (fun _ => by kernel_rfl) ?_); intro b0 W0 N0; have ob0 : wr.heap.size ≤ b0 := N0.ge; have B := N0.below; have X0 := N0.bx; have c0 := X0.cell; have f0 := X0.froz; clear N0) | fail)
      refine (l8Copy_z qa qm qc _ _ (RR.below B) hmk).mono ?_
      rintro e w1 ⟨ra1, rc1, z1, ue1, rfl, Gz1, zu1, hR1, R1, BB⟩
      have oz1 : wr.heap.size ≤ z1 := Nat.le_trans B.size Gz1
      have o0_z1 : b0 < z1 := Nat.lt_of_lt_of_le X0.lt Gz1
      clear Gz1
      replace X0 := X0.below BB
      replace c0 := X0.cell
      replace f0 := X0.froz
      replace B := below_next B BB
      clear BB
      go_upto_region 10 with (first | ((with_reducible refine store_oneX 24 X0 2 (.slice ra1 qm rc1) (by simp) (by kernel_rfl) rfl rfl rfl ?_); intro V2 S; replace X0 : Bx V2 b0 [.bool kn, .int .i64 la, .slice ra1 qm rc1, .int .i64 cm] := S.bx; replace c0 := X0.cell; replace f0 := X0.froz; replace R1 := R1.kept S.kept (by omega); replace hR1 := Nat.le_trans hR1 S.kept.size; replace B := B.trans (S.kept.below _ (by omega) B.size); clear S) | fail)
      go_wp2_with (first | (at_builtin; refine Lib.wpList_append_run _ rfl _ _ _ _ rfl _ _ rfl rfl _ _ (hr _) ?_) | ((have g := ob0); clear g; (with_reducible refine lit_newX 27 1 _ [.bool kn, .int .i64 la, .slice ra1 qm rc1, .int .i64 cm] 147 (fun _ => by kernel_rfl)  ?_); intro b1 W1 N1; have ob1 : wr.heap.size ≤ b1 := Nat.le_trans B.size N1.ge; have o0_b1 : b0 < b1 := Nat.lt_of_lt_of_le X0.lt N1.ge; have oR1_b1 : ue1 ≤ b1 := Nat.le_trans hR1 N1.ge; replace X0 := X0.below N1.below; replace c0 := X0.cell; replace f0 := X0.froz; replace R1 := R1.below N1.below; replace hR1 := Nat.le_trans hR1 N1.below.size; replace B := below_next B N1.below; have X1 := N1.bx; have c1 := X1.cell; clear N1; obtain ⟨v', w', hr, G2, BB⟩ := copy_snoc HG.out B X1 R1 oz1 hR1 LZ2 H1.out H2.out H3.out hlt hn9; have HG2 : Hid _ := G2; clear G2) | fail)
      have BL2 : Hid (Below zz W9 w') := (BL.trans (B.mono LZ2)).trans BB
      have HE2 : Hid (∀ i, i < k + 1 → ((fun j => if j = k then (ra1, qm, rc1) else K' j) i).2.1 = (h.K i).2.1) := fun i hi => by
        by_cases e : i = k
        · subst e; rw [HKK.out]; simp
        · simp only [if_neg e]; exact HEh.out i (by omega)
      have LZ3 : Hid (zz ≤ w'.heap.size) := Nat.le_trans LZ2 (Nat.le_trans B.size BB.size)
      clear X0 c0 f0 X1 c1 R1 B BB hr
      go_wp2
      go_roundw
      case rel => exact ⟨k + 1, by omega, by go_num, (fun j => if j = k then (ra1, qm, rc1) else K' j), HG2.out, HE2.out, LZ3.out, BL2.out⟩
      case measure => simp [intOf]; omega
    · obtain rfl : k = h.D.2.1 := by omega
      obtain ⟨ao9, c9, rfl, E9⟩ := G.els
      have KB := Kept.ofB BL
      have R5 := HR5.out.kept KB (Or.inl l5)
      have R7 := HR7.out.kept KB (Or.inl l7)
      have R8 := HR8.out.kept KB (Or.inl l8)
      have R9 : DoersAt wr true zz wr.heap.size ao9 h.D.2.1 c9 K' r.doers := ⟨hdl, E9⟩
      have X1 := HX1.out.low BL lt1
      have c1 := X1.cell
      have f0 := X0.froz
      have f1 := X1.froz
      have B : Below w.heap.size w wr := hbw
      have hR5 : ue5 ≤ wr.heap.size := by omega
      have hR7 : ue7 ≤ wr.heap.size := by omega
      have hR8 : ue8 ≤ wr.heap.size := by omega
      obtain ⟨ue9, hu9⟩ : ∃ ue9, ue9 = wr.heap.size := ⟨_, rfl⟩
      rw [← hu9] at R9
      have hR9 : ue9 ≤ wr.heap.size := Nat.le_of_eq hu9
      clear hu9 E9 G KB HX0 HX1 HR5 HR7 HR8 HB BL
      go_wp2_with (first | ((with_reducible refine store_midX 29 X1 0 [.int .i64 r.id, .int .i64 r.size, .int .i64 r.view, .bool r.normal, .int .i64 r.last, .slice ra5 h.L.2.1 rc5, .int .i64 r.commit, .slice (some ad7) h.O.2.1 rc7, .slice (some ad8) h.A.2.1 rc8, .slice ao9 h.D.2.1 c9] (by simp) (by kernel_rfl) (by simp [Value.oneCell']) rfl rfl ?_); intro V22 S; replace X0 := X0.kept S.kept (by omega); replace c0 := X0.cell; replace f0 := X0.froz; replace X1 : Bx V22 b1 [.int .i64 r.id, .int .i64 r.size, .int .i64 r.view, .bool r.normal, .int .i64 r.last, .slice ra5 h.L.2.1 rc5, .int .i64 r.commit, .slice (some ad7) h.O.2.1 rc7, .slice (some ad8) h.A.2.1 rc8, .slice ao9 h.D.2.1 c9] := S.bx; replace c1 := X1.cell; replace f1 := X1.froz; replace R5 := R5.kept S.kept (by omega); replace hR5 := Nat.le_trans hR5 S.kept.size; replace R7 := R7.kept S.kept (by omega); replace hR7 := Nat.le_trans hR7 S.kept.size; replace R8 := R8.kept S.kept (by omega); replace hR8 := Nat.le_trans hR8 S.kept.size; replace R9 := R9.kept S.kept (by omega); replace hR9 := Nat.le_trans hR9 S.kept.size; replace B := B.trans (S.kept.below _ (by omega) B.size); clear S) | ((with_reducible refine store_oneX 27 X0 9 (.slice ao9 h.D.2.1 c9) (by simp) (by kernel_rfl) rfl rfl rfl ?_); intro V21 S; replace X0 : Bx V21 b0 [.int .i64 r.id, .int .i64 r.size, .int .i64 r.view, .bool r.normal, .int .i64 r.last, .slice ra5 h.L.2.1 rc5, .int .i64 r.commit, .slice (some ad7) h.O.2.1 rc7, .slice (some ad8) h.A.2.1 rc8, .slice ao9 h.D.2.1 c9] := S.bx; replace c0 := X0.cell; replace f0 := X0.froz; replace X1 := X1.kept S.kept (by omega); replace c1 := X1.cell; replace f1 := X1.froz; replace R5 := R5.kept S.kept (by omega); replace hR5 := Nat.le_trans hR5 S.kept.size; replace R7 := R7.kept S.kept (by omega); replace hR7 := Nat.le_trans hR7 S.kept.size; replace R8 := R8.kept S.kept (by omega); replace hR8 := Nat.le_trans hR8 S.kept.size; replace R9 := R9.kept S.kept (by omega); replace hR9 := Nat.le_trans hR9 S.kept.size; replace B := B.trans (S.kept.below _ (by omega) B.size); clear S))
      refine bodyPost_ret (v := .agg #[.int .i64 r.id, .int .i64 r.size, .int .i64 r.view, .bool r.normal, .int .i64 r.last, .slice ra5 h.L.2.1 rc5, .int .i64 r.commit, .slice (some ad7) h.O.2.1 rc7, .slice (some ad8) h.A.2.1 rc8, .slice ao9 h.D.2.1 c9]) (by simp [results, Tryz.results48, go_sem, *]) rfl ⟨w.heap.size, V22.heap.size, ⟨(ra5, h.L.2.1, rc5), (some ad7, h.O.2.1, rc7), (some ad8, h.A.2.1, rc8), (ao9, h.D.2.1, c9), K'⟩, rfl, Nat.le_refl _, Nat.le_refl _, ?_, ?_, B⟩
      · exact repAt_ofZ R5 R7 R8 R9 ⟨by omega, by omega⟩ ⟨by omega, by omega⟩ ⟨by omega, by omega⟩ ⟨by omega, by omega⟩ (by omega) (by omega) (by omega) (by omega) (by omega) (by omega)
      · exact ⟨hs.L, hs.O, hs.A, hs.D, fun i hi => by rw [HE i hi]; exact HS.out i hi⟩

end Go.Proofs.YtcefhlkbbipmmaaGreat

namespace Go.Proofs.YtcefhlkbbipmmaaGreat
open Go.RowKit

def cntB : List Bool → Int
  | [] => 0
  | b :: bs => (if b = true then 1 else 0) + cntB bs
theorem cntB_in : ∀ bs : List Bool, 0 ≤ cntB bs ∧ cntB bs ≤ bs.length
  | [] => by simp [cntB]
  | b :: bs => by have := cntB_in bs; simp only [cntB, List.length_cons]; split <;> omega
theorem cntB_drop {bs : List Bool} {k : Nat} (h : k < bs.length) : cntB (bs.drop k) = (if bs.getD k false = true then 1 else 0) + cntB (bs.drop (k + 1)) := by
  rw [List.drop_eq_getElem_cons h]
  simp only [cntB, List.getD, List.getElem?_eq_getElem h, Option.getD_some]
set_option maxRecDepth 20000 in
set_option maxHeartbeats 2000000 in
theorem askers_is {own : Bool} {lo hi : Nat} (r : Rep) (h : RH) (s : Hd) (b0 : Nat) (w : World) (X0 : Bx w b0 [.int .i64 r.id, .int .i64 r.size, .int .i64 r.view, .bool r.normal, .int .i64 r.last, .slice h.L.1 h.L.2.1 h.L.2.2, .int .i64 r.commit, .slice h.O.1 h.O.2.1 h.O.2.2, .slice h.A.1 h.A.2.1 h.A.2.2, .slice h.D.1 h.D.2.1 h.D.2.2, .slice s.1 s.2.1 s.2.2]) (x : RowAt w own lo hi 1 h.A.1 h.A.2.1 h.A.2.2 (bls r.asks)) (hz : h.A.2.1 ≤ 1048576) :
    Calls Tryz.prog 69 #[.pointer (some ⟨b0, 0, none⟩)] w fun e w' => e = .returned (.int .i64 (cntB r.asks)) ∧ w' = w := by
  have hal := x.nBls
  have c0 := X0.cell
  have hle := x.le
  obtain ⟨res, hres⟩ : ∃ res, cntB r.asks = res := ⟨_, rfl⟩
  have HR : Hid _ := hres
  rw [hres]
  clear hres
  have HB : Hid _ := fun k => cntB_in (r.asks.drop k)
  generalize hA : h.A = A at *
  obtain ⟨aa, na, ca⟩ := A
  simp only at x hz hal hle c0
  go_enter Tryz.func69, Tryz.ntmps69
  go_wp2
  go_loopw [3, 5, 12] (fun cv _ iv wr => ∃ (k : Nat) (t : Int), k ≤ na ∧ iv = .int .i64 k ∧ cv = .int .i64 t ∧ 0 ≤ t ∧ t ≤ k ∧ Hid (t + cntB (r.asks.drop k) = res) ∧ w = wr) (fun _ _ iv _ => na - (intOf iv).toNat)
  case atStart => exact ⟨0, 0, Nat.zero_le _, rfl, rfl, Int.le_refl _, Int.le_refl _, (by show _ = _; rw [← HR.out]; simp), rfl⟩
  case round =>
    obtain ⟨k, t, hk, rfl, rfl, t0, t1, HT, rfl⟩ := hrel
    by_cases hlt : k < na
    · have hlk : (k : Int) < (na : Int) := by omega
      have HD : Hid _ := cntB_drop (bs := r.asks) (k := k) (by omega)
      obtain ⟨b, off, rfl, _, _, _, e0, _⟩ := x.bool hlt
      have w1 : IntKind.i64.wrap (t + 1) = t + 1 := wrapI_same _ (by omega)
      obtain ⟨y, hy⟩ : ∃ y, r.asks.getD k false = y := ⟨_, rfl⟩
      rw [hy] at e0 HD
      clear hy
      cases y
      · have HT2 : Hid (t + cntB (r.asks.drop (k + 1)) = res) := by show _ = _; rw [← HT.out, HD.out]; simp
        clear HT HD
        go_wp2
        go_roundw
        case rel => exact ⟨k + 1, t, by omega, by go_num, rfl, t0, by omega, HT2, by first | rfl | trivial⟩
        case measure => simp [intOf]; omega
      · have HT2 : Hid (t + 1 + cntB (r.asks.drop (k + 1)) = res) := by show _ = _; rw [← HT.out, HD.out]; simp; omega
        clear HT HD
        go_wp2
        go_roundw
        case rel => exact ⟨k + 1, t + 1, by omega, by go_num, rfl, by omega, by omega, HT2, by first | rfl | trivial⟩
        case measure => simp [intOf]; omega
    · have e : t = res := by rw [← HT.out, List.drop_eq_nil_of_le (by omega)]; simp [cntB]
      subst e
      go_wp2
      go_ret
      exact ⟨rfl, rfl⟩
set_option maxRecDepth 20000 in
set_option maxHeartbeats 2000000 in
theorem isEnough_is (r : Rep) (h : RH) (s : Hd) (k : Int) (hk : 0 ≤ k ∧ k ≤ 1000) (b0 : Nat) (w : World) (X0 : Bx w b0 [.int .i64 r.id, .int .i64 r.size, .int .i64 r.view, .bool r.normal, .int .i64 r.last, .slice h.L.1 h.L.2.1 h.L.2.2, .int .i64 r.commit, .slice h.O.1 h.O.2.1 h.O.2.2, .slice h.A.1 h.A.2.1 h.A.2.2, .slice h.D.1 h.D.2.1 h.D.2.2, .slice s.1 s.2.1 s.2.2]) :
    Calls Tryz.prog 68 #[.pointer (some ⟨b0, 0, none⟩), .int .i64 k] w fun e w' => e = .returned (.bool (decide (2 * k > r.size))) ∧ w' = w := by
  have c0 := X0.cell
  have w1 : IntKind.i64.wrap (2 * k) = 2 * k := wrapI_same _ (by omega)
  go_enter Tryz.func68, Tryz.ntmps68
  go_wp2
  go_ret
  exact ⟨rfl, rfl⟩

end Go.Proofs.YtcefhlkbbipmmaaGreat

namespace Go.Proofs.YtcefhlkbbipmmaaGreat
open Go.RowKit

def chg0 : Ml := ⟨3, 0, 0, 0, 0, false, en0, 0, [], 0⟩
def chgM (r : Rep) (t : Int) : Ml := putM chg0 r.id t r.view
def chgL (r : Rep) : List Ml := (othL r.id.toNat r.size.toNat).map (chgM r)
set_option maxRecDepth 20000 in
set_option maxHeartbeats 2000000 in
theorem sendChanges_is (r : Rep) (h : RH) (b0 : Nat) (w : World) (X0 : Bx w b0 [.int .i64 r.id, .int .i64 r.size, .int .i64 r.view, .bool r.normal, .int .i64 r.last, .slice h.L.1 h.L.2.1 h.L.2.2, .int .i64 r.commit, .slice h.O.1 h.O.2.1 h.O.2.2, .slice h.A.1 h.A.2.1 h.A.2.2, .slice h.D.1 h.D.2.1 h.D.2.2, .slice none 0 0]) (hs : 1 ≤ r.size ∧ r.size ≤ 5) (hid : 0 ≤ r.id ∧ r.id ≤ r.size - 1) :
    Calls Tryz.prog 71 #[.pointer (some ⟨b0, 0, none⟩)] w fun e w' => ∃ (s : Hd) (Km : Nat → Hd) (base : Nat), e = .returned (.tuple #[]) ∧ Bx w' b0 [.int .i64 r.id, .int .i64 r.size, .int .i64 r.view, .bool r.normal, .int .i64 r.last, .slice h.L.1 h.L.2.1 h.L.2.2, .int .i64 r.commit, .slice h.O.1 h.O.2.1 h.O.2.2, .slice h.A.1 h.A.2.1 h.A.2.2, .slice h.D.1 h.D.2.1 h.D.2.2, .slice s.1 s.2.1 s.2.2] ∧ SentAt w' base (.slice s.1 s.2.1 s.2.2) Km (chgL r) ∧ s.2.1 = (chgL r).length ∧ NilK Km s.2.1 ∧ w.heap.size ≤ base ∧ KeptS (fun k => k = b0) w w' := by
  obtain ⟨m, hm⟩ : ∃ m : Nat, r.size = m := ⟨r.size.toNat, by omega⟩
  obtain ⟨i, hi0⟩ : ∃ i : Nat, r.id = i := ⟨r.id.toNat, by omega⟩
  have HC : Hid (chgL r = (othL i m).map (chgM r)) := by show _ = _; unfold chgL; rw [hm, hi0]; rfl
  have hlen := othL_len i m
  have hm5 : m ≤ 5 := by omega
  have c0 := X0.cell
  have ob0 := X0.lt
  go_enter Tryz.func71, Tryz.ntmps71
  go_wp2_with fail
  refine (others_is r h (none, 0, 0) b0 _ X0 m i hm hi0 hm5).mono ?_
  rintro e w1 ⟨ra, rc, z, ue, rfl, Gz, zu, hR, R, BB⟩
  clear hm hi0 hs hid
  have lb : b0 < w1.heap.size := Nat.lt_of_lt_of_le ob0 BB.size
  have HX : Hid _ := X0.below BB
  have hRn := R.le
  have HW : Hid _ := BB.size
  have HBB : Hid _ := BB
  have HZB : Hid (b0 < z) := Nat.lt_of_lt_of_le ob0 Gz
  clear X0 c0 BB Gz zu
  generalize hxs : othL i m = xs at *
  have HXS : Hid _ := hxs
  clear hxs
  go_wp2
  have HNR : Hid (∀ q, inR ra xs.length q → ¬ (q = b0 ∨ w1.heap.size ≤ q)) := fun q hq hs => by
    have hb := R.inB hq
    have := HZB.out
    omega
  go_loopw [3, 7] (fun _ iv wr => ∃ (k : Nat) (s : Hd) (Km : Nat → Hd), k ≤ xs.length ∧ iv = .int .i64 k ∧ Bx wr b0 [.int .i64 r.id, .int .i64 r.size, .int .i64 r.view, .bool r.normal, .int .i64 r.last, .slice h.L.1 h.L.2.1 h.L.2.2, .int .i64 r.commit, .slice h.O.1 h.O.2.1 h.O.2.2, .slice h.A.1 h.A.2.1 h.A.2.2, .slice h.D.1 h.D.2.1 h.D.2.2, .slice s.1 s.2.1 s.2.2] ∧ SentAt wr w1.heap.size (.slice s.1 s.2.1 s.2.2) Km ((xs.take k).map (chgM r)) ∧ s.2.1 = k ∧ NilK Km k ∧ w1.heap.size ≤ wr.heap.size ∧ KeptS (fun q => q = b0 ∨ w1.heap.size ≤ q) w1 wr) (fun _ iv _ => xs.length - (intOf iv).toNat)
  case atStart => exact ⟨0, (none, 0, 0), kd0, Nat.zero_le _, rfl, HX.out, GrowAt.nil _ _ _ _ _ _ _, rfl, fun j hj => absurd hj (Nat.not_lt_zero _), Nat.le_refl _, KeptS.refl _ _⟩
  case round =>
    obtain ⟨k, s, Km, hk, rfl, X0, G, hsk, NK, LZ, KS⟩ := hrel
    clear HX
    by_cases hlt : k < xs.length
    · have hlk : (k : Int) < (xs.length : Int) := by omega
      have R2 : RowAt wr true z ue 1 ra xs.length rc (ints xs) := R.keptR KS (fun q hq hs => HNR.out q hq hs)
      obtain ⟨b, off, rfl, _, _, _, e0, _⟩ := R2.int hlt
      clear R2
      obtain ⟨t, ht⟩ : ∃ t, xs.getD k 0 = t := ⟨_, rfl⟩
      rw [ht] at e0
      have HT : Hid _ := take_map_succ hlt (chgM r)
      rw [ht] at HT
      clear ht
      have hml : ((xs.take k).map (chgM r)).length = k := by simp; omega
      have HML : Hid _ := hml
      go_wp2_with fail
      refine (send_is r h s t chg0 (none, 0, 0) w1.heap.size b0 _ Km _ X0 G (RowAt.nilR _ _ _ _ _ _ _) (fun h0 => absurd rfl h0) lb LZ (by rw [HML.out]; omega)).mono ?_
      rintro e w2 ⟨s', rfl, X2, G2, hs2, KS2⟩
      rw [HML.out] at G2 hs2
      have G3 : SentAt w2 w1.heap.size (.slice s'.1 s'.2.1 s'.2.2) (fun j => if j = k then (none, 0, 0) else Km j) ((xs.take (k + 1)).map (chgM r)) := by rw [HT.out]; exact G2
      have NK2 : NilK (fun j => if j = k then ((none : Option Addr), 0, 0) else Km j) (k + 1) := fun j hj => by
        by_cases e : j = k
        · simp [e]
        · simp only [if_neg e]; exact NK j (by omega)
      have H1 : Hid _ := X2
      have H2 : Hid _ := G3
      have H3 : Hid _ := hs2
      have H4 : Hid _ := NK2
      have H5 : Hid (w1.heap.size ≤ w2.heap.size) := Nat.le_trans LZ KS2.size
      have H6 : Hid _ := KS.trans KS2
      clear X0 X2 G G2 G3 hs2 NK2 KS KS2 HT hml HML e0
      go_wp2
      go_roundw
      case rel => exact ⟨k + 1, s', (fun j => if j = k then (none, 0, 0) else Km j), by omega, by go_num, H1.out, H2.out, H3.out, H4.out, H5.out, H6.out⟩
      case measure => simp [intOf]; omega
    · obtain rfl : k = xs.length := by omega
      have K9 : KeptS (fun q => q = b0) w wr := ⟨KS.os.trans HBB.out.os, KS.tape.trans HBB.out.tape, KS.output.trans HBB.out.output, Nat.le_trans HW.out LZ, fun q hq hn => (KS.block q (Nat.lt_of_lt_of_le hq HW.out) (fun z => z.elim hn fun z => by have := HW.out; omega)).trans (HBB.out.block q hq)⟩
      rw [List.take_length] at G
      have H1 : Hid _ := X0
      have H2 : Hid _ := G
      have H3 : Hid _ := K9
      have H4 : Hid _ := NK
      clear X0 G KS K9 NK
      go_wp2
      refine bodyPost_end (v := .tuple #[]) (by simp [results, Tryz.results71, go_sem]) rfl ⟨s, Km, w1.heap.size, rfl, H1.out, ?_, ?_, ?_, HW.out, H3.out⟩
      · rw [HC.out]; exact H2.out
      · rw [HC.out, hsk]; simp
      · rw [hsk]; exact H4.out

end Go.Proofs.YtcefhlkbbipmmaaGreat

namespace Go.Proofs.YtcefhlkbbipmmaaGreat
open Go.RowKit

theorem chgL_len (r : Rep) : (chgL r).length ≤ r.size.toNat := by unfold chgL; rw [List.length_map]; exact othL_len _ _
end Go.Proofs.YtcefhlkbbipmmaaGreat

namespace Go.Proofs.YtcefhlkbbipmmaaGreat
open Go.RowKit

theorem step_litX {P : Program} {ops : Array Oper} {dst : Option Tmp} {type : TypeId} {pos : String} {after : Array Edge} {a : Act} {w : World} {K : Act → World → Prop} {Q : Exit → Act → World → Prop} {E : Prop} (t : TypeId) (n : Nat) (parts : Array (Nat × Operand)) (cs : List Value) (T : TypeId) (hb : ∀ w : World, (Instr.buildSlice t n (parts.map fun (i, x) => (i, a.eval x))).run P w = .ok (.slice (some ⟨w.heap.size, 0, none⟩) n n) (w.alloc (.cells cs.toArray T)))
    (h : ∀ (b : Nat) (W : World), NewX w W b cs → K (a.put dst (.slice (some ⟨b, 0, none⟩) n n)) W) : if Region.wanted ⟨dst, .buildSlice t n parts, type, pos, after, none⟩ (yielded ops a.tmps) = true then Oper.wp P ⟨dst, .buildSlice t n parts, type, pos, after, none⟩ a w K Q else E := by
  have hw : Region.wanted ⟨dst, .buildSlice t n parts, type, pos, after, none⟩ (yielded ops a.tmps) = true := by simp [Region.wanted]
  rw [if_pos hw]
  have hK2 := h _ _ (by simpa using newX_mk w cs.toArray T)
  have hb' : (Instr.buildSlice t n (Array.map (fun x => (x.fst, a.eval x.snd)) parts)).run P w = _ := hb w
  unfold Oper.wp execOp
  simp only [Sem.run_bind, Sem.run_pure, Result.andThen_ok, hb']
  exact hK2
end Go.Proofs.YtcefhlkbbipmmaaGreat

/- What a node tells of itself, by the program and by the model. -/
namespace Go.Proofs.YtcefhlkbbipmmaaGreat
open Go.RowKit

def tel0 (r : Rep) : Ml := ⟨4, 0, 0, 0, 0, false, en0, r.last, r.log, r.commit⟩
def telM (r : Rep) : Ml := putM (tel0 r) r.id (r.view % r.size) r.view
def tellM (r : Rep) : List Ml := if (r.view % r.size == r.id) = true then [] else [telM r]
theorem tellM_len (r : Rep) : (tellM r).length ≤ 1 := by unfold tellM; split <;> simp
/-- a list of one mail, its log behind another's -/
theorem one_mail {w : World} {bl z ue base u : Nat} {hd : Hd} {m : Ml} (X : Bx w bl (mlV hd m)) (R : RowAt w true z ue 6 hd.1 hd.2.1 hd.2.2 (sixs m.log)) (h1 : base ≤ z) (h2 : ue ≤ u) (h3 : u ≤ bl) (h4 : base ≤ u) : MailsAt w true base w.heap.size (some ⟨bl, 0, none⟩) 1 1 (fun _ => hd) [m] := by
  have e : flatF 15 1 (mlF (fun _ => hd) [m]) = mlV hd m := by
    rw [flatF_snoc, flatF_zero, List.nil_append]; exact mlF_last (fun _ => hd) [] m
  have hlt := X.lt
  refine ⟨rfl, ⟨⟨by rw [e]; simp [mlV], Nat.le_refl _, fun _ => ⟨bl, 0, rfl, ?_, hlt, hlt, fun i hi => ?_, fun _ i _ => by rw [Nat.zero_add]; exact X.froz i⟩⟩, fun i hi => ?_, fun _ i hi h0 => ⟨fun q => ?_, fun j hj hne => by omega⟩⟩⟩
  · by_cases q : hd.2.1 = 0
    · omega
    · have := R.inB (k := sb hd.1) ⟨q, rfl⟩; omega
  · rw [e, Nat.zero_add, X.cell i, List.getD_eq_getElem?_getD, List.getElem?_eq_getElem (by simpa [mlV] using hi)]; rfl
  · obtain rfl : i = 0 := by omega
    show RowAt w true base w.heap.size 6 hd.1 hd.2.1 hd.2.2 (sixs m.log)
    exact R.widen h1 (by omega)
  · have := R.inB (k := sb hd.1) ⟨h0, rfl⟩
    have e2 : sb hd.1 = bl := q
    omega
set_option maxRecDepth 20000 in
set_option maxHeartbeats 2000000 in
theorem tellOfItself_is {own : Bool} {lo hi : Nat} (r : Rep) (h : RH) (s : Hd) (base b0 : Nat) (w : World) (Km : Nat → Hd) (ms : List Ml) (X0 : Bx w b0 [.int .i64 r.id, .int .i64 r.size, .int .i64 r.view, .bool r.normal, .int .i64 r.last, .slice h.L.1 h.L.2.1 h.L.2.2, .int .i64 r.commit, .slice h.O.1 h.O.2.1 h.O.2.2, .slice h.A.1 h.A.2.1 h.A.2.2, .slice h.D.1 h.D.2.1 h.D.2.2, .slice s.1 s.2.1 s.2.2]) (L5 : RowAt w own lo hi 6 h.L.1 h.L.2.1 h.L.2.2 (sixs r.log)) (hzL : h.L.2.1 ≤ 1048576) (G : SentAt w base (.slice s.1 s.2.1 s.2.2) Km ms) (hsn : s.2.1 = ms.length) (hK : ∀ j, j < s.2.1 → (Km j).2.1 ≤ 1048576) (hb : b0 < base) (hbase : base ≤ w.heap.size) (hn : ms.length ≤ 1000) (hs : 1 ≤ r.size ∧ r.size ≤ 5) (hv : 0 ≤ r.view ∧ r.view ≤ 300) :
    Calls Tryz.prog 75 #[.pointer (some ⟨b0, 0, none⟩)] w fun e w' => ∃ (s' : Hd) (Km' : Nat → Hd), e = .returned (.tuple #[]) ∧ Bx w' b0 [.int .i64 r.id, .int .i64 r.size, .int .i64 r.view, .bool r.normal, .int .i64 r.last, .slice h.L.1 h.L.2.1 h.L.2.2, .int .i64 r.commit, .slice h.O.1 h.O.2.1 h.O.2.2, .slice h.A.1 h.A.2.1 h.A.2.2, .slice h.D.1 h.D.2.1 h.D.2.2, .slice s'.1 s'.2.1 s'.2.2] ∧ SentAt w' base (.slice s'.1 s'.2.1 s'.2.2) Km' (ms ++ tellM r) ∧ s'.2.1 = (ms ++ tellM r).length ∧ (∀ j, j < s'.2.1 → (Km' j).2.1 ≤ 1048576) ∧ KeptS (fun k => k = b0 ∨ base ≤ k) w w' := by
  have HTM : Hid (tellM r = if (r.view % r.size == r.id) = true then [] else [telM r]) := rfl
  have HG : Hid (GrowAt _ _ _ _ _ _ _ _ _) := G
  have HK : Hid _ := hK
  clear G hK
  have c0 := X0.cell
  have ob0 := X0.lt
  go_enter Tryz.func75, Tryz.ntmps75
  go_wp2_with fail
  have DQ : Below w.heap.size w w.drew := (Below.refl _ _).drew
  replace X0 := X0.below DQ
  replace c0 := X0.cell
  have B := DQ
  clear DQ
  refine wp_region_held_drew (S := (fun w' => ∀ k : Nat, w'.cell? ⟨b0, k, none⟩ = [.int .i64 r.id, .int .i64 r.size, .int .i64 r.view, .bool r.normal, .int .i64 r.last, .slice h.L.1 h.L.2.1 h.L.2.2, .int .i64 r.commit, .slice h.O.1 h.O.2.1 h.O.2.2, .slice h.A.1 h.A.2.1 h.A.2.2, .slice h.D.1 h.D.2.1 h.D.2.2, .slice s.1 s.2.1 s.2.2][k]?)) (by kernel_rfl) c0 (fun hHeld => ?_)
  refine wpAnyH_take (i := 0) (v := ?_) rfl (by kernel_rfl) (by kernel_rfl) (by kernel_rfl) (fun _ _ _ h => h) (Or.inl ⟨by rfl, ?_⟩) hHeld ?_
  rotate_left 1
  · intro w hSw
    try dsimp only at hSw
    first | (go_simp; done) | (go_simp; with_reducible rfl)
  simp only [Act.put, List.setIfInBounds_toArray, List.set_cons_zero, List.set_cons_succ, List.getElem_toArray, List.getElem_cons_zero]
  refine wpAnyH_take (i := 1) (v := ?_) rfl (by kernel_rfl) (by kernel_rfl) (by kernel_rfl) (fun _ _ _ h => h) (Or.inl ⟨by rfl, ?_⟩) hHeld ?_
  rotate_left 1
  · intro w hSw
    try dsimp only at hSw
    first | (go_simp; done) | (go_simp; with_reducible rfl)
  simp only [Act.put, List.setIfInBounds_toArray, List.set_cons_zero, List.set_cons_succ, List.getElem_toArray, List.getElem_cons_zero, List.getElem_cons_succ]
  refine wpAnyH_take (i := 2) (v := ?_) rfl (by kernel_rfl) (by kernel_rfl) (by kernel_rfl) (fun _ _ _ h => h) (Or.inl ⟨by rfl, ?_⟩) hHeld ?_
  rotate_left 1
  · intro w hSw
    try dsimp only at hSw
    first | (go_simp; done) | (go_simp; with_reducible rfl)
  simp only [Act.put, List.setIfInBounds_toArray, List.set_cons_zero, List.set_cons_succ, List.getElem_toArray, List.getElem_cons_zero, List.getElem_cons_succ]
  refine wpAnyH_take (i := 3) (v := ?_) rfl (by kernel_rfl) (by kernel_rfl) (by kernel_rfl) (fun _ _ _ h => h) (Or.inl ⟨by rfl, ?_⟩) hHeld ?_
  rotate_left 1
  · intro w hSw
    try dsimp only at hSw
    first | (go_simp; done) | (go_simp; with_reducible rfl)
  simp only [Act.put, List.setIfInBounds_toArray, List.set_cons_zero, List.set_cons_succ, List.getElem_toArray, List.getElem_cons_zero, List.getElem_cons_succ]
  refine wpAnyH_take (i := 4) (v := ?_) rfl (by kernel_rfl) (by kernel_rfl) (by kernel_rfl) (fun _ _ _ h => h) (Or.inl ⟨by rfl, ?_⟩) hHeld ?_
  rotate_left 1
  · intro w hSw
    try dsimp only at hSw
    first | (go_simp; done) | (go_simp; with_reducible rfl)
  simp only [Act.put, List.setIfInBounds_toArray, List.set_cons_zero, List.set_cons_succ, List.getElem_toArray, List.getElem_cons_zero, List.getElem_cons_succ]
  refine wpAnyH_take (i := 5) (v := ?_) rfl (by kernel_rfl) (by kernel_rfl) (by kernel_rfl) (fun _ _ _ h => h) (Or.inl ⟨by rfl, ?_⟩) hHeld ?_
  rotate_left 1
  · intro w hSw
    try dsimp only at hSw
    first | (go_simp; done) | (go_simp; with_reducible rfl)
  simp only [Act.put, List.setIfInBounds_toArray, List.set_cons_zero, List.set_cons_succ, List.getElem_toArray, List.getElem_cons_zero, List.getElem_cons_succ]
  refine wpAnyH_take (i := 6) (v := ?_) rfl (by kernel_rfl) (by kernel_rfl) (by kernel_rfl) (fun _ _ _ h => h) (Or.inl ⟨by rfl, ?_⟩) hHeld ?_
  rotate_left 1
  · intro w hSw
    try dsimp only at hSw
    first | (go_simp; done) | (go_simp; with_reducible rfl)
  simp only [Act.put, List.setIfInBounds_toArray, List.set_cons_zero, List.set_cons_succ, List.getElem_toArray, List.getElem_cons_zero, List.getElem_cons_succ]
  refine wpAnyH_take (i := 7) (v := ?_) rfl (by kernel_rfl) (by kernel_rfl) (by kernel_rfl) (fun _ _ _ h => h) (Or.inl ⟨by rfl, ?_⟩) hHeld ?_
  rotate_left 1
  · intro w hSw
    try dsimp only at hSw
    first | (go_simp; done) | (go_simp; with_reducible rfl)
  simp only [Act.put, List.setIfInBounds_toArray, List.set_cons_zero, List.set_cons_succ, List.getElem_toArray, List.getElem_cons_zero, List.getElem_cons_succ]
  refine wpAnyH_take (i := 8) (v := ?_) rfl (by kernel_rfl) (by kernel_rfl) (by kernel_rfl) (fun _ _ _ h => h) (Or.inl ⟨by rfl, ?_⟩) hHeld ?_
  rotate_left 1
  · intro w hSw
    try dsimp only at hSw
    first | (go_simp; done) | (go_simp; with_reducible rfl)
  simp only [Act.put, List.setIfInBounds_toArray, List.set_cons_zero, List.set_cons_succ, List.getElem_toArray, List.getElem_cons_zero, List.getElem_cons_succ]
  refine wpAnyH_take (i := 9) (v := ?_) rfl (by kernel_rfl) (by kernel_rfl) (by kernel_rfl) (fun _ _ _ h => h) (Or.inl ⟨by rfl, ?_⟩) hHeld ?_
  rotate_left 1
  · intro w hSw
    try dsimp only at hSw
    first | (go_simp; done) | (go_simp; with_reducible rfl)
  simp only [Act.put, List.setIfInBounds_toArray, List.set_cons_zero, List.set_cons_succ, List.getElem_toArray, List.getElem_cons_zero, List.getElem_cons_succ]
  refine wpAnyH_ready (rs := [10]) (by kernel_rfl) (by simp) ?_
  refine AllReadyH.cons rfl (fun KK hKK => ?_) AllReadyH.nil
  go_simp
  go_at_call 142
  refine (firstOf_is r.view r.size hs hv _).mono ?_
  rintro e W9 ⟨rfl, rfl⟩
  clear hHeld
  refine hKK _ _ c0 (fun hHeld => ?_)
  clear hKK KK
  refine wpAnyH_take (i := 11) (v := ?_) rfl (by kernel_rfl) (by kernel_rfl) (by kernel_rfl) (fun _ _ _ h => h) (Or.inl ⟨by rfl, ?_⟩) hHeld ?_
  rotate_left 1
  · intro w hSw
    try dsimp only at hSw
    first | (go_simp; done) | (go_simp; with_reducible rfl)
  simp only [Act.put, List.setIfInBounds_toArray, List.set_cons_zero, List.set_cons_succ, List.getElem_toArray, List.getElem_cons_zero, List.getElem_cons_succ]
  refine wpAnyH_done (by kernel_rfl) ?_ _
  obtain ⟨fo, hfo⟩ : ∃ fo, r.view % r.size = fo := ⟨_, rfl⟩
  have HF : Hid _ := hfo
  rw [hfo] at HTM
  simp only [hfo]
  clear hfo
  by_cases q : fo = r.id
  · have q1 : (fo == r.id) = true := by simp [q]
    have E : tellM r = [] := by rw [HTM.out, if_pos q1]
    clear q
    go_wp2
    refine bodyPost_ret (v := .tuple #[]) (by simp [results, Tryz.results75, go_sem]) rfl ⟨s, Km, rfl, X0, ?_, ?_, HK.out, (KeptS.below B)⟩
    · rw [E, List.append_nil]; exact HG.out.below B
    · rw [E, List.append_nil]; exact hsn
  have q1 : (fo == r.id) = false := by simp [q]
  have E : tellM r = [telM r] := by rw [HTM.out, if_neg (by rw [q1]; decide)]
  clear q
  go_wp2_with fail
  have DQ : Below w.drew.heap.size w.drew w.drew.drew := (Below.refl _ _).drew
  replace X0 := X0.below DQ
  replace c0 := X0.cell
  replace B := below_next B DQ
  clear DQ
  have k4 := X0.cell 4
  simp only [List.getElem?_cons_succ, List.getElem?_cons_zero] at k4
  have k5 := X0.cell 5
  simp only [List.getElem?_cons_succ, List.getElem?_cons_zero] at k5
  have k6 := X0.cell 6
  simp only [List.getElem?_cons_succ, List.getElem?_cons_zero] at k6
  refine wp_region_held_drew (S := (fun w' => w'.cell? ⟨b0, 4, none⟩ = some (.int .i64 r.last) ∧ w'.cell? ⟨b0, 5, none⟩ = some (.slice h.L.1 h.L.2.1 h.L.2.2) ∧ w'.cell? ⟨b0, 6, none⟩ = some (.int .i64 r.commit))) (by kernel_rfl) ⟨k4, k5, k6⟩ (fun hHeld => ?_)
  refine wpAnyH_take (i := 0) (v := ?_) rfl (by kernel_rfl) (by kernel_rfl) (by kernel_rfl) (fun _ _ _ h => h) (Or.inl ⟨by rfl, ?_⟩) hHeld ?_
  rotate_left 1
  · intro w hSw
    try dsimp only at hSw
    first | (go_simp; done) | (go_simp; with_reducible rfl)
  simp only [Act.put, List.setIfInBounds_toArray, List.set_cons_zero, List.set_cons_succ, List.getElem_toArray, List.getElem_cons_zero]
  refine wpAnyH_take (i := 1) (v := ?_) rfl (by kernel_rfl) (by kernel_rfl) (by kernel_rfl) (fun _ _ _ h => h) (Or.inl ⟨by rfl, ?_⟩) hHeld ?_
  rotate_left 1
  · intro w hSw
    try dsimp only at hSw
    first | (go_simp; done) | (go_simp; with_reducible rfl)
  simp only [Act.put, List.setIfInBounds_toArray, List.set_cons_zero, List.set_cons_succ, List.getElem_toArray, List.getElem_cons_zero, List.getElem_cons_succ]
  refine wpAnyH_take (i := 2) (v := ?_) rfl (by kernel_rfl) (by kernel_rfl) (by kernel_rfl) (fun _ _ _ h => h) (Or.inl ⟨by rfl, ?_⟩) hHeld ?_
  rotate_left 1
  · intro w hSw
    try dsimp only at hSw
    first | (go_simp; done) | (go_simp; with_reducible rfl)
  simp only [Act.put, List.setIfInBounds_toArray, List.set_cons_zero, List.set_cons_succ, List.getElem_toArray, List.getElem_cons_zero, List.getElem_cons_succ]
  refine wpAnyH_take (i := 3) (v := ?_) rfl (by kernel_rfl) (by kernel_rfl) (by kernel_rfl) (fun _ _ _ h => h) (Or.inl ⟨by rfl, ?_⟩) hHeld ?_
  rotate_left 1
  · intro w hSw
    try dsimp only at hSw
    first | (go_simp; done) | (go_simp; with_reducible rfl)
  simp only [Act.put, List.setIfInBounds_toArray, List.set_cons_zero, List.set_cons_succ, List.getElem_toArray, List.getElem_cons_zero, List.getElem_cons_succ]
  refine wpAnyH_take (i := 4) (v := ?_) rfl (by kernel_rfl) (by kernel_rfl) (by kernel_rfl) (fun _ _ _ h => h) (Or.inl ⟨by rfl, ?_⟩) hHeld ?_
  rotate_left 1
  · intro w hSw
    try dsimp only at hSw
    first | (go_simp; done) | (go_simp; with_reducible rfl)
  simp only [Act.put, List.setIfInBounds_toArray, List.set_cons_zero, List.set_cons_succ, List.getElem_toArray, List.getElem_cons_zero, List.getElem_cons_succ]
  refine wpAnyH_take (i := 5) (v := ?_) rfl (by kernel_rfl) (by kernel_rfl) (by kernel_rfl) (fun _ _ _ h => h) (Or.inl ⟨by rfl, ?_⟩) hHeld ?_
  rotate_left 1
  · intro w hSw
    try dsimp only at hSw
    first | (go_simp; done) | (go_simp; with_reducible rfl)
  simp only [Act.put, List.setIfInBounds_toArray, List.set_cons_zero, List.set_cons_succ, List.getElem_toArray, List.getElem_cons_zero, List.getElem_cons_succ]
  refine wpAnyH_take (i := 6) (v := ?_) rfl (by kernel_rfl) (by kernel_rfl) (by kernel_rfl) (fun _ _ _ h => h) (Or.inl ⟨by rfl, ?_⟩) hHeld ?_
  rotate_left 1
  · intro w hSw
    try dsimp only at hSw
    first | (go_simp; done) | (go_simp; with_reducible rfl)
  simp only [Act.put, List.setIfInBounds_toArray, List.set_cons_zero, List.set_cons_succ, List.getElem_toArray, List.getElem_cons_zero, List.getElem_cons_succ]
  refine wpAnyH_take (i := 7) (v := ?_) rfl (by kernel_rfl) (by kernel_rfl) (by kernel_rfl) (fun _ _ _ h => h) (Or.inl ⟨by rfl, ?_⟩) hHeld ?_
  rotate_left 1
  · intro w hSw
    try dsimp only at hSw
    first | (go_simp; done) | (go_simp; with_reducible rfl)
  simp only [Act.put, List.setIfInBounds_toArray, List.set_cons_zero, List.set_cons_succ, List.getElem_toArray, List.getElem_cons_zero, List.getElem_cons_succ]
  refine wpAnyH_take (i := 8) (v := ?_) rfl (by kernel_rfl) (by kernel_rfl) (by kernel_rfl) (fun _ _ _ h => h) (Or.inl ⟨by rfl, ?_⟩) hHeld ?_
  rotate_left 1
  · intro w hSw
    try dsimp only at hSw
    first | (go_simp; done) | (go_simp; with_reducible rfl)
  simp only [Act.put, List.setIfInBounds_toArray, List.set_cons_zero, List.set_cons_succ, List.getElem_toArray, List.getElem_cons_zero, List.getElem_cons_succ]
  refine wpAnyH_take (i := 9) (v := ?_) rfl (by kernel_rfl) (by kernel_rfl) (by kernel_rfl) (fun _ _ _ h => h) (Or.inl ⟨by rfl, ?_⟩) hHeld ?_
  rotate_left 1
  · intro w hSw
    try dsimp only at hSw
    first | (go_simp; done) | (go_simp; with_reducible rfl)
  simp only [Act.put, List.setIfInBounds_toArray, List.set_cons_zero, List.set_cons_succ, List.getElem_toArray, List.getElem_cons_zero, List.getElem_cons_succ]
  refine wpAnyH_take (i := 10) (v := ?_) rfl (by kernel_rfl) (by kernel_rfl) (by kernel_rfl) (fun _ _ _ h => h) (Or.inl ⟨by rfl, ?_⟩) hHeld ?_
  rotate_left 1
  · intro w hSw
    try dsimp only at hSw
    first | (go_simp; done) | (go_simp; with_reducible rfl)
  simp only [Act.put, List.setIfInBounds_toArray, List.set_cons_zero, List.set_cons_succ, List.getElem_toArray, List.getElem_cons_zero, List.getElem_cons_succ]
  refine wpAnyH_take (i := 11) (v := ?_) rfl (by kernel_rfl) (by kernel_rfl) (by kernel_rfl) (fun _ _ _ h => h) (Or.inl ⟨by rfl, ?_⟩) hHeld ?_
  rotate_left 1
  · intro w hSw
    try dsimp only at hSw
    first | (go_simp; done) | (go_simp; with_reducible rfl)
  simp only [Act.put, List.setIfInBounds_toArray, List.set_cons_zero, List.set_cons_succ, List.getElem_toArray, List.getElem_cons_zero, List.getElem_cons_succ]
  refine wpAnyH_take (i := 13) (v := ?_) rfl (by kernel_rfl) (by kernel_rfl) (by kernel_rfl) (fun _ _ _ h => h) (Or.inl ⟨by rfl, ?_⟩) hHeld ?_
  rotate_left 1
  · intro w hSw
    try dsimp only at hSw
    first | (go_simp; done) | (go_simp; with_reducible rfl)
  simp only [Act.put, List.setIfInBounds_toArray, List.set_cons_zero, List.set_cons_succ, List.getElem_toArray, List.getElem_cons_zero, List.getElem_cons_succ]
  refine wpAnyH_take (i := 14) (v := ?_) rfl (by kernel_rfl) (by kernel_rfl) (by kernel_rfl) (fun _ _ _ h => h) (Or.inl ⟨by rfl, ?_⟩) hHeld ?_
  rotate_left 1
  · intro w hSw
    try dsimp only at hSw
    first | (go_simp; done) | (go_simp; with_reducible rfl)
  simp only [Act.put, List.setIfInBounds_toArray, List.set_cons_zero, List.set_cons_succ, List.getElem_toArray, List.getElem_cons_zero, List.getElem_cons_succ]
  refine wpAnyH_take (i := 15) (v := ?_) rfl (by kernel_rfl) (by kernel_rfl) (by kernel_rfl) (fun _ _ _ h => h) (Or.inl ⟨by rfl, ?_⟩) hHeld ?_
  rotate_left 1
  · intro w hSw
    try dsimp only at hSw
    first | (go_simp; done) | (go_simp; with_reducible rfl)
  simp only [Act.put, List.setIfInBounds_toArray, List.set_cons_zero, List.set_cons_succ, List.getElem_toArray, List.getElem_cons_zero, List.getElem_cons_succ]
  refine wpAnyH_take (i := 16) (v := ?_) rfl (by kernel_rfl) (by kernel_rfl) (by kernel_rfl) (fun _ _ _ h => h) (Or.inl ⟨by rfl, ?_⟩) hHeld ?_
  rotate_left 1
  · intro w hSw
    try dsimp only at hSw
    first | (go_simp; done) | (go_simp; with_reducible rfl)
  simp only [Act.put, List.setIfInBounds_toArray, List.set_cons_zero, List.set_cons_succ, List.getElem_toArray, List.getElem_cons_zero, List.getElem_cons_succ]
  refine wpAnyH_take (i := 17) (v := ?_) rfl (by kernel_rfl) (by kernel_rfl) (by kernel_rfl) (fun _ _ _ h => h) (Or.inl ⟨by rfl, ?_⟩) hHeld ?_
  rotate_left 1
  · intro w hSw
    try dsimp only at hSw
    first | (go_simp; done) | (go_simp; with_reducible rfl)
  simp only [Act.put, List.setIfInBounds_toArray, List.set_cons_zero, List.set_cons_succ, List.getElem_toArray, List.getElem_cons_zero, List.getElem_cons_succ]
  refine wpAnyH_ready (rs := [12]) (by kernel_rfl) (by simp) ?_
  refine AllReadyH.cons rfl (fun KK hKK => ?_) AllReadyH.nil
  go_simp
  go_at_call 116
  refine (cloneE_z _ _ _ r.log _ (L5.below B) hzL).mono ?_
  rintro e w2 ⟨ra, rc, z, ue, rfl, Gz, zu, hR, R, BB⟩
  have gz : w.heap.size ≤ z := Nat.le_trans B.size Gz
  clear Gz zu
  replace X0 := X0.below BB
  replace B := below_next B BB
  clear BB k4 k5 k6
  have k4 := X0.cell 4
  simp only [List.getElem?_cons_succ, List.getElem?_cons_zero] at k4
  have k5 := X0.cell 5
  simp only [List.getElem?_cons_succ, List.getElem?_cons_zero] at k5
  have k6 := X0.cell 6
  simp only [List.getElem?_cons_succ, List.getElem?_cons_zero] at k6
  clear hHeld
  refine hKK _ _ ⟨k4, k5, k6⟩ (fun hHeld => ?_)
  clear hKK KK
  refine wpAnyH_take (i := 18) (v := ?_) rfl (by kernel_rfl) (by kernel_rfl) (by kernel_rfl) (fun _ _ _ h => h) (Or.inl ⟨by rfl, ?_⟩) hHeld ?_
  rotate_left 1
  · intro w hSw
    try dsimp only at hSw
    first | (go_simp; done) | (go_simp; with_reducible rfl)
  simp only [Act.put, List.setIfInBounds_toArray, List.set_cons_zero, List.set_cons_succ, List.getElem_toArray, List.getElem_cons_zero, List.getElem_cons_succ]
  refine wpAnyH_ready (rs := [19]) (by kernel_rfl) (by simp) ?_
  refine AllReadyH.cons rfl (fun KK hKK => ?_) AllReadyH.nil
  go_simp
  go_at_call 141
  refine (send_is r h s fo (tel0 r) (ra, h.L.2.1, rc) base b0 _ Km ms X0 (HG.out.below B) (R.widen (Nat.le_trans hbase gz) hR) (fun h0 => by
      have i1 := R.inB (k := sb ra) ⟨h0, rfl⟩
      refine ⟨fun qq => ?_, fun j hj h2 => ?_⟩
      · have := (HG.out.own.lt (sb ra) qq).2; omega
      · have := ((HG.out.logs j hj).inB (k := sb (Km j).1) ⟨h2, rfl⟩).2.2; simp only; omega) hb (Nat.le_trans hbase B.size) hn).mono ?_
  rintro e w3 ⟨s', rfl, X2, G2, hs2, KS2⟩
  have H1 : Hid _ := X2
  have H2 : Hid _ := G2
  have K9 : Hid (KeptS (fun q => q = b0 ∨ base ≤ q) w w3) := (KeptS.below B).trans KS2
  clear k4 k5 k6
  have k4 := X2.cell 4
  simp only [List.getElem?_cons_succ, List.getElem?_cons_zero] at k4
  have k5 := X2.cell 5
  simp only [List.getElem?_cons_succ, List.getElem?_cons_zero] at k5
  have k6 := X2.cell 6
  simp only [List.getElem?_cons_succ, List.getElem?_cons_zero] at k6
  clear X2 G2 KS2 X0 R
  clear hHeld
  refine hKK _ _ ⟨k4, k5, k6⟩ (fun hHeld => ?_)
  clear hKK KK
  refine wpAnyH_done (by kernel_rfl) ?_ _
  go_wp2
  refine bodyPost_end (v := .tuple #[]) (by simp [results, Tryz.results75, go_sem]) rfl ⟨s', (fun j => if j = ms.length then (ra, h.L.2.1, rc) else Km j), rfl, H1.out, ?_, ?_, fun j hj => ?_, K9.out⟩
  · rw [E, show telM r = putM (tel0 r) r.id fo r.view by unfold telM; rw [HF.out]]; exact H2.out
  · rw [E, hs2]; simp
  · by_cases e : j = ms.length
    · simp only [if_pos e]; exact hzL
    · simp only [if_neg e]; exact HK.out j (by omega)
set_option maxRecDepth 20000 in
set_option maxHeartbeats 2000000 in
theorem l9Tell0_is {own : Bool} {lo hi : Nat} (r : Rep) (h : RH) (b0 : Nat) (w : World) (X0 : Bx w b0 [.int .i64 r.id, .int .i64 r.size, .int .i64 r.view, .bool r.normal, .int .i64 r.last, .slice h.L.1 h.L.2.1 h.L.2.2, .int .i64 r.commit, .slice h.O.1 h.O.2.1 h.O.2.2, .slice h.A.1 h.A.2.1 h.A.2.2, .slice h.D.1 h.D.2.1 h.D.2.2]) (L5 : RowAt w own lo hi 6 h.L.1 h.L.2.1 h.L.2.2 (sixs r.log)) (hzL : h.L.2.1 ≤ 1048576) (hs : 1 ≤ r.size ∧ r.size ≤ 5) (hv : 0 ≤ r.view ∧ r.view ≤ 300) :
    Calls Tryz.prog 78 #[.pointer (some ⟨b0, 0, none⟩)] w fun e w' => ∃ (s' : Hd) (Km : Nat → Hd), e = .returned (.slice s'.1 s'.2.1 s'.2.2) ∧ MailsAt w' true w.heap.size w'.heap.size s'.1 s'.2.1 s'.2.2 Km (tellM r) ∧ s'.2.1 = (tellM r).length ∧ (∀ j, j < s'.2.1 → (Km j).2.1 ≤ 1048576) ∧ Below w.heap.size w w' := by
  have h0 : ¬ r.size = 0 := by omega
  have hr : r.view.tmod r.size = r.view % r.size := Int.tmod_eq_emod_of_nonneg hv.1
  have hw : IntKind.i64.wrap (r.view % r.size) = r.view % r.size := by
    have h2 := Int.emod_nonneg r.view h0
    have h3 : r.view % r.size < r.size := Int.emod_lt_of_pos r.view (by omega)
    exact wrapI_same _ (by omega)
  have HTM : Hid (tellM r = if (r.view % r.size == r.id) = true then [] else [telM r]) := rfl
  obtain ⟨l, hl⟩ : ∃ l, (r.view % r.size == r.id) = l := ⟨_, rfl⟩
  rw [hl] at HTM
  have HL : Hid _ := hl
  clear hl
  have c0 := X0.cell
  have ob0 := X0.lt
  go_enter Tryz.func78, Tryz.ntmps78
  go_wp2_with fail
  refine (l9Primary_is b0 r.id r.size r.view r.normal r.last h.L r.commit h.O h.A h.D hs hv _ X0).mono ?_
  rintro e w1 ⟨rfl, BB⟩
  rw [HL.out]
  replace X0 := X0.below BB
  replace c0 := X0.cell
  have B := BB
  clear BB
  cases l
  rotate_left 1
  · have E : tellM r = [] := by rw [HTM.out, if_pos rfl]
    go_wp2
    go_ret
    refine ⟨(none, 0, 0), kd0, rfl, ?_, ?_, fun j hj => absurd hj (Nat.not_lt_zero _), B⟩
    · rw [E]; exact ⟨rfl, ElsAt.nil _ _ _ _ _ _ _ _ _ _⟩
    · rw [E]; rfl
  have E : tellM r = [telM r] := by rw [HTM.out, if_neg (by decide)]
  go_wp2_with fail
  have DQ : Below w1.heap.size w1 w1.drew := (Below.refl _ _).drew
  replace X0 := X0.below DQ
  replace c0 := X0.cell
  replace B := below_next B DQ
  clear DQ
  refine wp_region_held_drew (S := (fun w' => ∀ k : Nat, w'.cell? ⟨b0, k, none⟩ = [.int .i64 r.id, .int .i64 r.size, .int .i64 r.view, .bool r.normal, .int .i64 r.last, .slice h.L.1 h.L.2.1 h.L.2.2, .int .i64 r.commit, .slice h.O.1 h.O.2.1 h.O.2.2, .slice h.A.1 h.A.2.1 h.A.2.2, .slice h.D.1 h.D.2.1 h.D.2.2][k]?)) (by kernel_rfl) c0 (fun hHeld => ?_)
  refine wpAnyH_take (i := 0) (v := ?_) rfl (by kernel_rfl) (by kernel_rfl) (by kernel_rfl) (fun _ _ _ h => h) (Or.inl ⟨by rfl, ?_⟩) hHeld ?_
  rotate_left 1
  · intro w hSw
    try dsimp only at hSw
    first | (go_simp; done) | (go_simp; with_reducible rfl)
  simp only [Act.put, List.setIfInBounds_toArray, List.set_cons_zero, List.set_cons_succ, List.getElem_toArray, List.getElem_cons_zero]
  refine wpAnyH_take (i := 1) (v := ?_) rfl (by kernel_rfl) (by kernel_rfl) (by kernel_rfl) (fun _ _ _ h => h) (Or.inl ⟨by rfl, ?_⟩) hHeld ?_
  rotate_left 1
  · intro w hSw
    try dsimp only at hSw
    first | (go_simp; done) | (go_simp; with_reducible rfl)
  simp only [Act.put, List.setIfInBounds_toArray, List.set_cons_zero, List.set_cons_succ, List.getElem_toArray, List.getElem_cons_zero, List.getElem_cons_succ]
  refine wpAnyH_take (i := 2) (v := ?_) rfl (by kernel_rfl) (by kernel_rfl) (by kernel_rfl) (fun _ _ _ h => h) (Or.inl ⟨by rfl, ?_⟩) hHeld ?_
  rotate_left 1
  · intro w hSw
    try dsimp only at hSw
    first | (go_simp; done) | (go_simp; with_reducible rfl)
  simp only [Act.put, List.setIfInBounds_toArray, List.set_cons_zero, List.set_cons_succ, List.getElem_toArray, List.getElem_cons_zero, List.getElem_cons_succ]
  refine wpAnyH_take (i := 3) (v := ?_) rfl (by kernel_rfl) (by kernel_rfl) (by kernel_rfl) (fun _ _ _ h => h) (Or.inl ⟨by rfl, ?_⟩) hHeld ?_
  rotate_left 1
  · intro w hSw
    try dsimp only at hSw
    first | (go_simp; done) | (go_simp; with_reducible rfl)
  simp only [Act.put, List.setIfInBounds_toArray, List.set_cons_zero, List.set_cons_succ, List.getElem_toArray, List.getElem_cons_zero, List.getElem_cons_succ]
  refine wpAnyH_take (i := 4) (v := ?_) rfl (by kernel_rfl) (by kernel_rfl) (by kernel_rfl) (fun _ _ _ h => h) (Or.inl ⟨by rfl, ?_⟩) hHeld ?_
  rotate_left 1
  · intro w hSw
    try dsimp only at hSw
    first | (go_simp; done) | (go_simp; with_reducible rfl)
  simp only [Act.put, List.setIfInBounds_toArray, List.set_cons_zero, List.set_cons_succ, List.getElem_toArray, List.getElem_cons_zero, List.getElem_cons_succ]
  refine wpAnyH_take (i := 5) (v := ?_) rfl (by kernel_rfl) (by kernel_rfl) (by kernel_rfl) (fun _ _ _ h => h) (Or.inl ⟨by rfl, ?_⟩) hHeld ?_
  rotate_left 1
  · intro w hSw
    try dsimp only at hSw
    first | (go_simp; done) | (go_simp; with_reducible rfl)
  simp only [Act.put, List.setIfInBounds_toArray, List.set_cons_zero, List.set_cons_succ, List.getElem_toArray, List.getElem_cons_zero, List.getElem_cons_succ]
  refine wpAnyH_take (i := 6) (v := ?_) rfl (by kernel_rfl) (by kernel_rfl) (by kernel_rfl) (fun _ _ _ h => h) (Or.inl ⟨by rfl, ?_⟩) hHeld ?_
  rotate_left 1
  · intro w hSw
    try dsimp only at hSw
    first | (go_simp; done) | (go_simp; with_reducible rfl)
  simp only [Act.put, List.setIfInBounds_toArray, List.set_cons_zero, List.set_cons_succ, List.getElem_toArray, List.getElem_cons_zero, List.getElem_cons_succ]
  refine wpAnyH_take (i := 7) (v := ?_) rfl (by kernel_rfl) (by kernel_rfl) (by kernel_rfl) (fun _ _ _ h => h) (Or.inl ⟨by rfl, ?_⟩) hHeld ?_
  rotate_left 1
  · intro w hSw
    try dsimp only at hSw
    first | (go_simp; done) | (go_simp; with_reducible rfl)
  simp only [Act.put, List.setIfInBounds_toArray, List.set_cons_zero, List.set_cons_succ, List.getElem_toArray, List.getElem_cons_zero, List.getElem_cons_succ]
  refine wpAnyH_take (i := 8) (v := ?_) rfl (by kernel_rfl) (by kernel_rfl) (by kernel_rfl) (fun _ _ _ h => h) (Or.inl ⟨by rfl, ?_⟩) hHeld ?_
  rotate_left 1
  · intro w hSw
    try dsimp only at hSw
    first | (go_simp; done) | (go_simp; with_reducible rfl)
  simp only [Act.put, List.setIfInBounds_toArray, List.set_cons_zero, List.set_cons_succ, List.getElem_toArray, List.getElem_cons_zero, List.getElem_cons_succ]
  refine wpAnyH_take (i := 9) (v := ?_) rfl (by kernel_rfl) (by kernel_rfl) (by kernel_rfl) (fun _ _ _ h => h) (Or.inl ⟨by rfl, ?_⟩) hHeld ?_
  rotate_left 1
  · intro w hSw
    try dsimp only at hSw
    first | (go_simp; done) | (go_simp; with_reducible rfl)
  simp only [Act.put, List.setIfInBounds_toArray, List.set_cons_zero, List.set_cons_succ, List.getElem_toArray, List.getElem_cons_zero, List.getElem_cons_succ]
  refine wpAnyH_take (i := 10) (v := ?_) rfl (by kernel_rfl) (by kernel_rfl) (by kernel_rfl) (fun _ _ _ h => h) (Or.inl ⟨by rfl, ?_⟩) hHeld ?_
  rotate_left 1
  · intro w hSw
    try dsimp only at hSw
    first | (go_simp; done) | (go_simp; with_reducible rfl)
  simp only [Act.put, List.setIfInBounds_toArray, List.set_cons_zero, List.set_cons_succ, List.getElem_toArray, List.getElem_cons_zero, List.getElem_cons_succ]
  refine wpAnyH_take (i := 11) (v := ?_) rfl (by kernel_rfl) (by kernel_rfl) (by kernel_rfl) (fun _ _ _ h => h) (Or.inl ⟨by rfl, ?_⟩) hHeld ?_
  rotate_left 1
  · intro w hSw
    try dsimp only at hSw
    first | (go_simp; done) | (go_simp; with_reducible rfl)
  simp only [Act.put, List.setIfInBounds_toArray, List.set_cons_zero, List.set_cons_succ, List.getElem_toArray, List.getElem_cons_zero, List.getElem_cons_succ]
  refine wpAnyH_take (i := 12) (v := ?_) rfl (by kernel_rfl) (by kernel_rfl) (by kernel_rfl) (fun _ _ _ h => h) (Or.inl ⟨by rfl, ?_⟩) hHeld ?_
  rotate_left 1
  · intro w hSw
    try dsimp only at hSw
    first | (go_simp; done) | (go_simp; with_reducible rfl)
  simp only [Act.put, List.setIfInBounds_toArray, List.set_cons_zero, List.set_cons_succ, List.getElem_toArray, List.getElem_cons_zero, List.getElem_cons_succ]
  refine wpAnyH_take (i := 13) (v := ?_) rfl (by kernel_rfl) (by kernel_rfl) (by kernel_rfl) (fun _ _ _ h => h) (Or.inl ⟨by rfl, ?_⟩) hHeld ?_
  rotate_left 1
  · intro w hSw
    try dsimp only at hSw
    first | (go_simp; done) | (go_simp; with_reducible rfl)
  simp only [Act.put, List.setIfInBounds_toArray, List.set_cons_zero, List.set_cons_succ, List.getElem_toArray, List.getElem_cons_zero, List.getElem_cons_succ]
  refine wpAnyH_take (i := 14) (v := ?_) rfl (by kernel_rfl) (by kernel_rfl) (by kernel_rfl) (fun _ _ _ h => h) (Or.inl ⟨by rfl, ?_⟩) hHeld ?_
  rotate_left 1
  · intro w hSw
    try dsimp only at hSw
    first | (go_simp; done) | (go_simp; with_reducible rfl)
  simp only [Act.put, List.setIfInBounds_toArray, List.set_cons_zero, List.set_cons_succ, List.getElem_toArray, List.getElem_cons_zero, List.getElem_cons_succ]
  refine wpAnyH_take (i := 15) (v := ?_) rfl (by kernel_rfl) (by kernel_rfl) (by kernel_rfl) (fun _ _ _ h => h) (Or.inl ⟨by rfl, ?_⟩) hHeld ?_
  rotate_left 1
  · intro w hSw
    try dsimp only at hSw
    first | (go_simp; done) | (go_simp; with_reducible rfl)
  simp only [Act.put, List.setIfInBounds_toArray, List.set_cons_zero, List.set_cons_succ, List.getElem_toArray, List.getElem_cons_zero, List.getElem_cons_succ]
  refine wpAnyH_take (i := 16) (v := ?_) rfl (by kernel_rfl) (by kernel_rfl) (by kernel_rfl) (fun _ _ _ h => h) (Or.inl ⟨by rfl, ?_⟩) hHeld ?_
  rotate_left 1
  · intro w hSw
    try dsimp only at hSw
    first | (go_simp; done) | (go_simp; with_reducible rfl)
  simp only [Act.put, List.setIfInBounds_toArray, List.set_cons_zero, List.set_cons_succ, List.getElem_toArray, List.getElem_cons_zero, List.getElem_cons_succ]
  refine wpAnyH_take (i := 17) (v := ?_) rfl (by kernel_rfl) (by kernel_rfl) (by kernel_rfl) (fun _ _ _ h => h) (Or.inl ⟨by rfl, ?_⟩) hHeld ?_
  rotate_left 1
  · intro w hSw
    try dsimp only at hSw
    first | (go_simp; done) | (go_simp; with_reducible rfl)
  simp only [Act.put, List.setIfInBounds_toArray, List.set_cons_zero, List.set_cons_succ, List.getElem_toArray, List.getElem_cons_zero, List.getElem_cons_succ]
  refine wpAnyH_take (i := 18) (v := ?_) rfl (by kernel_rfl) (by kernel_rfl) (by kernel_rfl) (fun _ _ _ h => h) (Or.inl ⟨by rfl, ?_⟩) hHeld ?_
  rotate_left 1
  · intro w hSw
    try dsimp only at hSw
    first | (go_simp; done) | (go_simp; with_reducible rfl)
  simp only [Act.put, List.setIfInBounds_toArray, List.set_cons_zero, List.set_cons_succ, List.getElem_toArray, List.getElem_cons_zero, List.getElem_cons_succ]
  refine wpAnyH_take (i := 19) (v := ?_) rfl (by kernel_rfl) (by kernel_rfl) (by kernel_rfl) (fun _ _ _ h => h) (Or.inl ⟨by rfl, ?_⟩) hHeld ?_
  rotate_left 1
  · intro w hSw
    try dsimp only at hSw
    first | (go_simp; done) | (go_simp; with_reducible rfl)
  simp only [Act.put, List.setIfInBounds_toArray, List.set_cons_zero, List.set_cons_succ, List.getElem_toArray, List.getElem_cons_zero, List.getElem_cons_succ]
  refine wpAnyH_take (i := 20) (v := ?_) rfl (by kernel_rfl) (by kernel_rfl) (by kernel_rfl) (fun _ _ _ h => h) (Or.inl ⟨by rfl, ?_⟩) hHeld ?_
  rotate_left 1
  · intro w hSw
    try dsimp only at hSw
    first | (go_simp; done) | (go_simp; with_reducible rfl)
  simp only [Act.put, List.setIfInBounds_toArray, List.set_cons_zero, List.set_cons_succ, List.getElem_toArray, List.getElem_cons_zero, List.getElem_cons_succ]
  refine wpAnyH_take (i := 21) (v := ?_) rfl (by kernel_rfl) (by kernel_rfl) (by kernel_rfl) (fun _ _ _ h => h) (Or.inl ⟨by rfl, ?_⟩) hHeld ?_
  rotate_left 1
  · intro w hSw
    try dsimp only at hSw
    first | (go_simp; done) | (go_simp; with_reducible rfl)
  simp only [Act.put, List.setIfInBounds_toArray, List.set_cons_zero, List.set_cons_succ, List.getElem_toArray, List.getElem_cons_zero, List.getElem_cons_succ]
  refine wpAnyH_take (i := 22) (v := ?_) rfl (by kernel_rfl) (by kernel_rfl) (by kernel_rfl) (fun _ _ _ h => h) (Or.inl ⟨by rfl, ?_⟩) hHeld ?_
  rotate_left 1
  · intro w hSw
    try dsimp only at hSw
    first | (go_simp; done) | (go_simp; with_reducible rfl)
  simp only [Act.put, List.setIfInBounds_toArray, List.set_cons_zero, List.set_cons_succ, List.getElem_toArray, List.getElem_cons_zero, List.getElem_cons_succ]
  refine wpAnyH_take (i := 23) (v := ?_) rfl (by kernel_rfl) (by kernel_rfl) (by kernel_rfl) (fun _ _ _ h => h) (Or.inl ⟨by rfl, ?_⟩) hHeld ?_
  rotate_left 1
  · intro w hSw
    try dsimp only at hSw
    first | (go_simp; done) | (go_simp; with_reducible rfl)
  simp only [Act.put, List.setIfInBounds_toArray, List.set_cons_zero, List.set_cons_succ, List.getElem_toArray, List.getElem_cons_zero, List.getElem_cons_succ]
  refine wpAnyH_take (i := 24) (v := ?_) rfl (by kernel_rfl) (by kernel_rfl) (by kernel_rfl) (fun _ _ _ h => h) (Or.inl ⟨by rfl, ?_⟩) hHeld ?_
  rotate_left 1
  · intro w hSw
    try dsimp only at hSw
    first | (go_simp; done) | (go_simp; with_reducible rfl)
  simp only [Act.put, List.setIfInBounds_toArray, List.set_cons_zero, List.set_cons_succ, List.getElem_toArray, List.getElem_cons_zero, List.getElem_cons_succ]
  refine wpAnyH_take (i := 26) (v := ?_) rfl (by kernel_rfl) (by kernel_rfl) (by kernel_rfl) (fun _ _ _ h => h) (Or.inl ⟨by rfl, ?_⟩) hHeld ?_
  rotate_left 1
  · intro w hSw
    try dsimp only at hSw
    first | (go_simp; done) | (go_simp; with_reducible rfl)
  simp only [Act.put, List.setIfInBounds_toArray, List.set_cons_zero, List.set_cons_succ, List.getElem_toArray, List.getElem_cons_zero, List.getElem_cons_succ]
  refine wpAnyH_take (i := 27) (v := ?_) rfl (by kernel_rfl) (by kernel_rfl) (by kernel_rfl) (fun _ _ _ h => h) (Or.inl ⟨by rfl, ?_⟩) hHeld ?_
  rotate_left 1
  · intro w hSw
    try dsimp only at hSw
    first | (go_simp; done) | (go_simp; with_reducible rfl)
  simp only [Act.put, List.setIfInBounds_toArray, List.set_cons_zero, List.set_cons_succ, List.getElem_toArray, List.getElem_cons_zero, List.getElem_cons_succ]
  refine wpAnyH_take (i := 28) (v := ?_) rfl (by kernel_rfl) (by kernel_rfl) (by kernel_rfl) (fun _ _ _ h => h) (Or.inl ⟨by rfl, ?_⟩) hHeld ?_
  rotate_left 1
  · intro w hSw
    try dsimp only at hSw
    first | (go_simp; done) | (go_simp; with_reducible rfl)
  simp only [Act.put, List.setIfInBounds_toArray, List.set_cons_zero, List.set_cons_succ, List.getElem_toArray, List.getElem_cons_zero, List.getElem_cons_succ]
  refine wpAnyH_take (i := 29) (v := ?_) rfl (by kernel_rfl) (by kernel_rfl) (by kernel_rfl) (fun _ _ _ h => h) (Or.inl ⟨by rfl, ?_⟩) hHeld ?_
  rotate_left 1
  · intro w hSw
    try dsimp only at hSw
    first | (go_simp; done) | (go_simp; with_reducible rfl)
  simp only [Act.put, List.setIfInBounds_toArray, List.set_cons_zero, List.set_cons_succ, List.getElem_toArray, List.getElem_cons_zero, List.getElem_cons_succ]
  refine wpAnyH_ready (rs := [25]) (by kernel_rfl) (by simp) ?_
  refine AllReadyH.cons rfl (fun KK hKK => ?_) AllReadyH.nil
  go_simp
  go_at_call 124
  refine (l8Copy_z _ _ _ r.log _ (L5.below B) hzL).mono ?_
  rintro e w2 ⟨ra, rc, z, ue, rfl, Gz, zu, hR, R, BB⟩
  have gz : w.heap.size ≤ z := Nat.le_trans B.size Gz
  clear Gz
  replace X0 := X0.below BB
  replace c0 := X0.cell
  replace B := below_next B BB
  clear BB
  clear hHeld
  refine hKK _ _ c0 (fun hHeld => ?_)
  clear hKK KK
  refine wpAnyH_take (i := 30) (v := ?_) rfl (by kernel_rfl) (by kernel_rfl) (by kernel_rfl) (fun _ _ _ h => h) (Or.inl ⟨by rfl, ?_⟩) hHeld ?_
  rotate_left 1
  · intro w hSw
    try dsimp only at hSw
    first | (go_simp; done) | (go_simp; with_reducible rfl)
  simp only [Act.put, List.setIfInBounds_toArray, List.set_cons_zero, List.set_cons_succ, List.getElem_toArray, List.getElem_cons_zero, List.getElem_cons_succ]
  refine wpAnyH_ready (rs := [31]) (by kernel_rfl) (by simp) ?_
  refine AllReadyH.cons rfl (fun KK hKK => ?_) AllReadyH.nil
  refine step_litX 38 1 _ [.int .i64 4, .int .i64 r.id, .int .i64 (r.view % r.size), .int .i64 r.view, .int .i64 0, .bool false, .int .i64 0, .int .i64 0, .int .i64 0, .int .i64 0, .int .i64 0, .int .i64 0, .int .i64 r.last, .slice ra h.L.2.1 rc, .int .i64 r.commit] 35 (fun _ => by kernel_rfl) ?_
  intro bl W1 N1
  have ge : w2.heap.size ≤ bl := N1.ge
  have R2 := R.below N1.below
  replace B := below_next B N1.below
  replace X0 := X0.below N1.below
  replace c0 := X0.cell
  have X1 : Bx W1 bl (mlV (ra, h.L.2.1, rc) (telM r)) := N1.bx
  clear N1
  clear hHeld
  refine hKK _ _ c0 (fun hHeld => ?_)
  clear hKK KK
  refine wpAnyH_take (i := 32) (v := ?_) rfl (by kernel_rfl) (by kernel_rfl) (by kernel_rfl) (fun _ _ _ h => h) (Or.inl ⟨by rfl, ?_⟩) hHeld ?_
  rotate_left 1
  · intro w hSw
    try dsimp only at hSw
    first | (go_simp; done) | (go_simp; with_reducible rfl)
  simp only [Act.put, List.setIfInBounds_toArray, List.set_cons_zero, List.set_cons_succ, List.getElem_toArray, List.getElem_cons_zero, List.getElem_cons_succ]
  refine wpAnyH_done (by kernel_rfl) ?_ _
  have MA : MailsAt W1 true w.heap.size W1.heap.size (some ⟨bl, 0, none⟩) 1 1 (fun _ => (ra, h.L.2.1, rc)) [telM r] := one_mail X1 R2 gz hR ge (Nat.le_trans gz (Nat.le_trans zu hR))
  have HMA : Hid _ := MA
  clear MA R2 X1 R X0 c0
  go_wp2
  go_ret
  refine ⟨(some ⟨bl, 0, none⟩, 1, 1), (fun _ => (ra, h.L.2.1, rc)), rfl, ?_, ?_, fun j hj => hzL, B⟩
  · rw [E]; exact HMA.out
  · rw [E]; rfl
end Go.Proofs.YtcefhlkbbipmmaaGreat

/- Chapter 9: a primary beats; BeatReplica of the program. -/
namespace Go.Proofs.YtcefhlkbbipmmaaGreat
open Go.RowKit

def beatN (r : Rep) (t : Int) : Nat := (r.oks.getD t.toNat 0).toNat
def beatM (r : Rep) : List Ml := (othL r.id.toNat r.size.toNat).map fun t => putM (prepM (agrC r) (beatN r t)) r.id t r.view
theorem beatM_len (r : Rep) : (beatM r).length ≤ r.size.toNat := by unfold beatM; rw [List.length_map]; exact othL_len _ _
theorem othL_mem {i : Nat} : ∀ {k : Nat} {q : Int}, q ∈ othL i k → ∃ j : Nat, q = (j : Int) ∧ j < k ∧ j ≠ i
  | 0, q, h => by simp [othL] at h
  | k + 1, q, h => by
    rw [othL] at h
    by_cases e : k = i
    · rw [if_pos e] at h
      obtain ⟨j, a, b, c⟩ := othL_mem h; exact ⟨j, a, by omega, c⟩
    · rw [if_neg e] at h
      rcases List.mem_append.1 h with h | h
      · obtain ⟨j, a, b, c⟩ := othL_mem h; exact ⟨j, a, by omega, c⟩
      · exact ⟨k, by simpa using h, Nat.lt_succ_self _, e⟩
theorem KeptS.cellS {S : Nat → Prop} {w w' : World} (h : KeptS S w w') {b k : Nat} {v : Value} (hc : w.cell? ⟨b, k, none⟩ = some v) (hs : ¬ S b) : w'.cell? ⟨b, k, none⟩ = some v := by
  rw [World.cell?_of_block (w := w) (a := ⟨b, k, none⟩) (h.block b (World.block_lt_of_cell? w ⟨b, k, none⟩ hc) hs)]; exact hc
/-- mails that were sent lie behind a base that is no greater than the world -/
theorem sent_base {w : World} {base z : Nat} {v : Value} {Km : Nat → Hd} {ms : List Ml} (G : SentAt w base v Km ms) (h1 : z ≤ base) (h2 : z ≤ w.heap.size) : ∃ base', z ≤ base' ∧ base' ≤ w.heap.size ∧ SentAt w base' v Km ms := by
  by_cases hb : base ≤ w.heap.size
  · exact ⟨base, h1, hb, G⟩
  · refine ⟨w.heap.size, h2, Nat.le_refl _, ?_⟩
    rcases (GrowAt.own (G : GrowAt _ _ _ _ _ _ _ _ _)).2 with ⟨q1, q2⟩ | ⟨g, cap, cur, hv, rest⟩
    · have e : ms = [] := List.eq_nil_of_length_eq_zero q2
      subst e; subst q1
      exact GrowAt.nil _ _ _ _ _ _ _
    · have := (GrowAt.own (G : GrowAt _ _ _ _ _ _ _ _ _)).lt g (by rw [hv]; rfl)
      omega
set_option maxRecDepth 20000 in
set_option maxHeartbeats 2000000 in
theorem beat_is {lo hi : Nat} (r : Rep) (h : RH) (b0 : Nat) (w : World) (X0 : Bx w b0 [.int .i64 r.id, .int .i64 r.size, .int .i64 r.view, .bool r.normal, .int .i64 r.last, .slice h.L.1 h.L.2.1 h.L.2.2, .int .i64 r.commit, .slice h.O.1 h.O.2.1 h.O.2.2, .slice h.A.1 h.A.2.1 h.A.2.2, .slice h.D.1 h.D.2.1 h.D.2.2, .slice none 0 0]) (x : RepAt w true lo hi h r) (nb : ¬ inRep h b0) (hiw : hi ≤ w.heap.size) (hs : 1 ≤ r.size ∧ r.size ≤ 5) (hid : 0 ≤ r.id ∧ r.id ≤ r.size - 1) (hl : (r.oks.length : Int) = r.size) (ho : ∀ y ∈ r.oks, 0 ≤ y ∧ y ≤ (r.log.length : Int)) :
    Calls Tryz.prog 74 #[.agg #[.pointer (some ⟨b0, 0, none⟩)]] w fun e w' => ∃ (s : Hd) (Km : Nat → Hd) (base : Nat), e = .returned (.tuple #[]) ∧ Bx w' b0 [.int .i64 (agrC r).id, .int .i64 (agrC r).size, .int .i64 (agrC r).view, .bool (agrC r).normal, .int .i64 (agrC r).last, .slice h.L.1 h.L.2.1 h.L.2.2, .int .i64 (agrC r).commit, .slice h.O.1 h.O.2.1 h.O.2.2, .slice h.A.1 h.A.2.1 h.A.2.2, .slice h.D.1 h.D.2.1 h.D.2.2, .slice s.1 s.2.1 s.2.2] ∧ SentAt w' base (.slice s.1 s.2.1 s.2.2) Km (beatM r) ∧ s.2.1 = (beatM r).length ∧ NilK Km s.2.1 ∧ w.heap.size ≤ base ∧ KeptS (fun k => k = b0) w w' := by
  have hol := x.oks.nInts
  have HX : Hid _ := x
  have HNB : Hid _ := nb
  have HOK : Hid (∀ j : Nat, j < h.O.2.1 → ∃ y : Nat, r.oks.getD j 0 = (y : Int)) := fun j hj => by
    have hm : r.oks.getD j 0 ∈ r.oks := by simp [List.getD, show j < r.oks.length by omega]
    exact ⟨(r.oks.getD j 0).toNat, by have := ho _ hm; omega⟩
  clear x nb
  have c0 := X0.cell
  have f0 := X0.froz
  have ob0 := X0.lt
  go_enter Tryz.func74, Tryz.ntmps74
  go_wp2_with (first | ((have g := ob0); clear g; (with_reducible refine box_newX 108 [.pointer (some ⟨b0, 0, none⟩)] rfl ?_); intro b1 W1 N1; have ob1 : w.heap.size ≤ b1 := N1.ge; have o0_b1 : b0 < b1 := Nat.lt_of_lt_of_le X0.lt N1.ge; replace X0 := X0.below N1.below; replace c0 := X0.cell; replace f0 := X0.froz; have B := N1.below; have X1 := N1.bx; have c1 := X1.cell; clear N1) | fail)
  refine (agree_is r h (none, 0, 0) b0 _ X0 (HX.out.below B) hs hid hl ho).mono ?_
  rintro e w3 ⟨rfl, X3, KS3⟩
  have Y3 := X1.keptS KS3 (by omega)
  have R3 : RepAt w3 true lo hi h r := (HX.out.below B).keptS KS3 (fun k hk e => HNB.out (e ▸ hk))
  have K3 : Hid (KeptS (fun k => k = b0) w w3) := (KeptS.below B).trans KS3
  have hs3 := K3.out.size
  clear X0 c0 f0 X1 c1 KS3 B
  obtain ⟨qt, hqt⟩ : ∃ qt, agrC r = qt := ⟨_, rfl⟩
  rw [hqt] at X3
  have q1 : Hid (qt.size = r.size) := by show _ = _; rw [← hqt]; rfl
  have q2 : Hid (qt.id = r.id) := by show _ = _; rw [← hqt]; rfl
  have q3 : Hid (qt.view = r.view) := by show _ = _; rw [← hqt]; rfl
  have q4 : Hid (qt.log = r.log) := by show _ = _; rw [← hqt]; rfl
  have HQT : Hid _ := hqt
  clear hqt
  obtain ⟨m, hm⟩ : ∃ m : Nat, r.size = m := ⟨r.size.toNat, by omega⟩
  obtain ⟨i, hi0⟩ : ∃ i : Nat, r.id = i := ⟨r.id.toNat, by omega⟩
  have hm5 : m ≤ 5 := by omega
  have hmO : m = h.O.2.1 := by omega
  have cc0 := X3.cell
  have cc1 := Y3.cell
  go_wp2_with fail
  refine (others_is qt h (none, 0, 0) b0 _ X3 m i (by rw [q1.out]; exact hm) (by rw [q2.out]; exact hi0) hm5).mono ?_
  rintro e w4 ⟨ra, rc, z, ue, rfl, Gz, zu, hR, R, BB⟩
  have lb : b0 < w4.heap.size := Nat.lt_of_lt_of_le X3.lt BB.size
  have lb1 : b1 < w4.heap.size := Nat.lt_of_lt_of_le Y3.lt BB.size
  have lbz : b0 < z := Nat.lt_of_lt_of_le X3.lt Gz
  have lh4 : hi ≤ w4.heap.size := Nat.le_trans hiw (Nat.le_trans hs3 BB.size)
  have HX4 : Hid _ := X3.below BB
  have HY4 : Hid _ := Y3.below BB
  have HR4 : Hid _ := R3.below BB
  have hRn := R.le
  have K4 : Hid (KeptS (fun k => k = b0) w w4) := K3.out.trans (KeptS.below BB)
  have HW : Hid (w.heap.size ≤ w4.heap.size) := K4.out.size
  have hlen := othL_len i m
  obtain ⟨fT, hfT⟩ : ∃ fT : Int → Ml, fT = fun t => putM (prepM qt (beatN r t)) r.id t r.view := ⟨_, rfl⟩
  have HC : Hid (beatM r = (othL i m).map fT) := by show _ = _; unfold beatM; rw [hm, hi0, HQT.out, hfT, hi0]; rfl
  have HFT : Hid (∀ (j y : Nat), r.oks.getD j 0 = (y : Int) → fT (j : Int) = putM (prepM qt y) qt.id (j : Int) qt.view) := fun j y e => by rw [hfT, q2.out, q3.out]; show putM (prepM qt (beatN r (j : Int))) _ _ _ = _; unfold beatN; rw [Int.toNat_natCast, e, Int.toNat_natCast]
  have HMEM : Hid (∀ k, k < (othL i m).length → ∃ j : Nat, (othL i m).getD k 0 = (j : Int) ∧ j < m) := fun k hk => by
    have hmm : (othL i m).getD k 0 ∈ othL i m := by simp [List.getD, hk]
    obtain ⟨j, e1, e2, _⟩ := othL_mem hmm
    exact ⟨j, e1, e2⟩
  clear X3 Y3 R3 BB Gz zu cc0 cc1 hm hi0 hfT hs hid hl ho
  generalize hxs : othL i m = xs at *
  have HXS : Hid _ := hxs
  clear hxs
  have HNR : Hid (∀ q, inR ra xs.length q → ¬ (q = b0 ∨ w4.heap.size ≤ q)) := fun q hq hs => by
    have hb := R.inB hq
    omega
  have HNL : Hid (∀ k, inRep h k → ¬ (k = b0 ∨ w4.heap.size ≤ k)) := fun k hk hs => by
    have hb := HR4.out.inB hk
    rcases hs with q | q
    · exact HNB.out (q ▸ hk)
    · omega
  go_wp2
  go_loopw [3, 10] (fun _ iv wr => ∃ (k : Nat) (s : Hd) (Km : Nat → Hd), k ≤ xs.length ∧ iv = .int .i64 k ∧ Bx wr b0 [.int .i64 qt.id, .int .i64 qt.size, .int .i64 qt.view, .bool qt.normal, .int .i64 qt.last, .slice h.L.1 h.L.2.1 h.L.2.2, .int .i64 qt.commit, .slice h.O.1 h.O.2.1 h.O.2.2, .slice h.A.1 h.A.2.1 h.A.2.2, .slice h.D.1 h.D.2.1 h.D.2.2, .slice s.1 s.2.1 s.2.2] ∧ SentAt wr w4.heap.size (.slice s.1 s.2.1 s.2.2) Km ((xs.take k).map fT) ∧ s.2.1 = k ∧ NilK Km k ∧ w4.heap.size ≤ wr.heap.size ∧ KeptS (fun q => q = b0 ∨ w4.heap.size ≤ q) w4 wr) (fun _ iv _ => xs.length - (intOf iv).toNat)
  case atStart => exact ⟨0, (none, 0, 0), kd0, Nat.zero_le _, rfl, HX4.out, GrowAt.nil _ _ _ _ _ _ _, rfl, fun j hj => absurd hj (Nat.not_lt_zero _), Nat.le_refl _, KeptS.refl _ _⟩
  case round =>
    obtain ⟨k, s, Km, hk, rfl, X0, G, hsk, NK, LZ, KS⟩ := hrel
    clear HX4
    by_cases hlt : k < xs.length
    · have hlk : (k : Int) < (xs.length : Int) := by omega
      have R2 : RowAt wr true z ue 1 ra xs.length rc (ints xs) := R.keptR KS (fun q hq hs => HNR.out q hq hs)
      obtain ⟨b, off, rfl, _, _, _, e0, _⟩ := R2.int hlt
      clear R2
      have RR4 := HR4.out.keptS KS (fun q hq hs => HNL.out q hq hs)
      have X1 := HY4.out.keptS KS (by omega)
      obtain ⟨j, hj, hjm⟩ := HMEM.out k hlt
      obtain ⟨y, hy⟩ := HOK.out j (by omega)
      obtain ⟨bo, oo, eo, _, _, _, e7, _⟩ := RR4.oks.int (k := j) (by omega)
      rw [hy] at e7
      have HT : Hid _ := take_map_succ hlt fT
      rw [hj, HFT.out j y hy] at HT
      rw [hj] at e0
      have hjq : (j : Int) < (h.O.2.1 : Int) := by omega
      clear hj hy
      have HNO : Hid (¬ (bo = b0 ∨ w4.heap.size ≤ bo)) := HNL.out bo (Or.inr (Or.inl ⟨by omega, by rw [eo]; rfl⟩))
      have HX0 : Hid _ := X0
      have k7 := X0.cell 7
      simp only [List.getElem?_cons_succ, List.getElem?_cons_zero] at k7
      rw [eo] at k7
      have d1 := X1.cell
      have HL5 : Hid _ := RR4.log
      clear RR4
      have hml : ((xs.take k).map fT).length = k := by simp; omega
      have HML : Hid _ := hml
      have HG : Hid (GrowAt _ _ _ _ _ _ _ _ _) := G
      clear G hml X0
      go_wp2_with fail
      clear e0
      have DQ : Below wr.heap.size wr wr.drew := (Below.refl _ _).drew
      replace HX0 : Hid _ := HX0.out.below DQ
      replace X1 := X1.below DQ
      replace d1 := X1.cell
      replace k7 : wr.drew.cell? _ = _ := k7
      replace e7 : wr.drew.cell? _ = _ := e7
      replace HL5 : Hid _ := HL5.out.below DQ
      replace HG : Hid (GrowAt _ _ _ _ _ _ _ _ _) := HG.out.below DQ
      replace KS := KS.trans (KeptS.below DQ)
      replace LZ := Nat.le_trans LZ DQ.size
      clear DQ
      refine wp_region_held_drew (S := (fun w' => (∀ k : Nat, w'.cell? ⟨b1, k, none⟩ = [.pointer (some ⟨b0, 0, none⟩)][k]?) ∧ w'.cell? ⟨b0, 7, none⟩ = some (.slice (some ⟨bo, oo, none⟩) h.O.2.1 h.O.2.2) ∧ w'.cell? ⟨bo, oo + j, none⟩ = some (.int .i64 (y : Int)))) (by kernel_rfl) ⟨d1, k7, e7⟩ (fun hHeld => ?_)
      refine wpAnyH_take (i := 0) (v := ?_) rfl (by kernel_rfl) (by kernel_rfl) (by kernel_rfl) (fun _ _ _ h => h) (Or.inl ⟨by rfl, ?_⟩) hHeld ?_
      rotate_left 1
      · intro w hSw
        try dsimp only at hSw
        first | (go_simp; done) | (go_simp; with_reducible rfl)
      simp only [Act.put, List.setIfInBounds_toArray, List.set_cons_zero, List.set_cons_succ, List.getElem_toArray, List.getElem_cons_zero]
      refine wpAnyH_take (i := 1) (v := ?_) rfl (by kernel_rfl) (by kernel_rfl) (by kernel_rfl) (fun _ _ _ h => h) (Or.inl ⟨by rfl, ?_⟩) hHeld ?_
      rotate_left 1
      · intro w hSw
        try dsimp only at hSw
        first | (go_simp; done) | (go_simp; with_reducible rfl)
      simp only [Act.put, List.setIfInBounds_toArray, List.set_cons_zero, List.set_cons_succ, List.getElem_toArray, List.getElem_cons_zero, List.getElem_cons_succ]
      refine wpAnyH_take (i := 2) (v := ?_) rfl (by kernel_rfl) (by kernel_rfl) (by kernel_rfl) (fun _ _ _ h => h) (Or.inl ⟨by rfl, ?_⟩) hHeld ?_
      rotate_left 1
      · intro w hSw
        try dsimp only at hSw
        first | (go_simp; done) | (go_simp; with_reducible rfl)
      simp only [Act.put, List.setIfInBounds_toArray, List.set_cons_zero, List.set_cons_succ, List.getElem_toArray, List.getElem_cons_zero, List.getElem_cons_succ]
      refine wpAnyH_take (i := 3) (v := ?_) rfl (by kernel_rfl) (by kernel_rfl) (by kernel_rfl) (fun _ _ _ h => h) (Or.inl ⟨by rfl, ?_⟩) hHeld ?_
      rotate_left 1
      · intro w hSw
        try dsimp only at hSw
        first | (go_simp; done) | (go_simp; with_reducible rfl)
      simp only [Act.put, List.setIfInBounds_toArray, List.set_cons_zero, List.set_cons_succ, List.getElem_toArray, List.getElem_cons_zero, List.getElem_cons_succ]
      refine wpAnyH_take (i := 4) (v := ?_) rfl (by kernel_rfl) (by kernel_rfl) (by kernel_rfl) (fun _ _ _ h => h) (Or.inl ⟨by rfl, ?_⟩) hHeld ?_
      rotate_left 1
      · intro w hSw
        try dsimp only at hSw
        first | (go_simp; done) | (go_simp; with_reducible rfl)
      simp only [Act.put, List.setIfInBounds_toArray, List.set_cons_zero, List.set_cons_succ, List.getElem_toArray, List.getElem_cons_zero, List.getElem_cons_succ]
      refine wpAnyH_take (i := 5) (v := ?_) rfl (by kernel_rfl) (by kernel_rfl) (by kernel_rfl) (fun _ _ _ h => h) (Or.inl ⟨by rfl, ?_⟩) hHeld ?_
      rotate_left 1
      · intro w hSw
        try dsimp only at hSw
        first | (go_simp; done) | (go_simp; with_reducible rfl)
      simp only [Act.put, List.setIfInBounds_toArray, List.set_cons_zero, List.set_cons_succ, List.getElem_toArray, List.getElem_cons_zero, List.getElem_cons_succ]
      refine wpAnyH_take (i := 6) (v := ?_) rfl (by kernel_rfl) (by kernel_rfl) (by kernel_rfl) (fun _ _ _ h => h) (Or.inl ⟨by rfl, ?_⟩) hHeld ?_
      rotate_left 1
      · intro w hSw
        try dsimp only at hSw
        first | (go_simp; done) | (go_simp; with_reducible rfl)
      simp only [Act.put, List.setIfInBounds_toArray, List.set_cons_zero, List.set_cons_succ, List.getElem_toArray, List.getElem_cons_zero, List.getElem_cons_succ]
      refine wpAnyH_take (i := 7) (v := ?_) rfl (by kernel_rfl) (by kernel_rfl) (by kernel_rfl) (fun _ _ _ h => h) (Or.inl ⟨by rfl, ?_⟩) hHeld ?_
      rotate_left 1
      · intro w hSw
        try dsimp only at hSw
        first | (go_simp; done) | (go_simp; with_reducible rfl)
      simp only [Act.put, List.setIfInBounds_toArray, List.set_cons_zero, List.set_cons_succ, List.getElem_toArray, List.getElem_cons_zero, List.getElem_cons_succ]
      refine wpAnyH_take (i := 8) (v := ?_) rfl (by kernel_rfl) (by kernel_rfl) (by kernel_rfl) (fun _ _ _ h => h) (Or.inl ⟨by rfl, ?_⟩) hHeld ?_
      rotate_left 1
      · intro w hSw
        try dsimp only at hSw
        first | (go_simp; done) | (go_simp; with_reducible rfl)
      simp only [Act.put, List.setIfInBounds_toArray, List.set_cons_zero, List.set_cons_succ, List.getElem_toArray, List.getElem_cons_zero, List.getElem_cons_succ]
      refine wpAnyH_take (i := 9) (v := ?_) rfl (by kernel_rfl) (by kernel_rfl) (by kernel_rfl) (fun _ _ _ h => h) (Or.inl ⟨by rfl, ?_⟩) hHeld ?_
      rotate_left 1
      · intro w hSw
        try dsimp only at hSw
        first | (go_simp; done) | (go_simp; with_reducible rfl)
      simp only [Act.put, List.setIfInBounds_toArray, List.set_cons_zero, List.set_cons_succ, List.getElem_toArray, List.getElem_cons_zero, List.getElem_cons_succ]
      refine wpAnyH_take (i := 10) (v := ?_) rfl (by kernel_rfl) (by kernel_rfl) (by kernel_rfl) (fun _ _ _ h => h) (Or.inl ⟨by rfl, ?_⟩) hHeld ?_
      rotate_left 1
      · intro w hSw
        try dsimp only at hSw
        first | (go_simp; done) | (go_simp; with_reducible rfl)
      simp only [Act.put, List.setIfInBounds_toArray, List.set_cons_zero, List.set_cons_succ, List.getElem_toArray, List.getElem_cons_zero, List.getElem_cons_succ]
      refine wpAnyH_ready (rs := [11]) (by kernel_rfl) (by simp) ?_
      refine AllReadyH.cons rfl (fun KK hKK => ?_) AllReadyH.nil
      go_simp
      go_at_call 144
      refine (sendPrepare_is qt h s j y w4.heap.size b0 _ Km _ HX0.out (by rw [q4.out]; exact HL5.out) HG.out lb LZ (by rw [HML.out]; omega)).mono ?_
      rintro e w5 ⟨s', rfl, X2, G2, hs2, KS2⟩
      rw [HML.out] at G2 hs2
      have k7 := X2.cell 7
      simp only [List.getElem?_cons_succ, List.getElem?_cons_zero] at k7
      rw [eo] at k7
      have X1' := X1.keptS KS2 (by omega)
      have d1 := X1'.cell
      have e7 := KS2.cellS e7 HNO.out
      have G3 : SentAt w5 w4.heap.size (.slice s'.1 s'.2.1 s'.2.2) (fun j => if j = k then (none, 0, 0) else Km j) ((xs.take (k + 1)).map fT) := by rw [HT.out]; exact G2
      have NK2 : NilK (fun j => if j = k then ((none : Option Addr), 0, 0) else Km j) (k + 1) := fun j hj => by
        by_cases e : j = k
        · simp [e]
        · simp only [if_neg e]; exact NK j (by omega)
      have J1 : Hid _ := X2
      have J2 : Hid _ := G3
      have J3 : Hid _ := hs2
      have J4 : Hid _ := NK2
      have J5 : Hid (w4.heap.size ≤ w5.heap.size) := Nat.le_trans LZ KS2.size
      have J6 : Hid _ := KS.trans KS2
      clear X2 G2 G3 hs2 NK2 KS KS2 X1 X1' HT
      clear hHeld
      refine hKK _ _ ⟨d1, k7, e7⟩ (fun hHeld => ?_)
      clear hKK KK
      refine wpAnyH_done (by kernel_rfl) ?_ _
      clear HG HX0 HL5 HML
      go_wp2
      go_roundw
      case rel => exact ⟨k + 1, s', (fun j => if j = k then (none, 0, 0) else Km j), by omega, by go_num, J1.out, J2.out, J3.out, J4.out, J5.out, J6.out⟩
      case measure => simp [intOf]; omega
    · obtain rfl : k = xs.length := by omega
      rw [List.take_length] at G
      have K9 : KeptS (fun k => k = b0) w wr := K4.out.fresh KS rfl
      have J1 : Hid _ := X0
      have J2 : Hid _ := G
      have J3 : Hid _ := K9
      have J4 : Hid _ := NK
      clear X0 G KS K9 NK
      go_wp2
      have EQ := HQT.out
      subst EQ
      refine bodyPost_end (v := .tuple #[]) (by simp [results, Tryz.results74, go_sem]) rfl ⟨s, Km, w4.heap.size, rfl, J1.out, ?_, ?_, ?_, HW.out, J3.out⟩
      · rw [HC.out]; exact J2.out
      · rw [HC.out, hsk]; simp
      · rw [hsk]; exact J4.out
def beQ (r : Rep) : Rep := if repF r = 0 then (if leadsB r = true then agrC r else r) else rep0
def beMs (r : Rep) : List Ml := if repF r = 0 then (if leadsB r = true then beatM r else if r.normal = true then [] else if 2 * cntB r.asks > r.size then chgL r ++ tellM r else chgL r) else []
set_option maxRecDepth 20000 in
set_option maxHeartbeats 4000000 in
theorem implBeat_is {own : Bool} {lo hi : Nat} (r : Rep) (h : RH) (w : World) (x : RepAt w own lo hi h r) (hz : RSz h 1048576) (c : Int) (q : Rep) (ms : List Ml) (hc : repF r = c) (hq : beQ r = q) (hms : beMs r = ms) : Calls Tryz.prog 20 #[.agg #[.int .i64 r.id, .int .i64 r.size, .int .i64 r.view, .bool r.normal, .int .i64 r.last, .slice h.L.1 h.L.2.1 h.L.2.2, .int .i64 r.commit, .slice h.O.1 h.O.2.1 h.O.2.2, .slice h.A.1 h.A.2.1 h.A.2.2, .slice h.D.1 h.D.2.1 h.D.2.2]] w fun e w' => NodeAns w w' e c q ms := by
  unfold beQ at hq
  unfold beMs at hms
  rw [hc] at hq hms
  have HC : Hid _ := hc
  clear hc
  go_enter Tryz.func20, Tryz.ntmps20
  go_wp2_with (first | ((have g := ob0); clear g; (with_reducible refine alloc_newX 40 [.int .i64 0, .int .i64 0, .int .i64 0, .int .i64 0, .bool false, .int .i64 0, .slice none 0 0, .int .i64 0, .slice none 0 0, .slice none 0 0, .slice none 0 0, .slice none 0 0] (fun _ => by kernel_rfl) ?_); intro b1 W1 N1; have ob1 : w.heap.size ≤ b1 := Nat.le_trans B.size N1.ge; have o0_b1 : b0 < b1 := Nat.lt_of_lt_of_le X0.lt N1.ge; replace X0 := X0.below N1.below; replace c0 := X0.cell; replace B := below_next B N1.below; have X1 := N1.bx; have c1 := X1.cell; have f1 := X1.froz; clear N1) | ((with_reducible refine box_newX 29 [.int .i64 r.id, .int .i64 r.size, .int .i64 r.view, .bool r.normal, .int .i64 r.last, .slice h.L.1 h.L.2.1 h.L.2.2, .int .i64 r.commit, .slice h.O.1 h.O.2.1 h.O.2.2, .slice h.A.1 h.A.2.1 h.A.2.2, .slice h.D.1 h.D.2.1 h.D.2.2] rfl ?_); intro b0 W0 N0; have ob0 : w.heap.size ≤ b0 := N0.ge; have B := N0.below; have X0 := N0.bx; have c0 := X0.cell; clear N0) | fail)
  refine (implRF_is r h _ (x.below B) (hz.mono (by omega)) c HC.out).mono ?_
  rintro e w1 ⟨rfl, BB⟩
  replace X0 := X0.below BB
  replace c0 := X0.cell
  replace X1 := X1.below BB
  replace c1 := X1.cell
  replace f1 := X1.froz
  replace B := below_next B BB
  clear BB
  by_cases h0 : c = 0
  rotate_left 1
  · rw [if_neg h0] at hq hms
    subst hq
    subst hms
    have h0' : (c != 0) = true := by simp [h0]
    go_wp2_with (first | ((with_reducible refine store_midX 40 X1 0 [.int .i64 c, .int .i64 0, .int .i64 0, .int .i64 0, .bool false, .int .i64 0, .slice none 0 0, .int .i64 0, .slice none 0 0, .slice none 0 0, .slice none 0 0, .slice none 0 0] (by simp) (by kernel_rfl) (by simp [Value.oneCell']) rfl rfl ?_); intro V1 S; replace X0 := X0.kept S.kept (by omega); replace c0 := X0.cell; replace X1 : Bx V1 b1 [.int .i64 c, .int .i64 0, .int .i64 0, .int .i64 0, .bool false, .int .i64 0, .slice none 0 0, .int .i64 0, .slice none 0 0, .slice none 0 0, .slice none 0 0, .slice none 0 0] := S.bx; replace c1 := X1.cell; replace f1 := X1.froz; replace B := B.trans (S.kept.below _ (by omega) B.size); clear S))
    refine bodyPost_ret (v := .agg #[.int .i64 c, .int .i64 0, .int .i64 0, .int .i64 0, .bool false, .int .i64 0, .slice none 0 0, .int .i64 0, .slice none 0 0, .slice none 0 0, .slice none 0 0, .slice none 0 0]) (by simp [results, Tryz.results20, go_sem, *]) rfl ⟨w.heap.size, _, ⟨(none, 0, 0), (none, 0, 0), (none, 0, 0), (none, 0, 0), fun _ => (none, 0, 0)⟩, (none, 0, 0), fun _ => (none, 0, 0), rfl, Nat.le_refl _, Nat.le_refl _, AnsAt.none _ _ _ _, ASz.none _, B⟩
  subst h0
  rw [if_pos rfl] at hq hms
  obtain ⟨N, LG, -, SP, OK9, -⟩ := rep_ok HC.out
  have N1 := N.1
  have N2 := N.2.1
  have N3 : 0 ≤ r.view ∧ r.view ≤ 300 := by have := N.2.2.1; omega
  have SO := SP.1
  have HOB : Hid _ := oksF_ok OK9
  have hcb := cntB_in r.asks
  have SA := SP.2.1
  have hcn : cntB r.asks ≤ 1000 := by split at SA <;> omega
  clear N LG SP OK9 SA
  obtain ⟨l, hl⟩ : ∃ l, leadsB r = l := ⟨_, rfl⟩
  rw [hl] at hq hms SO
  have HL : Hid _ := hl
  clear hl
  go_wp2_with fail
  refine (leads_is' r h N1 N3 _ l HL.out).mono ?_
  rintro e w2 ⟨rfl, BB⟩
  replace X0 := X0.below BB
  replace c0 := X0.cell
  replace X1 := X1.below BB
  replace c1 := X1.cell
  replace f1 := X1.froz
  replace B := below_next B BB
  clear BB
  have lb := X1.lt
  have B9 := B.size
  have HQ : Hid _ := hq
  have HMS : Hid _ := hms
  clear hq hms
  cases l
  rotate_left 1
  · rw [if_pos rfl] at SO
    have HE1 : Hid (agrC r = q) := by show _ = _; rw [← HQ.out, if_pos rfl]
    have HE2 : Hid (beatM r = ms) := by show _ = _; rw [← HMS.out, if_pos rfl]
    clear HQ HMS
    go_wp2_with fail
    refine (primaryFor_z r h _ (x.below B) hz).mono ?_
    rintro e w3 ⟨bq, z, ue, h', rfl, Gz, uq, Gq, XQ, R, HZ, BB⟩
    have R1 := R.widen Gz (Nat.le_refl ue)
    obtain ⟨z0, hz0⟩ : ∃ z0, z0 = w2.heap.size := ⟨_, rfl⟩
    rw [← hz0] at R1 Gq lb B9
    have gw : z0 ≤ w3.heap.size := by rw [hz0]; exact BB.size
    clear hz0
    clear R Gz
    replace X0 := X0.below BB
    replace c0 := X0.cell
    replace X1 := X1.below BB
    replace c1 := X1.cell
    replace f1 := X1.froz
    replace B := below_next B BB
    clear BB
    go_wp2_with (first | ((with_reducible refine store_midX 108 X2 0 [.pointer (some ⟨bq, 0, none⟩)] (by simp) (by kernel_rfl) (by simp [Value.oneCell']) rfl rfl ?_); intro V1 S; replace X0 := X0.kept S.kept (by omega); replace c0 := X0.cell; replace X1 := X1.kept S.kept (by omega); replace c1 := X1.cell; replace f1 := X1.froz; replace X2 : Bx V1 b2 [.pointer (some ⟨bq, 0, none⟩)] := S.bx; replace c2 := X2.cell; replace f2 := X2.froz; replace B := B.trans (S.kept.below _ (by omega) B.size); replace XQ := XQ.kept S.kept (by omega); replace R1 := R1.kept S.kept (by omega); clear S) | ((have g := ob1); clear g; (with_reducible refine alloc_newX 108 [.pointer none] (fun _ => by kernel_rfl) ?_); intro b2 W2 N2; have ob2 : w.heap.size ≤ b2 := Nat.le_trans B.size N2.ge; have o0_b2 : b0 < b2 := Nat.lt_of_lt_of_le X0.lt N2.ge; have o1_b2 : b1 < b2 := Nat.lt_of_lt_of_le X1.lt N2.ge; replace X0 := X0.below N2.below; replace c0 := X0.cell; replace X1 := X1.below N2.below; replace c1 := X1.cell; replace f1 := X1.froz; replace B := below_next B N2.below; have X2 := N2.bx; have c2 := X2.cell; have f2 := X2.froz; have o2q : bq < b2 := Nat.lt_of_lt_of_le XQ.lt N2.ge; replace XQ := XQ.below N2.below; replace R1 := R1.below N2.below; clear N2) | fail)
    have HNB : Hid (¬ inRep h' bq) := fun hk => by have := R1.inB hk; omega
    have hqs : bq < V1.heap.size := XQ.lt
    refine (beat_is r h' bq _ XQ R1 HNB.out (by omega) N1 N2 SO HOB.out).mono ?_
    rintro e w4 ⟨s, Km, base, rfl, XQ, G, hsn, NK, hbase, KS⟩
    have hw4 := KS.size
    replace R1 := R1.keptS KS (fun k hk e => HNB.out (e ▸ hk))
    replace X0 := X0.keptS KS (by omega)
    replace c0 := X0.cell
    replace X1 := X1.keptS KS (by omega)
    replace c1 := X1.cell
    replace X2 := X2.keptS KS (by omega)
    replace c2 := X2.cell
    replace f1 := X1.froz
    replace f2 := X2.froz
    replace B := B.trans (KS.low _ (fun k hk => by omega) B.size)
    clear KS
    have R2 : RepAt w4 true z0 ue h' (agrC r) := ⟨R1.log, R1.oks, R1.asks, R1.doers, R1.sep⟩
    have AN : AnsAt w4 true z0 w4.heap.size h' s Km (agrC r) (beatM r) := ans_of R2 G (by omega) (by omega) (by omega) rfl
    have hAN : w4.heap.size ≤ w4.heap.size := Nat.le_refl _
    have htl := beatM_len r
    have AZ : ASz h' s Km 1048576 := ⟨HZ, by omega, fun j hj => by rw [NK j hj]; exact Nat.zero_le _⟩
    clear R1 R2 G NK hsn htl
    go_wp2_with fail
    refine (answer_is (agrC r).id (agrC r).size (agrC r).view (agrC r).normal (agrC r).last h'.L (agrC r).commit h'.O h'.A h'.D s bq _ XQ).mono ?_
    rintro e w9 ⟨rfl, BB⟩
    replace X0 := X0.below BB
    replace c0 := X0.cell
    replace X1 := X1.below BB
    replace c1 := X1.cell
    replace f1 := X1.froz
    replace X2 := X2.below BB
    replace c2 := X2.cell
    replace f2 := X2.froz
    replace AN := AN.below BB
    replace hAN := Nat.le_trans hAN BB.size
    replace B := below_next B BB
    clear BB
    go_wp2_with (first | ((with_reducible refine store_midX 40 X1 0 [.int .i64 0, .int .i64 (agrC r).id, .int .i64 (agrC r).size, .int .i64 (agrC r).view, .bool (agrC r).normal, .int .i64 (agrC r).last, .slice h'.L.1 h'.L.2.1 h'.L.2.2, .int .i64 (agrC r).commit, .slice h'.O.1 h'.O.2.1 h'.O.2.2, .slice h'.A.1 h'.A.2.1 h'.A.2.2, .slice h'.D.1 h'.D.2.1 h'.D.2.2, .slice s.1 s.2.1 s.2.2] (by simp) (by kernel_rfl) (by simp [Value.oneCell']) rfl rfl ?_); intro V2 S; replace X0 := X0.kept S.kept (by omega); replace c0 := X0.cell; replace X1 : Bx V2 b1 [.int .i64 0, .int .i64 (agrC r).id, .int .i64 (agrC r).size, .int .i64 (agrC r).view, .bool (agrC r).normal, .int .i64 (agrC r).last, .slice h'.L.1 h'.L.2.1 h'.L.2.2, .int .i64 (agrC r).commit, .slice h'.O.1 h'.O.2.1 h'.O.2.2, .slice h'.A.1 h'.A.2.1 h'.A.2.2, .slice h'.D.1 h'.D.2.1 h'.D.2.2, .slice s.1 s.2.1 s.2.2] := S.bx; replace c1 := X1.cell; replace f1 := X1.froz; replace X2 := X2.kept S.kept (by omega); replace c2 := X2.cell; replace f2 := X2.froz; replace AN := AN.kept S.kept (by omega); replace hAN := Nat.le_trans hAN S.kept.size; replace B := B.trans (S.kept.below _ (by omega) B.size); clear S))
    have EQ : (agrC r) = q := HE1.out
    have EM : beatM r = ms := HE2.out
    subst EM
    subst EQ
    exact bodyPost_ret (v := .agg #[.int .i64 0, .int .i64 (agrC r).id, .int .i64 (agrC r).size, .int .i64 (agrC r).view, .bool (agrC r).normal, .int .i64 (agrC r).last, .slice h'.L.1 h'.L.2.1 h'.L.2.2, .int .i64 (agrC r).commit, .slice h'.O.1 h'.O.2.1 h'.O.2.2, .slice h'.A.1 h'.A.2.1 h'.A.2.2, .slice h'.D.1 h'.D.2.1 h'.D.2.2, .slice s.1 s.2.1 s.2.2]) (by simp [results, Tryz.results20, go_sem, *]) rfl ⟨_, _, h', s, Km, rfl, B9, hAN, AN, AZ, B⟩
  · have HEQ : Hid (q = r) := by show _ = _; rw [← HQ.out, if_neg (by decide)]
    have HE4 : Hid ((if r.normal = true then [] else if 2 * cntB r.asks > r.size then chgL r ++ tellM r else chgL r) = ms) := by show _ = _; rw [← HMS.out, if_neg (show ¬ (false = true) by decide)]
    clear HQ HMS
    go_wp2_with fail
    refine (nodeOf_z r h _ (x.below B) hz).mono ?_
    rintro e w3 ⟨bq, z, ue, h', rfl, Gz, uq, Gq, XQ, R, HZ, BB⟩
    have R1 := R.widen Gz (Nat.le_refl ue)
    obtain ⟨z0, hz0⟩ : ∃ z0, z0 = w2.heap.size := ⟨_, rfl⟩
    rw [← hz0] at R1 Gq lb B9
    have gw : z0 ≤ w3.heap.size := by rw [hz0]; exact BB.size
    clear hz0
    clear R Gz
    replace X0 := X0.below BB
    replace c0 := X0.cell
    replace X1 := X1.below BB
    replace c1 := X1.cell
    replace f1 := X1.froz
    replace B := below_next B BB
    clear BB
    have hqs := XQ.lt
    obtain ⟨nm, hnm⟩ : ∃ nm, r.normal = nm := ⟨_, rfl⟩
    have HN : Hid _ := hnm
    have cq := XQ.cell
    rw [hnm] at cq
    have EQ0 := HEQ.out
    subst EQ0
    clear hnm
    cases nm
    rotate_left 1
    · have R9 := R1.widen (Nat.le_refl _) (show ue ≤ w3.heap.size by omega)
      have AN : AnsAt w3 true z0 w3.heap.size h' (none, 0, 0) kd0 q [] := AnsAt.bare R9 _ _
      have hAN : w3.heap.size ≤ w3.heap.size := Nat.le_refl _
      clear R1 R9
      go_wp2_with fail
      refine (answer_is q.id q.size q.view q.normal q.last h'.L q.commit h'.O h'.A h'.D (none, 0, 0) bq _ XQ).mono ?_
      rintro e w9 ⟨rfl, BB⟩
      replace X0 := X0.below BB
      replace c0 := X0.cell
      replace X1 := X1.below BB
      replace c1 := X1.cell
      replace f1 := X1.froz
      replace AN := AN.below BB
      replace hAN := Nat.le_trans hAN BB.size
      replace B := below_next B BB
      clear BB
      go_wp2_with (first | ((with_reducible refine store_midX 40 X1 0 [.int .i64 0, .int .i64 q.id, .int .i64 q.size, .int .i64 q.view, .bool q.normal, .int .i64 q.last, .slice h'.L.1 h'.L.2.1 h'.L.2.2, .int .i64 q.commit, .slice h'.O.1 h'.O.2.1 h'.O.2.2, .slice h'.A.1 h'.A.2.1 h'.A.2.2, .slice h'.D.1 h'.D.2.1 h'.D.2.2, .slice none 0 0] (by simp) (by kernel_rfl) (by simp [Value.oneCell']) rfl rfl ?_); intro V1 S; replace X0 := X0.kept S.kept (by omega); replace c0 := X0.cell; replace X1 : Bx V1 b1 [.int .i64 0, .int .i64 q.id, .int .i64 q.size, .int .i64 q.view, .bool q.normal, .int .i64 q.last, .slice h'.L.1 h'.L.2.1 h'.L.2.2, .int .i64 q.commit, .slice h'.O.1 h'.O.2.1 h'.O.2.2, .slice h'.A.1 h'.A.2.1 h'.A.2.2, .slice h'.D.1 h'.D.2.1 h'.D.2.2, .slice none 0 0] := S.bx; replace c1 := X1.cell; replace f1 := X1.froz; replace AN := AN.kept S.kept (by omega); replace hAN := Nat.le_trans hAN S.kept.size; replace B := B.trans (S.kept.below _ (by omega) B.size); clear S))
      have EM : [] = ms := by rw [← HE4.out, if_pos HN.out]
      subst EM
      exact bodyPost_ret (v := .agg #[.int .i64 0, .int .i64 q.id, .int .i64 q.size, .int .i64 q.view, .bool q.normal, .int .i64 q.last, .slice h'.L.1 h'.L.2.1 h'.L.2.2, .int .i64 q.commit, .slice h'.O.1 h'.O.2.1 h'.O.2.2, .slice h'.A.1 h'.A.2.1 h'.A.2.2, .slice h'.D.1 h'.D.2.1 h'.D.2.2, .slice none 0 0]) (by simp [results, Tryz.results20, go_sem, *]) rfl ⟨_, _, h', (none, 0, 0), kd0, rfl, B9, hAN, AN, ASz.bare HZ _ _, B⟩
    have HNB : Hid (¬ inRep h' bq) := fun hk => by have := R1.inB hk; omega
    go_wp2_with fail
    clear cq
    refine (sendChanges_is q h' bq _ XQ N1 N2).mono ?_
    rintro e w4 ⟨s, Km, base0, rfl, XQ, G0, hsn, NK, hb0, KS⟩
    have hw4 := KS.size
    obtain ⟨base, hbase, hbw, G⟩ := sent_base G0 hb0 hw4
    clear G0 hb0
    replace R1 := R1.keptS KS (fun k hk e => HNB.out (e ▸ hk))
    replace X0 := X0.keptS KS (by omega)
    replace c0 := X0.cell
    replace X1 := X1.keptS KS (by omega)
    replace c1 := X1.cell
    replace f1 := X1.froz
    replace B := B.trans (KS.low _ (fun k hk => by omega) B.size)
    clear KS
    have hcl := chgL_len q
    have hs5 : s.2.1 ≤ 5 := by omega
    go_wp2_with fail
    refine (askers_is q h' s bq _ XQ R1.asks HZ.A).mono ?_
    rintro e W9 ⟨rfl, rfl⟩
    go_wp2_with fail
    refine (isEnough_is q h' s (cntB q.asks) (by omega) bq _ XQ).mono ?_
    rintro e W9 ⟨rfl, rfl⟩
    by_cases hen : 2 * cntB q.asks > q.size
    · have hd : decide (2 * cntB q.asks > q.size) = true := decide_eq_true hen
      rw [hd]
      have HEN : Hid _ := hen
      clear hen hd
      go_wp2_with fail
      refine (tellOfItself_is q h' s base bq _ Km (chgL q) XQ R1.log HZ.L G hsn (fun j hj => by rw [NK j hj]; exact Nat.zero_le _) (by omega) hbw (by omega) N1 N3).mono ?_
      rintro e w5 ⟨s', Km', rfl, XQ, G, hsn', hK', KS⟩
      have hw5 := KS.size
      replace R1 := R1.keptS KS (fun k hk e => e.elim (fun e => HNB.out (e ▸ hk)) (fun e => by have := R1.inB hk; omega))
      replace X0 := X0.keptS KS (by omega)
      replace c0 := X0.cell
      replace X1 := X1.keptS KS (by omega)
      replace c1 := X1.cell
      replace f1 := X1.froz
      replace B := B.trans (KS.low _ (fun k hk => by rcases hk with z | z <;> omega) B.size)
      clear KS
      have htl := tellM_len q
      rw [List.length_append] at hsn'
      have AN : AnsAt w5 true z0 w5.heap.size h' s' Km' q (chgL q ++ tellM q) := ans_of R1 G (by omega) (by omega) (by omega) rfl
      have hAN : w5.heap.size ≤ w5.heap.size := Nat.le_refl _
      have AZ : ASz h' s' Km' 1048576 := ⟨HZ, by omega, hK'⟩
      clear R1 G NK hsn hsn' htl hcl
      go_wp2_with fail
      refine (answer_is q.id q.size q.view q.normal q.last h'.L q.commit h'.O h'.A h'.D s' bq _ XQ).mono ?_
      rintro e w9 ⟨rfl, BB⟩
      replace X0 := X0.below BB
      replace c0 := X0.cell
      replace X1 := X1.below BB
      replace c1 := X1.cell
      replace f1 := X1.froz
      replace AN := AN.below BB
      replace hAN := Nat.le_trans hAN BB.size
      replace B := below_next B BB
      clear BB
      go_wp2_with (first | ((with_reducible refine store_midX 40 X1 0 [.int .i64 0, .int .i64 q.id, .int .i64 q.size, .int .i64 q.view, .bool q.normal, .int .i64 q.last, .slice h'.L.1 h'.L.2.1 h'.L.2.2, .int .i64 q.commit, .slice h'.O.1 h'.O.2.1 h'.O.2.2, .slice h'.A.1 h'.A.2.1 h'.A.2.2, .slice h'.D.1 h'.D.2.1 h'.D.2.2, .slice s'.1 s'.2.1 s'.2.2] (by simp) (by kernel_rfl) (by simp [Value.oneCell']) rfl rfl ?_); intro V1 S; replace X0 := X0.kept S.kept (by omega); replace c0 := X0.cell; replace X1 : Bx V1 b1 [.int .i64 0, .int .i64 q.id, .int .i64 q.size, .int .i64 q.view, .bool q.normal, .int .i64 q.last, .slice h'.L.1 h'.L.2.1 h'.L.2.2, .int .i64 q.commit, .slice h'.O.1 h'.O.2.1 h'.O.2.2, .slice h'.A.1 h'.A.2.1 h'.A.2.2, .slice h'.D.1 h'.D.2.1 h'.D.2.2, .slice s'.1 s'.2.1 s'.2.2] := S.bx; replace c1 := X1.cell; replace f1 := X1.froz; replace AN := AN.kept S.kept (by omega); replace hAN := Nat.le_trans hAN S.kept.size; replace B := B.trans (S.kept.below _ (by omega) B.size); clear S))
      have EM : chgL q ++ tellM q = ms := by rw [← HE4.out, if_neg (by rw [HN.out]; decide), if_pos HEN.out]
      subst EM
      exact bodyPost_ret (v := .agg #[.int .i64 0, .int .i64 q.id, .int .i64 q.size, .int .i64 q.view, .bool q.normal, .int .i64 q.last, .slice h'.L.1 h'.L.2.1 h'.L.2.2, .int .i64 q.commit, .slice h'.O.1 h'.O.2.1 h'.O.2.2, .slice h'.A.1 h'.A.2.1 h'.A.2.2, .slice h'.D.1 h'.D.2.1 h'.D.2.2, .slice s'.1 s'.2.1 s'.2.2]) (by simp [results, Tryz.results20, go_sem, *]) rfl ⟨_, _, h', s', Km', rfl, B9, hAN, AN, AZ, B⟩
    · have hd : decide (2 * cntB q.asks > q.size) = false := decide_eq_false hen
      rw [hd]
      have HEN : Hid _ := hen
      clear hen hd
      have AN : AnsAt W9 true z0 W9.heap.size h' s Km q (chgL q) := ans_of R1 G (by omega) (by omega) (by omega) rfl
      have hAN : W9.heap.size ≤ W9.heap.size := Nat.le_refl _
      have AZ : ASz h' s Km 1048576 := ⟨HZ, by omega, fun j hj => by rw [NK j hj]; exact Nat.zero_le _⟩
      clear R1 G NK hsn hcl
      go_wp2_with fail
      refine (answer_is q.id q.size q.view q.normal q.last h'.L q.commit h'.O h'.A h'.D s bq _ XQ).mono ?_
      rintro e w9 ⟨rfl, BB⟩
      replace X0 := X0.below BB
      replace c0 := X0.cell
      replace X1 := X1.below BB
      replace c1 := X1.cell
      replace f1 := X1.froz
      replace AN := AN.below BB
      replace hAN := Nat.le_trans hAN BB.size
      replace B := below_next B BB
      clear BB
      go_wp2_with (first | ((with_reducible refine store_midX 40 X1 0 [.int .i64 0, .int .i64 q.id, .int .i64 q.size, .int .i64 q.view, .bool q.normal, .int .i64 q.last, .slice h'.L.1 h'.L.2.1 h'.L.2.2, .int .i64 q.commit, .slice h'.O.1 h'.O.2.1 h'.O.2.2, .slice h'.A.1 h'.A.2.1 h'.A.2.2, .slice h'.D.1 h'.D.2.1 h'.D.2.2, .slice s.1 s.2.1 s.2.2] (by simp) (by kernel_rfl) (by simp [Value.oneCell']) rfl rfl ?_); intro V1 S; replace X0 := X0.kept S.kept (by omega); replace c0 := X0.cell; replace X1 : Bx V1 b1 [.int .i64 0, .int .i64 q.id, .int .i64 q.size, .int .i64 q.view, .bool q.normal, .int .i64 q.last, .slice h'.L.1 h'.L.2.1 h'.L.2.2, .int .i64 q.commit, .slice h'.O.1 h'.O.2.1 h'.O.2.2, .slice h'.A.1 h'.A.2.1 h'.A.2.2, .slice h'.D.1 h'.D.2.1 h'.D.2.2, .slice s.1 s.2.1 s.2.2] := S.bx; replace c1 := X1.cell; replace f1 := X1.froz; replace AN := AN.kept S.kept (by omega); replace hAN := Nat.le_trans hAN S.kept.size; replace B := B.trans (S.kept.below _ (by omega) B.size); clear S))
      have EM : chgL q = ms := by rw [← HE4.out, if_neg (by rw [HN.out]; decide), if_neg HEN.out]
      subst EM
      exact bodyPost_ret (v := .agg #[.int .i64 0, .int .i64 q.id, .int .i64 q.size, .int .i64 q.view, .bool q.normal, .int .i64 q.last, .slice h'.L.1 h'.L.2.1 h'.L.2.2, .int .i64 q.commit, .slice h'.O.1 h'.O.2.1 h'.O.2.2, .slice h'.A.1 h'.A.2.1 h'.A.2.2, .slice h'.D.1 h'.D.2.1 h'.D.2.2, .slice s.1 s.2.1 s.2.2]) (by simp [results, Tryz.results20, go_sem, *]) rfl ⟨_, _, h', s, Km, rfl, B9, hAN, AN, AZ, B⟩

end Go.Proofs.YtcefhlkbbipmmaaGreat

/- Chapter 9: mails that ask all others, how many ask, at a replica's own box; mails appended to mails. -/
namespace Go.Proofs.YtcefhlkbbipmmaaGreat
open Go.RowKit

set_option maxRecDepth 20000 in
set_option maxHeartbeats 2000000 in
theorem l9Changes0_is (r : Rep) (h : RH) (b0 : Nat) (w : World) (X0 : Bx w b0 [.int .i64 r.id, .int .i64 r.size, .int .i64 r.view, .bool r.normal, .int .i64 r.last, .slice h.L.1 h.L.2.1 h.L.2.2, .int .i64 r.commit, .slice h.O.1 h.O.2.1 h.O.2.2, .slice h.A.1 h.A.2.1 h.A.2.2, .slice h.D.1 h.D.2.1 h.D.2.2]) (hs : 1 ≤ r.size ∧ r.size ≤ 5) (hid : 0 ≤ r.id ∧ r.id ≤ r.size - 1) :
    Calls Tryz.prog 76 #[.pointer (some ⟨b0, 0, none⟩)] w fun e w' => ∃ (s' : Hd) (Km : Nat → Hd) (base : Nat), e = .returned (.slice s'.1 s'.2.1 s'.2.2) ∧ SentAt w' base (.slice s'.1 s'.2.1 s'.2.2) Km (chgL r) ∧ s'.2.1 = (chgL r).length ∧ NilK Km s'.2.1 ∧ w.heap.size ≤ base ∧ Below w.heap.size w w' := by
  obtain ⟨m, hm⟩ : ∃ m : Nat, r.size = m := ⟨r.size.toNat, by omega⟩
  obtain ⟨i, hi0⟩ : ∃ i : Nat, r.id = i := ⟨r.id.toNat, by omega⟩
  have HC : Hid (chgL r = (othL i m).map (chgM r)) := by show _ = _; unfold chgL; rw [hm, hi0]; rfl
  have HI0 : Hid (∀ t, mlV (none, 0, 0) (chgM r t) = [.int .i64 3, .int .i64 i, .int .i64 t, .int .i64 r.view, .int .i64 0, .bool false, .int .i64 0, .int .i64 0, .int .i64 0, .int .i64 0, .int .i64 0, .int .i64 0, .int .i64 0, .slice none 0 0, .int .i64 0]) := fun t => by unfold chgM putM chg0 mlV; rw [hi0]; rfl
  rw [hm, hi0] at X0
  have hm5 : m ≤ 5 := by omega
  clear hm hi0 hs hid
  have c0 := X0.cell
  have ob0 := X0.lt
  have HX0 : Hid _ := X0
  go_enter Tryz.func76, Tryz.ntmps76
  go_wp2_with (first | ((with_reducible refine lit_newO 38 0 #[] [] 35 (fun _ => by kernel_rfl) ?_); intro bl W9 N4 HH; have BW := N4.below; have GG := N4.ge; clear N4; replace X0 := X0.below BW; replace c0 := X0.cell) | fail)
  have G0 : SentAt W9 w.heap.size (.slice (some ⟨bl, 0, none⟩) 0 0) kd0 [] := ⟨by rw [show ([] : List Ml).length = 0 from rfl, flatF_zero]; exact owns_litO GG HH, fun i hi => absurd hi (Nat.not_lt_zero _), fun i hi => absurd hi (Nat.not_lt_zero _)⟩
  have HX : Hid _ := X0
  have HBW : Hid _ := BW.size
  clear HH GG
  go_loopw [3, 4] (fun v iv wr => ∃ (k : Nat) (Km : Nat → Hd), k ≤ m ∧ iv = .int .i64 k ∧ SentAt wr w.heap.size v Km ((othL i k).map (chgM r)) ∧ NilK Km (othL i k).length ∧ w.heap.size ≤ wr.heap.size ∧ Below w.heap.size w wr) (fun _ iv _ => m - (intOf iv).toNat)
  case atStart => exact ⟨0, kd0, Nat.zero_le _, rfl, G0, fun j hj => rfl, BW.size, BW⟩
  case round =>
    obtain ⟨k, Km, hk, rfl, G, NK, LZ, BL⟩ := hrel
    clear c0 G0 X0 BW
    have X0 : Bx wr b0 [.int .i64 i, .int .i64 m, .int .i64 r.view, .bool r.normal, .int .i64 r.last, .slice h.L.1 h.L.2.1 h.L.2.2, .int .i64 r.commit, .slice h.O.1 h.O.2.1 h.O.2.2, .slice h.A.1 h.A.2.1 h.A.2.2, .slice h.D.1 h.D.2.1 h.D.2.2] := HX0.out.low BL ob0
    have c0 := X0.cell
    by_cases hlt : k < m
    · have hlk : (k : Int) < (m : Int) := by omega
      have HO : Hid (othL i (k + 1) = if k = i then othL i k else othL i k ++ [(k : Int)]) := rfl
      have hll := othL_len i k
      have HG : Hid (GrowAt _ _ _ _ _ _ _ _ _) := G
      have HNK : Hid _ := NK
      have HLZ : Hid _ := LZ
      have HBL : Hid _ := BL
      clear G NK
      by_cases q : k = i
      · have q1 : ((k : Int) != (i : Int)) = false := by simp [q]
        have HO2 : Hid (othL i (k + 1) = othL i k) := by show _ = _; rw [HO.out, if_pos q]
        clear q HO
        go_wp2
        go_roundw
        case rel => exact ⟨k + 1, Km, by omega, by go_num, by rw [HO2.out]; exact HG.out, by rw [HO2.out]; exact HNK.out, HLZ.out, HBL.out⟩
        case measure => simp [intOf]; omega
      · have q1 : ((k : Int) != (i : Int)) = true := by simp; omega
        have HO2 : Hid (othL i (k + 1) = othL i k ++ [(k : Int)]) := by show _ = _; rw [HO.out, if_neg q]
        clear q HO
        go_wp2_with fail
        have D : Below wr.heap.size wr wr.drew := (Below.refl _ _).drew
        replace X0 := X0.below D
        replace c0 := X0.cell
        have B := D
        clear D
        refine wp_region_held_drew (S := (fun w' => ∀ k : Nat, w'.cell? ⟨b0, k, none⟩ = [.int .i64 i, .int .i64 m, .int .i64 r.view, .bool r.normal, .int .i64 r.last, .slice h.L.1 h.L.2.1 h.L.2.2, .int .i64 r.commit, .slice h.O.1 h.O.2.1 h.O.2.2, .slice h.A.1 h.A.2.1 h.A.2.2, .slice h.D.1 h.D.2.1 h.D.2.2][k]?)) (by kernel_rfl) c0 (fun hHeld => ?_)
        refine wpAnyH_take (i := 0) (v := ?_) rfl (by kernel_rfl) (by kernel_rfl) (by kernel_rfl) (fun _ _ _ h => h) (Or.inl ⟨by rfl, ?_⟩) hHeld ?_
        rotate_left 1
        · intro w hSw
          try dsimp only at hSw
          first | (go_simp; done) | (go_simp; with_reducible rfl)
        simp only [Act.put, List.setIfInBounds_toArray, List.set_cons_zero, List.set_cons_succ, List.getElem_toArray, List.getElem_cons_zero]
        refine wpAnyH_take (i := 1) (v := ?_) rfl (by kernel_rfl) (by kernel_rfl) (by kernel_rfl) (fun _ _ _ h => h) (Or.inl ⟨by rfl, ?_⟩) hHeld ?_
        rotate_left 1
        · intro w hSw
          try dsimp only at hSw
          first | (go_simp; done) | (go_simp; with_reducible rfl)
        simp only [Act.put, List.setIfInBounds_toArray, List.set_cons_zero, List.set_cons_succ, List.getElem_toArray, List.getElem_cons_zero, List.getElem_cons_succ]
        refine wpAnyH_take (i := 2) (v := ?_) rfl (by kernel_rfl) (by kernel_rfl) (by kernel_rfl) (fun _ _ _ h => h) (Or.inl ⟨by rfl, ?_⟩) hHeld ?_
        rotate_left 1
        · intro w hSw
          try dsimp only at hSw
          first | (go_simp; done) | (go_simp; with_reducible rfl)
        simp only [Act.put, List.setIfInBounds_toArray, List.set_cons_zero, List.set_cons_succ, List.getElem_toArray, List.getElem_cons_zero, List.getElem_cons_succ]
        refine wpAnyH_take (i := 3) (v := ?_) rfl (by kernel_rfl) (by kernel_rfl) (by kernel_rfl) (fun _ _ _ h => h) (Or.inl ⟨by rfl, ?_⟩) hHeld ?_
        rotate_left 1
        · intro w hSw
          try dsimp only at hSw
          first | (go_simp; done) | (go_simp; with_reducible rfl)
        simp only [Act.put, List.setIfInBounds_toArray, List.set_cons_zero, List.set_cons_succ, List.getElem_toArray, List.getElem_cons_zero, List.getElem_cons_succ]
        refine wpAnyH_take (i := 4) (v := ?_) rfl (by kernel_rfl) (by kernel_rfl) (by kernel_rfl) (fun _ _ _ h => h) (Or.inl ⟨by rfl, ?_⟩) hHeld ?_
        rotate_left 1
        · intro w hSw
          try dsimp only at hSw
          first | (go_simp; done) | (go_simp; with_reducible rfl)
        simp only [Act.put, List.setIfInBounds_toArray, List.set_cons_zero, List.set_cons_succ, List.getElem_toArray, List.getElem_cons_zero, List.getElem_cons_succ]
        refine wpAnyH_take (i := 5) (v := ?_) rfl (by kernel_rfl) (by kernel_rfl) (by kernel_rfl) (fun _ _ _ h => h) (Or.inl ⟨by rfl, ?_⟩) hHeld ?_
        rotate_left 1
        · intro w hSw
          try dsimp only at hSw
          first | (go_simp; done) | (go_simp; with_reducible rfl)
        simp only [Act.put, List.setIfInBounds_toArray, List.set_cons_zero, List.set_cons_succ, List.getElem_toArray, List.getElem_cons_zero, List.getElem_cons_succ]
        refine wpAnyH_take (i := 6) (v := ?_) rfl (by kernel_rfl) (by kernel_rfl) (by kernel_rfl) (fun _ _ _ h => h) (Or.inl ⟨by rfl, ?_⟩) hHeld ?_
        rotate_left 1
        · intro w hSw
          try dsimp only at hSw
          first | (go_simp; done) | (go_simp; with_reducible rfl)
        simp only [Act.put, List.setIfInBounds_toArray, List.set_cons_zero, List.set_cons_succ, List.getElem_toArray, List.getElem_cons_zero, List.getElem_cons_succ]
        refine wpAnyH_take (i := 7) (v := ?_) rfl (by kernel_rfl) (by kernel_rfl) (by kernel_rfl) (fun _ _ _ h => h) (Or.inl ⟨by rfl, ?_⟩) hHeld ?_
        rotate_left 1
        · intro w hSw
          try dsimp only at hSw
          first | (go_simp; done) | (go_simp; with_reducible rfl)
        simp only [Act.put, List.setIfInBounds_toArray, List.set_cons_zero, List.set_cons_succ, List.getElem_toArray, List.getElem_cons_zero, List.getElem_cons_succ]
        refine wpAnyH_take (i := 8) (v := ?_) rfl (by kernel_rfl) (by kernel_rfl) (by kernel_rfl) (fun _ _ _ h => h) (Or.inl ⟨by rfl, ?_⟩) hHeld ?_
        rotate_left 1
        · intro w hSw
          try dsimp only at hSw
          first | (go_simp; done) | (go_simp; with_reducible rfl)
        simp only [Act.put, List.setIfInBounds_toArray, List.set_cons_zero, List.set_cons_succ, List.getElem_toArray, List.getElem_cons_zero, List.getElem_cons_succ]
        refine wpAnyH_take (i := 9) (v := ?_) rfl (by kernel_rfl) (by kernel_rfl) (by kernel_rfl) (fun _ _ _ h => h) (Or.inl ⟨by rfl, ?_⟩) hHeld ?_
        rotate_left 1
        · intro w hSw
          try dsimp only at hSw
          first | (go_simp; done) | (go_simp; with_reducible rfl)
        simp only [Act.put, List.setIfInBounds_toArray, List.set_cons_zero, List.set_cons_succ, List.getElem_toArray, List.getElem_cons_zero, List.getElem_cons_succ]
        refine wpAnyH_take (i := 10) (v := ?_) rfl (by kernel_rfl) (by kernel_rfl) (by kernel_rfl) (fun _ _ _ h => h) (Or.inl ⟨by rfl, ?_⟩) hHeld ?_
        rotate_left 1
        · intro w hSw
          try dsimp only at hSw
          first | (go_simp; done) | (go_simp; with_reducible rfl)
        simp only [Act.put, List.setIfInBounds_toArray, List.set_cons_zero, List.set_cons_succ, List.getElem_toArray, List.getElem_cons_zero, List.getElem_cons_succ]
        refine wpAnyH_ready (rs := [11]) (by kernel_rfl) (by simp) ?_
        refine AllReadyH.cons rfl (fun KK hKK => ?_) AllReadyH.nil
        refine step_litX 38 1 _ [.int .i64 3, .int .i64 i, .int .i64 k, .int .i64 r.view, .int .i64 0, .bool false, .int .i64 0, .int .i64 0, .int .i64 0, .int .i64 0, .int .i64 0, .int .i64 0, .int .i64 0, .slice none 0 0, .int .i64 0] 35 (fun _ => by kernel_rfl) ?_
        intro bl W1 N1
        replace B := below_next B N1.below
        replace X0 := X0.below N1.below
        replace c0 := X0.cell
        have X1 : Bx W1 bl (mlV (none, 0, 0) (chgM r k)) := by rw [HI0.out]; exact N1.bx
        clear N1
        have SN := sent_snoc (hd := (none, 0, 0)) (m := chgM r k) (HG.out.below B) X1 (RowAt.nilR _ _ _ _ _ _ _) (fun h0 => absurd rfl h0) (Nat.le_trans HLZ.out B.size) (by simp; omega)
        obtain ⟨v', w', hr, G2, KS, BB⟩ := SN
        have XN := X0.keptS KS (fun z => by have := (HG.out.own.lt b0 z).1; omega)
        clear hHeld
        refine hKK _ _ c0 (fun hHeld => ?_)
        clear hKK KK
        refine wpAnyH_ready (rs := [12]) (by kernel_rfl) (by simp) ?_
        refine AllReadyH.cons rfl (fun KK hKK => ?_) AllReadyH.nil
        refine step_append_run rfl _ _ _ _ rfl _ _ rfl rfl _ _ (hr _) ?_
        replace c0 := XN.cell
        clear hHeld
        refine hKK _ _ c0 (fun hHeld => ?_)
        clear hKK KK
        refine wpAnyH_take (i := 13) (v := ?_) rfl (by kernel_rfl) (by kernel_rfl) (by kernel_rfl) (fun _ _ _ h => h) (Or.inl ⟨by rfl, ?_⟩) hHeld ?_
        rotate_left 1
        · intro w hSw
          try dsimp only at hSw
          first | (go_simp; done) | (go_simp; with_reducible rfl)
        simp only [Act.put, List.setIfInBounds_toArray, List.set_cons_zero, List.set_cons_succ, List.getElem_toArray, List.getElem_cons_zero, List.getElem_cons_succ]
        refine wpAnyH_done (by kernel_rfl) ?_ _
        have e5 : ((othL i k).map (chgM r)).length = (othL i k).length := by simp
        rw [e5] at G2
        have G3 : Hid (SentAt w' w.heap.size v' (fun j => if j = (othL i k).length then (none, 0, 0) else Km j) ((othL i (k + 1)).map (chgM r))) := by show SentAt _ _ _ _ _; rw [HO2.out, List.map_append]; exact G2
        have NK2 : Hid (NilK (fun j => if j = (othL i k).length then ((none : Option Addr), 0, 0) else Km j) (othL i (k + 1)).length) := fun j hj => by
          rw [HO2.out, List.length_append] at hj
          by_cases e : j = (othL i k).length
          · simp [e]
          · simp only [if_neg e]; exact HNK.out j (by simp at hj; omega)
        have BL2 : Hid (Below w.heap.size w w') := (HBL.out.trans (B.mono HLZ.out)).trans BB
        have LZ2 : Hid (w.heap.size ≤ w'.heap.size) := Nat.le_trans HLZ.out (Nat.le_trans B.size BB.size)
        clear X0 X1 XN c0 B BB hr KS G2 e5
        go_wp2
        go_roundw
        case rel => exact ⟨k + 1, (fun j => if j = (othL i k).length then (none, 0, 0) else Km j), by omega, by go_num, G3.out, NK2.out, LZ2.out, BL2.out⟩
        case measure => simp [intOf]; omega
    · obtain rfl : k = m := by omega
      obtain ⟨ao, cap, e9, E⟩ := GrowAt.els G
      subst e9
      have H2 : Hid _ := G
      have H4 : Hid _ := NK
      clear G NK E
      go_wp2
      go_ret
      refine ⟨(ao, ((othL i k).map (chgM r)).length, cap), Km, w.heap.size, by simp, ?_, ?_, ?_, Nat.le_refl _, BL⟩
      · rw [HC.out]; exact H2.out
      · rw [HC.out]
      · show NilK Km ((othL i k).map (chgM r)).length; rw [List.length_map]; exact H4.out

set_option maxRecDepth 20000 in
set_option maxHeartbeats 2000000 in
theorem l9Asked0_is {own : Bool} {lo hi : Nat} (r : Rep) (h : RH) (b0 : Nat) (w : World) (X0 : Bx w b0 [.int .i64 r.id, .int .i64 r.size, .int .i64 r.view, .bool r.normal, .int .i64 r.last, .slice h.L.1 h.L.2.1 h.L.2.2, .int .i64 r.commit, .slice h.O.1 h.O.2.1 h.O.2.2, .slice h.A.1 h.A.2.1 h.A.2.2, .slice h.D.1 h.D.2.1 h.D.2.2]) (x : RowAt w own lo hi 1 h.A.1 h.A.2.1 h.A.2.2 (bls r.asks)) (hz : h.A.2.1 ≤ 1000) (hs : 1 ≤ r.size ∧ r.size ≤ 5) (d : Bool) (hd : decide (2 * cntB r.asks > r.size) = d) :
    Calls Tryz.prog 77 #[.pointer (some ⟨b0, 0, none⟩)] w fun e w' => e = .returned (.bool d) ∧ w' = w := by
  have hal := x.nBls
  have c0 := X0.cell
  obtain ⟨res, hres⟩ : ∃ res, cntB r.asks = res := ⟨_, rfl⟩
  have HR : Hid _ := hres
  rw [hres] at hd
  have HD2 : Hid _ := hd
  clear hres hd
  go_enter Tryz.func77, Tryz.ntmps77
  go_wp2
  go_loopw [3, 4] (fun cv iv wr => ∃ (k : Nat) (t : Int), k ≤ h.A.2.1 ∧ iv = .int .i64 k ∧ cv = .int .i64 t ∧ 0 ≤ t ∧ t ≤ k ∧ Hid (t + cntB (r.asks.drop k) = res) ∧ w = wr) (fun _ iv _ => h.A.2.1 - (intOf iv).toNat)
  case atStart => exact ⟨0, 0, Nat.zero_le _, rfl, rfl, Int.le_refl _, Int.le_refl _, (by show _ = _; rw [← HR.out]; simp), rfl⟩
  case round =>
    obtain ⟨k, t, hk, rfl, rfl, t0, t1, HT, rfl⟩ := hrel
    by_cases hlt : k < h.A.2.1
    · have hlk : (k : Int) < (h.A.2.1 : Int) := by omega
      have HD : Hid _ := cntB_drop (bs := r.asks) (k := k) (by omega)
      obtain ⟨b, off, eo, _, _, _, e0, _⟩ := x.bool hlt
      rw [eo] at c0
      have wt : IntKind.i64.wrap (t + 1) = t + 1 := wrapI_same _ (by omega)
      obtain ⟨y, hy⟩ : ∃ y, r.asks.getD k false = y := ⟨_, rfl⟩
      rw [hy] at e0 HD
      clear hy eo
      cases y
      · have HT2 : Hid (t + cntB (r.asks.drop (k + 1)) = res) := by show _ = _; rw [← HT.out, HD.out]; simp
        clear HT HD
        go_wp2
        go_roundw
        case rel => exact ⟨k + 1, t, by omega, by go_num, rfl, t0, by omega, HT2, by first | rfl | trivial⟩
        case measure => simp [intOf]; omega
      · have HT2 : Hid (t + 1 + cntB (r.asks.drop (k + 1)) = res) := by show _ = _; rw [← HT.out, HD.out]; simp; omega
        clear HT HD
        go_wp2
        go_roundw
        case rel => exact ⟨k + 1, t + 1, by omega, by go_num, rfl, by omega, by omega, HT2, by first | rfl | trivial⟩
        case measure => simp [intOf]; omega
    · have e : t = res := by rw [← HT.out, List.drop_eq_nil_of_le (by omega)]; simp [cntB]
      subst e
      clear HT HR
      go_wp2_with fail
      refine (l9Enough_is r.size hs _).mono ?_
      rintro e W9 ⟨rfl, rfl⟩
      by_cases q : r.size / 2 + 1 ≤ t
      · have e : d = true := by rw [← HD2.out]; exact decide_eq_true (by omega)
        subst e
        clear HD2
        go_wp2
        go_ret
        exact ⟨rfl, rfl⟩
      · have e : d = false := by rw [← HD2.out]; exact decide_eq_false (by omega)
        subst e
        clear HD2
        go_wp2
        go_ret
        exact ⟨congrArg (fun z => Ending.returned (Value.bool z)) (decide_eq_false (by omega)), rfl⟩
theorem src_zero {P : Program} {size : Nat} {tx e' : TypeId} (w : World) (hk : P.underlying tx = some (.slice e')) (a : Option Addr) (c : Nat) : Src P size tx (.slice a 0 c) 0 [] w := by
  cases a with
  | none => exact Src.ofNil w hk c
  | some ad => exact Src.ofSlice w hk ad 0 c [] (by simp) (fun j u hj => by simp at hj) (fun _ h => by cases h)
/-- nothing is appended -/
theorem sent_zero {W : World} {base : Nat} {v : Value} {Km : Nat → Hd} {ms : List Ml} (G : SentAt W base v Km ms) (a : Option Addr) (c : Nat) (ty : TypeId) : (Builtin.append_ #[38, 38] ty #[v, .slice a 0 c]).run Tryz.prog W = .ok v W := by
  obtain ⟨i2, hi2, ha2, hb2, hc2⟩ := info_parts Tryz.infoMail
  have hs := src_zero (P := Tryz.prog) (size := i2.size) W Tryz.underlying38 a c
  rcases (GrowAt.own (G : GrowAt _ _ _ _ _ _ _ _ _)).2 with ⟨q1, q2⟩ | ⟨g, cap, cur, hv, h1, h2, h3, h4⟩
  · subst q1
    simp [Builtin.append_, run_underlying Tryz.underlying38, sizeOf, typeInfo, hi2, hs.len, hs.cells]
  · subst hv
    have := run_append_room_src (P := Tryz.prog) W 38 38 ty 35 i2 Tryz.underlying38 hi2 g 0 ms.length cap (.slice a 0 c) 0 [] hs (by omega) (fun j hj => by simp at hj) (fun j hj => by simp at hj)
    simpa [World.setCells] using this
theorem sent_snocR {W : World} {base : Nat} {v : Value} {Km : Nat → Hd} {ms : List Ml} {m : Ml} {hd : Hd} {ow : Bool} {l u : Nat} {ad : Addr} {c : Nat} (G : SentAt W base v Km ms) (LR : RowAt W ow l u 15 (some ad) 1 c (mlV hd m)) (R : RowAt W true base W.heap.size 6 hd.1 hd.2.1 hd.2.2 (sixs m.log)) (hsep : hd.2.1 ≠ 0 → v.ownBlock ≠ some (sb hd.1) ∧ ∀ j, j < ms.length → (Km j).2.1 ≠ 0 → sb (Km j).1 ≠ sb hd.1) (hbase : base ≤ W.heap.size) (hn : ms.length ≤ 1000) :
    ∃ v' w', (∀ ty, (Builtin.append_ #[38, 38] ty #[v, .slice (some ad) 1 c]).run Tryz.prog W = .ok v' w') ∧ SentAt w' base v' (fun j => if j = ms.length then hd else Km j) (ms ++ [m]) ∧ KeptS (fun k => v.ownBlock = some k) W w' ∧ Below base W w' := by
  obtain ⟨i2, hi2, ha2, hb2, hc2⟩ := info_parts Tryz.infoMail
  obtain ⟨K2, hK2⟩ : ∃ K2 : Nat → Hd, K2 = fun j => if j = ms.length then hd else Km j := ⟨_, rfl⟩
  have e1K : K2 ms.length = hd := by rw [hK2]; simp
  have e2K : ∀ j, j < ms.length → K2 j = Km j := fun j hj => by rw [hK2]; simp [Nat.ne_of_lt hj]
  obtain ⟨v', w', hr, G2, KS, BB⟩ := GrowAt.snoc (P := Tryz.prog) G 38 i2 (.agg #[.int .i64 0, .int .i64 0, .int .i64 0, .int .i64 0, .int .i64 0, .bool false, .int .i64 0, .int .i64 0, .int .i64 0, .int .i64 0, .int .i64 0, .int .i64 0, .int .i64 0, .slice none 0 0, .int .i64 0]) 136 Tryz.underlying38 hi2 ha2 hb2 hc2 rfl (by omega) (by omega) ad c (mlV hd m) LR (by simp [mlV, hv, Value.oneCell']) (mlF K2 (ms ++ [m])) K2 (mlL (ms ++ [m])) (fun i j hi _ => by rw [mlF_old _ _ _ hi]; unfold mlF; rw [e2K i hi]) (by rw [mlF_last, e1K]) e2K (fun i hi => mlL_old _ _ hi) (by rw [e1K, mlL_last]; exact R) (fun h0 => by rw [e1K] at h0 ⊢; exact hsep h0) (by omega) hbase
  refine ⟨v', w', hr, ?_, KS, BB⟩
  rw [← hK2]
  unfold SentAt
  rw [List.length_append]; exact G2
/-- what a node tells of itself is appended -/
theorem sent_tell {W0 W : World} {base : Nat} {v : Value} {Km K' : Nat → Hd} {ms : List Ml} {r : Rep} {s' : Hd} (G : SentAt W0 base v Km ms) (BB : Below W0.heap.size W0 W) (MA : MailsAt W true W0.heap.size W.heap.size s'.1 s'.2.1 s'.2.2 K' (tellM r)) (hsn : s'.2.1 = (tellM r).length) (hK : ∀ j, j < ms.length → (Km j).2.1 ≤ 1048576) (hK' : ∀ j, j < s'.2.1 → (K' j).2.1 ≤ 1048576) (hbase : base ≤ W0.heap.size) (hn : ms.length ≤ 1000) :
    ∃ v' w' Kn, (∀ ty, (Builtin.append_ #[38, 38] ty #[v, .slice s'.1 s'.2.1 s'.2.2]).run Tryz.prog W = .ok v' w') ∧ SentAt w' base v' Kn (ms ++ tellM r) ∧ KeptS (fun k => v.ownBlock = some k) W w' ∧ Below base W w' ∧ ∀ j, j < (ms ++ tellM r).length → (Kn j).2.1 ≤ 1048576 := by
  have GW : SentAt W base v Km ms := GrowAt.below (G : GrowAt _ _ _ _ _ _ _ _ _) BB
  obtain ⟨a, n, c⟩ := s'
  simp only at MA hsn hK' ⊢
  by_cases hp : (r.view % r.size == r.id) = true
  · have e : tellM r = [] := by unfold tellM; rw [if_pos hp]
    rw [e] at hsn MA ⊢
    obtain rfl : n = 0 := hsn
    exact ⟨v, W, Km, fun ty => sent_zero GW a c ty, by rw [List.append_nil]; exact GW, KeptS.refl _ _, Below.refl _ _, by rw [List.append_nil]; exact hK⟩
  · have e : tellM r = [telM r] := by unfold tellM; rw [if_neg hp]
    rw [e] at hsn MA ⊢
    obtain rfl : n = 1 := hsn
    have R1 := MA.els.row
    have e2 : flatF 15 1 (mlF K' [telM r]) = mlV (K' 0) (telM r) := by rw [flatF_snoc, flatF_zero, List.nil_append]; exact mlF_last K' [] (telM r)
    rw [e2] at R1
    obtain ⟨b, off, rfl, _⟩ := R1.cells (by omega)
    have RL := MA.els.logs 0 (by omega)
    have eL : mlL [telM r] 0 = (telM r).log := rfl
    rw [eL] at RL
    obtain ⟨v', w', hr, G2, KS, B2⟩ := sent_snocR GW R1 (RL.widen hbase (Nat.le_refl _)) (fun h0 => by
      have i1 := RL.inB (k := sb (K' 0).1) ⟨h0, rfl⟩
      refine ⟨fun qq => ?_, fun j hj h2 => ?_⟩
      · have := ((GrowAt.own (G : GrowAt _ _ _ _ _ _ _ _ _)).lt _ qq).2; omega
      · have := ((GrowAt.logs (G : GrowAt _ _ _ _ _ _ _ _ _) j hj).inB (k := sb (Km j).1) ⟨h2, rfl⟩).2.2; omega) (Nat.le_trans hbase BB.size) hn
    refine ⟨v', w', _, hr, G2, KS, B2, fun j hj => ?_⟩
    by_cases q : j = ms.length
    · simp only [if_pos q]; exact hK' 0 (by omega)
    · simp only [if_neg q]; exact hK j (by rw [List.length_append] at hj; simp at hj; omega)

end Go.Proofs.YtcefhlkbbipmmaaGreat

/- Chapter 9: BeatReplica of the model. -/
namespace Go.Proofs.YtcefhlkbbipmmaaGreat
open Go.RowKit

theorem step_allocB {P : Program} {ops : Array Oper} {dst : Option Tmp} {type : TypeId} {pos : String} {after : Array Edge} {a : Act} {w : World} {K : Act → World → Prop} {Q : Exit → Act → World → Prop} {E : Prop} (ty : TypeId) (cs : List Value) (hz : ∀ w, (zeroValue ty).run P w = .ok (.agg cs.toArray) w)
    (h : ∀ (b : Nat) (W : World), NewX w W b cs → K (a.put dst (.pointer (some ⟨b, 0, none⟩))) W) : if Region.wanted ⟨dst, .alloc ty, type, pos, after, none⟩ (yielded ops a.tmps) = true then Oper.wp P ⟨dst, .alloc ty, type, pos, after, none⟩ a w K Q else E := by
  have hw : Region.wanted ⟨dst, .alloc ty, type, pos, after, none⟩ (yielded ops a.tmps) = true := by simp [Region.wanted]
  rw [if_pos hw]
  unfold Oper.wp execOp
  go_simp
  exact h _ _ (by simpa using newX_mk w cs.toArray ty)
def BtL (V8 : World) (b2 m i : Nat) (qt : Rep) (h' : RH) (fT : Int → Ml) (iv : Value) (wr : World) : Prop := ∃ (k : Nat) (s : Hd) (Km : Nat → Hd), k ≤ m ∧ iv = .int .i64 k ∧ Bx wr b2 [.int .i64 0, .int .i64 qt.id, .int .i64 qt.size, .int .i64 qt.view, .bool qt.normal, .int .i64 qt.last, .slice h'.L.1 h'.L.2.1 h'.L.2.2, .int .i64 qt.commit, .slice h'.O.1 h'.O.2.1 h'.O.2.2, .slice h'.A.1 h'.A.2.1 h'.A.2.2, .slice h'.D.1 h'.D.2.1 h'.D.2.2, .slice s.1 s.2.1 s.2.2] ∧ SentAt wr V8.heap.size (.slice s.1 s.2.1 s.2.2) Km ((othL i k).map fT) ∧ s.2.1 = (othL i k).length ∧ NilK Km (othL i k).length ∧ V8.heap.size ≤ wr.heap.size ∧ KeptS (fun q => q = b2 ∨ V8.heap.size ≤ q) V8 wr
set_option maxRecDepth 20000 in
set_option maxHeartbeats 8000000 in
theorem specBeat_is {own : Bool} {lo hi : Nat} (r : Rep) (h : RH) (w : World) (x : RepAt w own lo hi h r) (hz : RSz h 1048576) (c : Int) (q : Rep) (ms : List Ml) (hc : repF r = c) (hq : beQ r = q) (hms : beMs r = ms) : Calls Tryz.prog 23 #[.agg #[.int .i64 r.id, .int .i64 r.size, .int .i64 r.view, .bool r.normal, .int .i64 r.last, .slice h.L.1 h.L.2.1 h.L.2.2, .int .i64 r.commit, .slice h.O.1 h.O.2.1 h.O.2.2, .slice h.A.1 h.A.2.1 h.A.2.2, .slice h.D.1 h.D.2.1 h.D.2.2]] w fun e w' => NodeRes w w' e c q ms := by
  unfold beQ at hq
  unfold beMs at hms
  rw [hc] at hq hms
  have HC : Hid _ := hc
  clear hc
  go_enter Tryz.func23, Tryz.ntmps23
  go_wp2_with (first | ((have g := ob0); clear g; (with_reducible refine alloc_newX 40 [.int .i64 0, .int .i64 0, .int .i64 0, .int .i64 0, .bool false, .int .i64 0, .slice none 0 0, .int .i64 0, .slice none 0 0, .slice none 0 0, .slice none 0 0, .slice none 0 0] (fun _ => by kernel_rfl) ?_); intro b1 W1 N1; have ob1 : w.heap.size ≤ b1 := Nat.le_trans B.size N1.ge; have o0_b1 : b0 < b1 := Nat.lt_of_lt_of_le X0.lt N1.ge; replace X0 := X0.below N1.below; replace c0 := X0.cell; replace B := below_next B N1.below; have X1 := N1.bx; have c1 := X1.cell; have f1 := X1.froz; clear N1) | ((with_reducible refine box_newX 29 [.int .i64 r.id, .int .i64 r.size, .int .i64 r.view, .bool r.normal, .int .i64 r.last, .slice h.L.1 h.L.2.1 h.L.2.2, .int .i64 r.commit, .slice h.O.1 h.O.2.1 h.O.2.2, .slice h.A.1 h.A.2.1 h.A.2.2, .slice h.D.1 h.D.2.1 h.D.2.2] rfl ?_); intro b0 W0 N0; have ob0 : w.heap.size ≤ b0 := N0.ge; have B := N0.below; have X0 := N0.bx; have c0 := X0.cell; clear N0) | fail)
  refine (l9Fault_is b0 r h _ X0 (x.below B) (hz.mono (by omega)) c HC.out).mono ?_
  rintro e w1 ⟨rfl, BB⟩
  replace X0 := X0.below BB
  replace c0 := X0.cell
  replace X1 := X1.below BB
  replace c1 := X1.cell
  replace f1 := X1.froz
  replace B := below_next B BB
  clear BB
  by_cases h0 : c = 0
  rotate_left 1
  · rw [if_neg h0] at hq hms
    subst hq
    subst hms
    have h0' : (c != 0) = true := by simp [h0]
    go_wp2_with fail
    refine (l9Bad_is c _).mono ?_
    rintro e wb ⟨rfl, BB⟩
    replace X0 := X0.below BB
    replace c0 := X0.cell
    replace X1 := X1.below BB
    replace c1 := X1.cell
    replace f1 := X1.froz
    replace B := below_next B BB
    clear BB
    go_wp2_with (first | ((with_reducible refine store_midX 40 X1 0 [.int .i64 c, .int .i64 0, .int .i64 0, .int .i64 0, .bool false, .int .i64 0, .slice none 0 0, .int .i64 0, .slice none 0 0, .slice none 0 0, .slice none 0 0, .slice none 0 0] (by simp) (by kernel_rfl) (by simp [Value.oneCell']) rfl rfl ?_); intro V1 S; replace X0 := X0.kept S.kept (by omega); replace c0 := X0.cell; replace X1 : Bx V1 b1 [.int .i64 c, .int .i64 0, .int .i64 0, .int .i64 0, .bool false, .int .i64 0, .slice none 0 0, .int .i64 0, .slice none 0 0, .slice none 0 0, .slice none 0 0, .slice none 0 0] := S.bx; replace c1 := X1.cell; replace f1 := X1.froz; replace B := B.trans (S.kept.below _ (by omega) B.size); clear S))
    refine bodyPost_ret (v := .agg #[.int .i64 c, .int .i64 0, .int .i64 0, .int .i64 0, .bool false, .int .i64 0, .slice none 0 0, .int .i64 0, .slice none 0 0, .slice none 0 0, .slice none 0 0, .slice none 0 0]) (by simp [results, Tryz.results23, go_sem, *]) rfl ⟨w.heap.size, _, ⟨(none, 0, 0), (none, 0, 0), (none, 0, 0), (none, 0, 0), fun _ => (none, 0, 0)⟩, (none, 0, 0), fun _ => (none, 0, 0), rfl, Nat.le_refl _, Nat.le_refl _, AnsAt.none _ _ _ _, ASz.none _, B⟩
  subst h0
  rw [if_pos rfl] at hq hms
  obtain ⟨N, LG, -, SP, OK9, -⟩ := rep_ok HC.out
  have N1 := N.1
  have N2 := N.2.1
  have N3 : 0 ≤ r.view ∧ r.view ≤ 300 := by have := N.2.2.1; omega
  have SO := SP.1
  have HOB : Hid _ := oksF_ok OK9
  have hdl := x.doers.len
  have hal := x.asks.nBls
  have SA := SP.2.1
  have SD := SP.2.2
  have hA5 : h.A.2.1 ≤ 1000 := by split at SA <;> omega
  have hD5 : h.D.2.1 ≤ 1000 := by split at SD <;> omega
  have hl40 := log_len (lg_ok LG).1
  have HLB : Hid (leadsB r = (r.normal && (r.view % r.size == r.id))) := rfl
  clear N LG SP OK9 SA SD hdl hal
  go_wp2_with fail
  have lb := X1.lt
  have lb0 := X0.lt
  have B9 := B.size
  refine (l9Copy_z r h _ (x.below B) hz hD5).mono ?_
  rintro e w2 ⟨z, ue, h', rfl, Gz, hR, R, HZ, BB⟩
  have R1 := R.widen Gz (Nat.le_refl ue)
  obtain ⟨z0, hz0⟩ : ∃ z0, z0 = w1.heap.size := ⟨_, rfl⟩
  rw [← hz0] at R1 lb lb0 B9
  have gw : z0 ≤ w2.heap.size := by rw [hz0]; exact BB.size
  clear hz0 R Gz
  replace X0 := X0.below BB
  replace c0 := X0.cell
  replace X1 := X1.below BB
  replace c1 := X1.cell
  replace f1 := X1.froz
  replace B := below_next B BB
  clear BB
  have hR1 := hR
  obtain ⟨nm, hnm⟩ : ∃ nm, r.normal = nm := ⟨_, rfl⟩
  have HN : Hid _ := hnm
  rw [hnm] at hms HLB
  have HX0 : Hid _ := X0
  rw [hnm] at X0 c0
  clear hnm
  cases nm
  · have HE1 : Hid (r = q) := by show _ = _; rw [← hq, HLB.out, if_neg (by simp)]
    have HE2 : Hid ((if 2 * cntB r.asks > r.size then chgL r ++ tellM r else chgL r) = ms) := by show _ = _; rw [← hms, HLB.out]; simp
    clear hq hms HLB
    go_upto_region 6 with (first | ((with_reducible refine store_midX 40 X2 0 [.int .i64 0, .int .i64 r.id, .int .i64 r.size, .int .i64 r.view, .bool r.normal, .int .i64 r.last, .slice h'.L.1 h'.L.2.1 h'.L.2.2, .int .i64 r.commit, .slice h'.O.1 h'.O.2.1 h'.O.2.2, .slice h'.A.1 h'.A.2.1 h'.A.2.2, .slice h'.D.1 h'.D.2.1 h'.D.2.2, .slice none 0 0] (by simp) (by kernel_rfl) (by simp [Value.oneCell']) rfl rfl ?_); intro V1 S; replace X0 := X0.kept S.kept (by omega); replace c0 := X0.cell; replace X1 := X1.kept S.kept (by omega); replace c1 := X1.cell; replace f1 := X1.froz; replace X2 : Bx V1 b2 [.int .i64 0, .int .i64 r.id, .int .i64 r.size, .int .i64 r.view, .bool r.normal, .int .i64 r.last, .slice h'.L.1 h'.L.2.1 h'.L.2.2, .int .i64 r.commit, .slice h'.O.1 h'.O.2.1 h'.O.2.2, .slice h'.A.1 h'.A.2.1 h'.A.2.2, .slice h'.D.1 h'.D.2.1 h'.D.2.2, .slice none 0 0] := S.bx; replace c2 := X2.cell; replace f2 := X2.froz; replace R1 := R1.kept S.kept (by omega); replace hR1 := Nat.le_trans hR1 S.kept.size; replace B := B.trans (S.kept.below _ (by omega) B.size); clear S) | ((have g := ob1); clear g; (with_reducible refine alloc_newX 40 [.int .i64 0, .int .i64 0, .int .i64 0, .int .i64 0, .bool false, .int .i64 0, .slice none 0 0, .int .i64 0, .slice none 0 0, .slice none 0 0, .slice none 0 0, .slice none 0 0] (fun _ => by kernel_rfl) ?_); intro b2 W2 N2; have ob2 : w.heap.size ≤ b2 := Nat.le_trans B.size N2.ge; have o0_b2 : b0 < b2 := Nat.lt_of_lt_of_le X0.lt N2.ge; have o1_b2 : b1 < b2 := Nat.lt_of_lt_of_le X1.lt N2.ge; have oR1_b2 : ue ≤ b2 := Nat.le_trans hR1 N2.ge; replace X0 := X0.below N2.below; replace c0 := X0.cell; replace X1 := X1.below N2.below; replace c1 := X1.cell; replace f1 := X1.froz; replace R1 := R1.below N2.below; replace hR1 := Nat.le_trans hR1 N2.below.size; replace B := below_next B N2.below; have X2 := N2.bx; have c2 := X2.cell; have f2 := X2.froz; have o2z : z0 ≤ b2 := Nat.le_trans gw N2.ge; clear N2) | fail)
    go_wp2_with fail
    have HXN : Hid (Bx V1 b0 [.int .i64 r.id, .int .i64 r.size, .int .i64 r.view, .bool r.normal, .int .i64 r.last, .slice h.L.1 h.L.2.1 h.L.2.2, .int .i64 r.commit, .slice h.O.1 h.O.2.1 h.O.2.2, .slice h.A.1 h.A.2.1 h.A.2.2, .slice h.D.1 h.D.2.1 h.D.2.2]) := by show Bx _ _ _; rw [HN.out]; exact X0
    have lt2 := X2.lt
    refine (l9Changes0_is r h b0 _ HXN.out N1 N2).mono ?_
    rintro e w4 ⟨s, Km, base0, rfl, G0, hsn, NK, hb0, BB⟩
    have hw4 := BB.size
    obtain ⟨base, hbase, hbw, G⟩ := sent_base G0 hb0 hw4
    clear G0 hb0
    replace X0 := X0.below BB
    replace c0 := X0.cell
    replace X1 := X1.below BB
    replace c1 := X1.cell
    replace f1 := X1.froz
    replace X2 := X2.below BB
    replace c2 := X2.cell
    replace f2 := X2.froz
    replace R1 := R1.below BB
    replace hR1 := Nat.le_trans hR1 BB.size
    replace B := below_next B BB
    clear BB
    have hcl := chgL_len r
    have hs5 : s.2.1 ≤ 5 := by omega
    have HSN : Hid _ := hsn
    have HG : Hid (GrowAt _ _ _ _ _ _ _ _ _) := G
    clear hsn hcl G
    go_wp2_with (first | ((with_reducible refine store_oneX 38 X2 11 (.slice s.1 s.2.1 s.2.2) (by simp) (by kernel_rfl) rfl rfl rfl ?_); intro V2 S; replace X0 := X0.kept S.kept (by omega); replace c0 := X0.cell; replace X1 := X1.kept S.kept (by omega); replace c1 := X1.cell; replace f1 := X1.froz; replace X2 : Bx V2 b2 [.int .i64 0, .int .i64 r.id, .int .i64 r.size, .int .i64 r.view, .bool r.normal, .int .i64 r.last, .slice h'.L.1 h'.L.2.1 h'.L.2.2, .int .i64 r.commit, .slice h'.O.1 h'.O.2.1 h'.O.2.2, .slice h'.A.1 h'.A.2.1 h'.A.2.2, .slice h'.D.1 h'.D.2.1 h'.D.2.2, .slice s.1 s.2.1 s.2.2] := S.bx; replace c2 := X2.cell; replace f2 := X2.froz; replace R1 := R1.kept S.kept (by omega); replace hR1 := Nat.le_trans hR1 S.kept.size; replace B := B.trans (S.kept.below _ (by omega) B.size); replace HG : Hid (GrowAt _ _ _ _ _ _ _ _ _) := GrowAt.kept HG.out S.kept (by omega); replace hbw := Nat.le_trans hbw S.kept.size; clear S) | fail)
    obtain ⟨d, hd⟩ : ∃ d, decide (2 * cntB r.asks > r.size) = d := ⟨_, rfl⟩
    have HD : Hid _ := hd
    clear hd
    have HXN2 : Hid (Bx V2 b0 [.int .i64 r.id, .int .i64 r.size, .int .i64 r.view, .bool r.normal, .int .i64 r.last, .slice h.L.1 h.L.2.1 h.L.2.2, .int .i64 r.commit, .slice h.O.1 h.O.2.1 h.O.2.2, .slice h.A.1 h.A.2.1 h.A.2.2, .slice h.D.1 h.D.2.1 h.D.2.2]) := by show Bx _ _ _; rw [HN.out]; exact X0
    refine (l9Asked0_is r h b0 _ HXN2.out (x.below B).asks hA5 N1 d HD.out).mono ?_
    rintro e W9 ⟨rfl, rfl⟩
    cases d
    · have HE3 : Hid (chgL r = ms) := by show _ = _; rw [← HE2.out, if_neg (of_decide_eq_false HD.out)]
      have AN : AnsAt W9 true z0 W9.heap.size h' s Km r (chgL r) := ans_of R1 HG.out (by omega) (by omega) (by omega) rfl
      have hAN : W9.heap.size ≤ W9.heap.size := Nat.le_refl _
      have AZ : ASz h' s Km 1048576 := ⟨HZ, by omega, fun j hj => by rw [NK j hj]; exact Nat.zero_le _⟩
      skip
      clear R1 HG
      go_wp2_with (first | ((with_reducible refine store_midX 40 X1 0 [.int .i64 0, .int .i64 r.id, .int .i64 r.size, .int .i64 r.view, .bool r.normal, .int .i64 r.last, .slice h'.L.1 h'.L.2.1 h'.L.2.2, .int .i64 r.commit, .slice h'.O.1 h'.O.2.1 h'.O.2.2, .slice h'.A.1 h'.A.2.1 h'.A.2.2, .slice h'.D.1 h'.D.2.1 h'.D.2.2, .slice s.1 s.2.1 s.2.2] (by simp) (by kernel_rfl) (by simp [Value.oneCell']) rfl rfl ?_); intro V3 S; replace X0 := X0.kept S.kept (by omega); replace c0 := X0.cell; replace X1 : Bx V3 b1 [.int .i64 0, .int .i64 r.id, .int .i64 r.size, .int .i64 r.view, .bool r.normal, .int .i64 r.last, .slice h'.L.1 h'.L.2.1 h'.L.2.2, .int .i64 r.commit, .slice h'.O.1 h'.O.2.1 h'.O.2.2, .slice h'.A.1 h'.A.2.1 h'.A.2.2, .slice h'.D.1 h'.D.2.1 h'.D.2.2, .slice s.1 s.2.1 s.2.2] := S.bx; replace c1 := X1.cell; replace f1 := X1.froz; replace X2 := X2.kept S.kept (by omega); replace c2 := X2.cell; replace f2 := X2.froz; replace AN := AN.kept S.kept (by omega); replace hAN := Nat.le_trans hAN S.kept.size; replace B := B.trans (S.kept.below _ (by omega) B.size); clear S))
      have EQ := HE1.out
      have EM := HE3.out
      subst EM
      subst EQ
      exact bodyPost_ret (v := .agg #[.int .i64 0, .int .i64 r.id, .int .i64 r.size, .int .i64 r.view, .bool r.normal, .int .i64 r.last, .slice h'.L.1 h'.L.2.1 h'.L.2.2, .int .i64 r.commit, .slice h'.O.1 h'.O.2.1 h'.O.2.2, .slice h'.A.1 h'.A.2.1 h'.A.2.2, .slice h'.D.1 h'.D.2.1 h'.D.2.2, .slice s.1 s.2.1 s.2.2]) (by simp [results, Tryz.results23, go_sem, *]) rfl ⟨_, _, h', s, Km, rfl, B9, hAN, AN.ro, AZ, B⟩
    · have HE3 : Hid (chgL r ++ tellM r = ms) := by show _ = _; rw [← HE2.out, if_pos (of_decide_eq_true HD.out)]
      have lt2' := X2.lt
      go_wp2_with fail
      have DD : Below W9.heap.size W9 W9.drew := (Below.refl _ _).drew
      have XN := HXN2.out.below DD
      have X2D := X2.below DD
      have c2D := X2D.cell
      have X0D := X0.below DD
      have X1D := X1.below DD
      have BD := below_next B DD
      have R1D := R1.below DD
      have hbwD := Nat.le_trans hbw DD.size
      have hKm : Hid (∀ j, j < (chgL r).length → (Km j).2.1 ≤ 1048576) := fun j hj => by rw [NK j (by rw [HSN.out]; exact hj)]; exact Nat.zero_le _
      have HC5 : Hid ((chgL r).length ≤ 5) := (by have := chgL_len r; omega : (chgL r).length ≤ 5)
      have hcl := HC5.out
      go_cut [] (fun wx => ∃ (s2 : Hd) (K2 : Nat → Hd), Bx wx b0 [.int .i64 r.id, .int .i64 r.size, .int .i64 r.view, .bool false, .int .i64 r.last, .slice h.L.1 h.L.2.1 h.L.2.2, .int .i64 r.commit, .slice h.O.1 h.O.2.1 h.O.2.2, .slice h.A.1 h.A.2.1 h.A.2.2, .slice h.D.1 h.D.2.1 h.D.2.2] ∧ Bx wx b1 [.int .i64 0, .int .i64 0, .int .i64 0, .int .i64 0, .bool false, .int .i64 0, .slice none 0 0, .int .i64 0, .slice none 0 0, .slice none 0 0, .slice none 0 0, .slice none 0 0] ∧ Bx wx b2 [.int .i64 0, .int .i64 r.id, .int .i64 r.size, .int .i64 r.view, .bool r.normal, .int .i64 r.last, .slice h'.L.1 h'.L.2.1 h'.L.2.2, .int .i64 r.commit, .slice h'.O.1 h'.O.2.1 h'.O.2.2, .slice h'.A.1 h'.A.2.1 h'.A.2.2, .slice h'.D.1 h'.D.2.1 h'.D.2.2, .slice s2.1 s2.2.1 s2.2.2] ∧ AnsAt wx true z0 wx.heap.size h' s2 K2 r (chgL r ++ tellM r) ∧ ASz h' s2 K2 1048576 ∧ W9.heap.size ≤ wx.heap.size ∧ Below w.heap.size w wx)
      case first =>
        clear HXN HXN2 c0 c1 f1
        have BW : Below W9.drew.heap.size W9.drew W9.drew := Below.refl _ _
        replace X0 := X0D
        replace X1 := X1D
        replace X2 := X2D
        replace c2 := X2.cell
        replace f2 := X2.froz
        replace R1 := R1D
        replace B := BD
        have c0 := X0.cell
        have c1 := X1.cell
        clear X0D X1D X2D c2D R1D BD XN hR1
        refine wp_region_held_drew (S := (fun _ => True)) (by kernel_rfl) trivial (fun hHeld => ?_)
        refine wpAnyH_take (i := 0) (v := ?_) rfl (by kernel_rfl) (by kernel_rfl) (by kernel_rfl) (fun _ _ _ h => h) (Or.inl ⟨by rfl, ?_⟩) hHeld ?_
        rotate_left 1
        · intro w hSw
          try dsimp only at hSw
          first | (go_simp; done) | (go_simp; with_reducible rfl)
        simp only [Act.put, List.setIfInBounds_toArray, List.set_cons_zero, List.set_cons_succ, List.getElem_toArray, List.getElem_cons_zero]
        refine wpAnyH_ready (rs := [1, 2]) (by kernel_rfl) (by simp) ?_
        refine (AllReadyH.cons rfl (fun KK hKK => ?_) (AllReadyH.cons rfl (fun KK hKK => ?_) AllReadyH.nil))
        · rw [if_pos (by simp [Region.wanted])]
          unfold Oper.wp execOp
          go_simp
          clear hHeld
          refine hKK _ _ trivial (fun hHeld => ?_)
          clear hKK KK
          refine wpAnyH_ready (rs := [2]) (by kernel_rfl) (by simp) ?_
          refine (AllReadyH.cons rfl (fun KK hKK => ?_) AllReadyH.nil)
          go_simp
          go_at_call 78
          refine (l9Tell0_is r h b0 _ (by rw [HN.out]; exact X0) (x.below B).log hz.L N1 N3).mono ?_
          rintro e w5 ⟨s3, K3, rfl, MA, hsn3, hK3, BB⟩
          replace X0 := X0.below BB
          replace c0 := X0.cell
          replace X1 := X1.below BB
          replace c1 := X1.cell
          replace X2 := X2.below BB
          replace c2 := X2.cell
          replace f2 := X2.froz
          replace R1 := R1.below BB
          replace B := below_next B BB
          replace BW := below_next BW BB
          have HSN3 : Hid _ := hsn3
          have HMA : Hid _ := MA
          have HK3 : Hid _ := hK3
          clear hsn3 MA hK3
          clear BB
          clear hHeld
          refine hKK _ _ trivial (fun hHeld => ?_)
          clear hKK KK
          refine wpAnyH_ready (rs := [3]) (by kernel_rfl) (by simp) ?_
          refine (AllReadyH.cons rfl (fun KK hKK => ?_) AllReadyH.nil)
          obtain ⟨v', w6, Kn, hr, G2, KS, B6, hKn⟩ := sent_tell (HG.out.below DD) BW HMA.out HSN3.out hKm.out HK3.out hbwD (by omega)
          have nbx : ∀ b, b < base → ¬ (Value.slice s.1 s.2.1 s.2.2).ownBlock = some b := (fun b hb z => by have := (HG.out.own.lt b z).1; omega)
          obtain ⟨sa, sc, e9, _, _⟩ := owns_slice (GrowAt.own (G2 : GrowAt _ _ _ _ _ _ _ _ _))
          subst e9
          refine step_append_run rfl _ _ _ _ rfl _ _ rfl rfl _ _ (hr _) ?_
          have HG2 : Hid (GrowAt _ _ _ _ _ _ _ _ _) := G2
          have HKn : Hid _ := hKn
          replace X0 := X0.keptS KS (nbx b0 (by omega))
          replace c0 := X0.cell
          replace X1 := X1.keptS KS (nbx b1 (by omega))
          replace c1 := X1.cell
          replace X2 := X2.keptS KS (nbx b2 (by omega))
          replace c2 := X2.cell
          replace f2 := X2.froz
          replace R1 := R1.keptS KS (fun k hk z => by have := R1.inB hk; have := (HG.out.own.lt k z).1; omega)
          replace B := B.trans (KS.low w.heap.size (fun k z => by have := (HG.out.own.lt k z).1; omega) B.size)
          have hw6 : W9.heap.size ≤ w6.heap.size := Nat.le_trans BW.size KS.size
          clear BW hr G2 hKn KS B6 nbx
          clear hHeld
          refine hKK _ _ trivial (fun hHeld => ?_)
          clear hKK KK
          refine wpAnyH_take (i := 4) (v := ?_) rfl (by kernel_rfl) (by kernel_rfl) (by kernel_rfl) (fun _ _ _ h => h) (Or.inl ⟨by rfl, ?_⟩) hHeld ?_
          rotate_left 1
          · intro w hSw
            try dsimp only at hSw
            first | (go_simp; done) | (go_simp; with_reducible rfl)
          simp only [Act.put, List.setIfInBounds_toArray, List.set_cons_zero, List.set_cons_succ, List.getElem_toArray, List.getElem_cons_zero, List.getElem_cons_succ]
          refine wpAnyH_ready (rs := [5]) (by kernel_rfl) (by simp) ?_
          refine (AllReadyH.cons rfl (fun KK hKK => ?_) AllReadyH.nil)
          refine step_oneX 38 X2 11 (.slice sa (chgL r ++ tellM r).length sc) (by simp) (by kernel_rfl) rfl rfl rfl ?_
          intro V7 S
          have HG9 : Hid (GrowAt _ _ _ _ _ _ _ _ _) := GrowAt.kept HG2.out S.kept (by omega)
          replace hw6 := Nat.le_trans hw6 S.kept.size
          replace X0 := X0.kept S.kept (by omega)
          replace c0 := X0.cell
          replace X1 := X1.kept S.kept (by omega)
          replace c1 := X1.cell
          replace X2 : Bx V7 b2 [.int .i64 0, .int .i64 r.id, .int .i64 r.size, .int .i64 r.view, .bool r.normal, .int .i64 r.last, .slice h'.L.1 h'.L.2.1 h'.L.2.2, .int .i64 r.commit, .slice h'.O.1 h'.O.2.1 h'.O.2.2, .slice h'.A.1 h'.A.2.1 h'.A.2.2, .slice h'.D.1 h'.D.2.1 h'.D.2.2, .slice (sa, (chgL r ++ tellM r).length, sc).1 (sa, (chgL r ++ tellM r).length, sc).2.1 (sa, (chgL r ++ tellM r).length, sc).2.2] := S.bx
          replace c2 := X2.cell
          replace f2 := X2.froz
          replace R1 := R1.kept S.kept (by omega)
          replace B := B.trans (S.kept.below _ (by omega) B.size)
          clear S
          clear hHeld
          refine hKK _ _ trivial (fun hHeld => ?_)
          clear hKK KK
          refine wpAnyH_done (by kernel_rfl) ?_ _
          have AN : AnsAt V7 true z0 V7.heap.size h' (sa, (chgL r ++ tellM r).length, sc) Kn r (chgL r ++ tellM r) := ans_of R1 HG9.out (by omega) (by omega) (by omega) rfl
          have htl := tellM_len r
          have AZ : ASz h' (sa, (chgL r ++ tellM r).length, sc) Kn 1048576 := ⟨HZ, (by have := HC5.out; show (chgL r ++ tellM r).length ≤ 1048576; rw [List.length_append]; omega), HKn.out⟩
          have H0 : Hid _ := X0
          have H1 : Hid _ := X1
          have H2 : Hid _ := X2
          clear X0 X1 X2 c0 c1 c2 f2
          go_wp2_with fail
          go_meet
          exact ⟨(sa, (chgL r ++ tellM r).length, sc), Kn, H0.out, H1.out, H2.out, AN, AZ, hw6, B⟩
        · go_simp
          go_at_call 78
          refine (l9Tell0_is r h b0 _ (by rw [HN.out]; exact X0) (x.below B).log hz.L N1 N3).mono ?_
          rintro e w5 ⟨s3, K3, rfl, MA, hsn3, hK3, BB⟩
          replace X0 := X0.below BB
          replace c0 := X0.cell
          replace X1 := X1.below BB
          replace c1 := X1.cell
          replace X2 := X2.below BB
          replace c2 := X2.cell
          replace f2 := X2.froz
          replace R1 := R1.below BB
          replace B := below_next B BB
          replace BW := below_next BW BB
          have HSN3 : Hid _ := hsn3
          have HMA : Hid _ := MA
          have HK3 : Hid _ := hK3
          clear hsn3 MA hK3
          clear BB
          clear hHeld
          refine hKK _ _ trivial (fun hHeld => ?_)
          clear hKK KK
          refine wpAnyH_ready (rs := [1]) (by kernel_rfl) (by simp) ?_
          refine (AllReadyH.cons rfl (fun KK hKK => ?_) AllReadyH.nil)
          rw [if_pos (by simp [Region.wanted])]
          unfold Oper.wp execOp
          go_simp
          clear hHeld
          refine hKK _ _ trivial (fun hHeld => ?_)
          clear hKK KK
          refine wpAnyH_ready (rs := [3]) (by kernel_rfl) (by simp) ?_
          refine (AllReadyH.cons rfl (fun KK hKK => ?_) AllReadyH.nil)
          obtain ⟨v', w6, Kn, hr, G2, KS, B6, hKn⟩ := sent_tell (HG.out.below DD) BW HMA.out HSN3.out hKm.out HK3.out hbwD (by omega)
          have nbx : ∀ b, b < base → ¬ (Value.slice s.1 s.2.1 s.2.2).ownBlock = some b := (fun b hb z => by have := (HG.out.own.lt b z).1; omega)
          obtain ⟨sa, sc, e9, _, _⟩ := owns_slice (GrowAt.own (G2 : GrowAt _ _ _ _ _ _ _ _ _))
          subst e9
          refine step_append_run rfl _ _ _ _ rfl _ _ rfl rfl _ _ (hr _) ?_
          have HG2 : Hid (GrowAt _ _ _ _ _ _ _ _ _) := G2
          have HKn : Hid _ := hKn
          replace X0 := X0.keptS KS (nbx b0 (by omega))
          replace c0 := X0.cell
          replace X1 := X1.keptS KS (nbx b1 (by omega))
          replace c1 := X1.cell
          replace X2 := X2.keptS KS (nbx b2 (by omega))
          replace c2 := X2.cell
          replace f2 := X2.froz
          replace R1 := R1.keptS KS (fun k hk z => by have := R1.inB hk; have := (HG.out.own.lt k z).1; omega)
          replace B := B.trans (KS.low w.heap.size (fun k z => by have := (HG.out.own.lt k z).1; omega) B.size)
          have hw6 : W9.heap.size ≤ w6.heap.size := Nat.le_trans BW.size KS.size
          clear BW hr G2 hKn KS B6 nbx
          clear hHeld
          refine hKK _ _ trivial (fun hHeld => ?_)
          clear hKK KK
          refine wpAnyH_take (i := 4) (v := ?_) rfl (by kernel_rfl) (by kernel_rfl) (by kernel_rfl) (fun _ _ _ h => h) (Or.inl ⟨by rfl, ?_⟩) hHeld ?_
          rotate_left 1
          · intro w hSw
            try dsimp only at hSw
            first | (go_simp; done) | (go_simp; with_reducible rfl)
          simp only [Act.put, List.setIfInBounds_toArray, List.set_cons_zero, List.set_cons_succ, List.getElem_toArray, List.getElem_cons_zero, List.getElem_cons_succ]
          refine wpAnyH_ready (rs := [5]) (by kernel_rfl) (by simp) ?_
          refine (AllReadyH.cons rfl (fun KK hKK => ?_) AllReadyH.nil)
          refine step_oneX 38 X2 11 (.slice sa (chgL r ++ tellM r).length sc) (by simp) (by kernel_rfl) rfl rfl rfl ?_
          intro V7 S
          have HG9 : Hid (GrowAt _ _ _ _ _ _ _ _ _) := GrowAt.kept HG2.out S.kept (by omega)
          replace hw6 := Nat.le_trans hw6 S.kept.size
          replace X0 := X0.kept S.kept (by omega)
          replace c0 := X0.cell
          replace X1 := X1.kept S.kept (by omega)
          replace c1 := X1.cell
          replace X2 : Bx V7 b2 [.int .i64 0, .int .i64 r.id, .int .i64 r.size, .int .i64 r.view, .bool r.normal, .int .i64 r.last, .slice h'.L.1 h'.L.2.1 h'.L.2.2, .int .i64 r.commit, .slice h'.O.1 h'.O.2.1 h'.O.2.2, .slice h'.A.1 h'.A.2.1 h'.A.2.2, .slice h'.D.1 h'.D.2.1 h'.D.2.2, .slice (sa, (chgL r ++ tellM r).length, sc).1 (sa, (chgL r ++ tellM r).length, sc).2.1 (sa, (chgL r ++ tellM r).length, sc).2.2] := S.bx
          replace c2 := X2.cell
          replace f2 := X2.froz
          replace R1 := R1.kept S.kept (by omega)
          replace B := B.trans (S.kept.below _ (by omega) B.size)
          clear S
          clear hHeld
          refine hKK _ _ trivial (fun hHeld => ?_)
          clear hKK KK
          refine wpAnyH_done (by kernel_rfl) ?_ _
          have AN : AnsAt V7 true z0 V7.heap.size h' (sa, (chgL r ++ tellM r).length, sc) Kn r (chgL r ++ tellM r) := ans_of R1 HG9.out (by omega) (by omega) (by omega) rfl
          have htl := tellM_len r
          have AZ : ASz h' (sa, (chgL r ++ tellM r).length, sc) Kn 1048576 := ⟨HZ, (by have := HC5.out; show (chgL r ++ tellM r).length ≤ 1048576; rw [List.length_append]; omega), HKn.out⟩
          have H0 : Hid _ := X0
          have H1 : Hid _ := X1
          have H2 : Hid _ := X2
          clear X0 X1 X2 c0 c1 c2 f2
          go_wp2_with fail
          go_meet
          exact ⟨(sa, (chgL r ++ tellM r).length, sc), Kn, H0.out, H1.out, H2.out, AN, AZ, hw6, B⟩
      case rest =>
        clear c0 c1 f1 c2 f2 X0 X1 X2 c2D X0D X1D X2D R1 R1D B BD HG
        obtain ⟨s2, K2, X0, X1, X2, AN, AZ, hwx, B⟩ := hcut
        rename World => wq
        have c0 := X0.cell
        have c1 := X1.cell
        have f1 := X1.froz
        have c2 := X2.cell
        have f2 := X2.froz
        have hAN : wq.heap.size ≤ wq.heap.size := Nat.le_refl _
        go_wp2_with (first | ((with_reducible refine store_midX 40 X1 0 [.int .i64 0, .int .i64 r.id, .int .i64 r.size, .int .i64 r.view, .bool r.normal, .int .i64 r.last, .slice h'.L.1 h'.L.2.1 h'.L.2.2, .int .i64 r.commit, .slice h'.O.1 h'.O.2.1 h'.O.2.2, .slice h'.A.1 h'.A.2.1 h'.A.2.2, .slice h'.D.1 h'.D.2.1 h'.D.2.2, .slice s2.1 s2.2.1 s2.2.2] (by simp) (by kernel_rfl) (by simp [Value.oneCell']) rfl rfl ?_); intro V3 S; replace X0 := X0.kept S.kept (by omega); replace c0 := X0.cell; replace X1 : Bx V3 b1 [.int .i64 0, .int .i64 r.id, .int .i64 r.size, .int .i64 r.view, .bool r.normal, .int .i64 r.last, .slice h'.L.1 h'.L.2.1 h'.L.2.2, .int .i64 r.commit, .slice h'.O.1 h'.O.2.1 h'.O.2.2, .slice h'.A.1 h'.A.2.1 h'.A.2.2, .slice h'.D.1 h'.D.2.1 h'.D.2.2, .slice s2.1 s2.2.1 s2.2.2] := S.bx; replace c1 := X1.cell; replace f1 := X1.froz; replace X2 := X2.kept S.kept (by omega); replace c2 := X2.cell; replace f2 := X2.froz; replace AN := AN.kept S.kept (by omega); replace hAN := Nat.le_trans hAN S.kept.size; replace B := B.trans (S.kept.below _ (by omega) B.size); clear S))
        have EQ := HE1.out
        have EM := HE3.out
        subst EM
        subst EQ
        exact bodyPost_ret (v := .agg #[.int .i64 0, .int .i64 r.id, .int .i64 r.size, .int .i64 r.view, .bool r.normal, .int .i64 r.last, .slice h'.L.1 h'.L.2.1 h'.L.2.2, .int .i64 r.commit, .slice h'.O.1 h'.O.2.1 h'.O.2.2, .slice h'.A.1 h'.A.2.1 h'.A.2.2, .slice h'.D.1 h'.D.2.1 h'.D.2.2, .slice s2.1 s2.2.1 s2.2.2]) (by simp [results, Tryz.results23, go_sem, *]) rfl ⟨_, _, h', s2, K2, rfl, B9, hAN, AN.ro, AZ, B⟩
  · have HE2 : Hid ((if (r.view % r.size == r.id) = true then beatM r else []) = ms) := by show _ = _; rw [← hms, HLB.out, Bool.true_and]; by_cases e : (r.view % r.size == r.id) = true <;> simp [e]
    have HE1 : Hid ((if (r.view % r.size == r.id) = true then agrC r else r) = q) := by show _ = _; rw [← hq, HLB.out, Bool.true_and]
    rw [HLB.out, Bool.true_and] at SO
    clear hq hms HLB
    obtain ⟨l, hl⟩ : ∃ l, (r.view % r.size == r.id) = l := ⟨_, rfl⟩
    rw [hl] at HE1 HE2 SO
    have HL : Hid _ := hl
    clear hl
    go_upto_region 10 with (first | ((with_reducible refine store_midX 40 X2 0 [.int .i64 0, .int .i64 r.id, .int .i64 r.size, .int .i64 r.view, .bool r.normal, .int .i64 r.last, .slice h'.L.1 h'.L.2.1 h'.L.2.2, .int .i64 r.commit, .slice h'.O.1 h'.O.2.1 h'.O.2.2, .slice h'.A.1 h'.A.2.1 h'.A.2.2, .slice h'.D.1 h'.D.2.1 h'.D.2.2, .slice none 0 0] (by simp) (by kernel_rfl) (by simp [Value.oneCell']) rfl rfl ?_); intro V1 S; replace X0 := X0.kept S.kept (by omega); replace c0 := X0.cell; replace X1 := X1.kept S.kept (by omega); replace c1 := X1.cell; replace f1 := X1.froz; replace X2 : Bx V1 b2 [.int .i64 0, .int .i64 r.id, .int .i64 r.size, .int .i64 r.view, .bool r.normal, .int .i64 r.last, .slice h'.L.1 h'.L.2.1 h'.L.2.2, .int .i64 r.commit, .slice h'.O.1 h'.O.2.1 h'.O.2.2, .slice h'.A.1 h'.A.2.1 h'.A.2.2, .slice h'.D.1 h'.D.2.1 h'.D.2.2, .slice none 0 0] := S.bx; replace c2 := X2.cell; replace f2 := X2.froz; replace R1 := R1.kept S.kept (by omega); replace hR1 := Nat.le_trans hR1 S.kept.size; replace B := B.trans (S.kept.below _ (by omega) B.size); clear S) | ((have g := ob1); clear g; (with_reducible refine alloc_newX 40 [.int .i64 0, .int .i64 0, .int .i64 0, .int .i64 0, .bool false, .int .i64 0, .slice none 0 0, .int .i64 0, .slice none 0 0, .slice none 0 0, .slice none 0 0, .slice none 0 0] (fun _ => by kernel_rfl) ?_); intro b2 W2 N2; have ob2 : w.heap.size ≤ b2 := Nat.le_trans B.size N2.ge; have o0_b2 : b0 < b2 := Nat.lt_of_lt_of_le X0.lt N2.ge; have o1_b2 : b1 < b2 := Nat.lt_of_lt_of_le X1.lt N2.ge; have oR1_b2 : ue ≤ b2 := Nat.le_trans hR1 N2.ge; replace X0 := X0.below N2.below; replace c0 := X0.cell; replace X1 := X1.below N2.below; replace c1 := X1.cell; replace f1 := X1.froz; replace R1 := R1.below N2.below; replace hR1 := Nat.le_trans hR1 N2.below.size; replace B := below_next B N2.below; have X2 := N2.bx; have c2 := X2.cell; have f2 := X2.froz; have o2z : z0 ≤ b2 := Nat.le_trans gw N2.ge; clear N2) | fail)
    go_wp2_with fail
    refine (l9Primary_is b0 r.id r.size r.view true r.last h.L r.commit h.O h.A h.D N1 N3 _ X0).mono ?_
    rintro e w4 ⟨rfl, BB⟩
    rw [HL.out]
    replace X0 := X0.below BB
    replace c0 := X0.cell
    replace X1 := X1.below BB
    replace c1 := X1.cell
    replace f1 := X1.froz
    replace X2 := X2.below BB
    replace c2 := X2.cell
    replace f2 := X2.froz
    replace R1 := R1.below BB
    replace hR1 := Nat.le_trans hR1 BB.size
    replace B := below_next B BB
    clear BB
    have lt2 := X2.lt
    cases l
    · have HE3 : Hid (r = q) := by show _ = _; rw [← HE1.out, if_neg (by decide)]
      have HE4 : Hid (([] : List Ml) = ms) := by show _ = _; rw [← HE2.out, if_neg (by decide)]
      have R9 := R1.widen (Nat.le_refl _) (show ue ≤ w4.heap.size by omega)
      have AN : AnsAt w4 true z0 w4.heap.size h' (none, 0, 0) kd0 r [] := AnsAt.bare R9 _ _
      have hAN : w4.heap.size ≤ w4.heap.size := Nat.le_refl _
      clear R1 R9 HE1 HE2
      go_wp2_with (first | ((with_reducible refine store_midX 40 X1 0 [.int .i64 0, .int .i64 r.id, .int .i64 r.size, .int .i64 r.view, .bool r.normal, .int .i64 r.last, .slice h'.L.1 h'.L.2.1 h'.L.2.2, .int .i64 r.commit, .slice h'.O.1 h'.O.2.1 h'.O.2.2, .slice h'.A.1 h'.A.2.1 h'.A.2.2, .slice h'.D.1 h'.D.2.1 h'.D.2.2, .slice none 0 0] (by simp) (by kernel_rfl) (by simp [Value.oneCell']) rfl rfl ?_); intro V2 S; replace X0 := X0.kept S.kept (by omega); replace c0 := X0.cell; replace X1 : Bx V2 b1 [.int .i64 0, .int .i64 r.id, .int .i64 r.size, .int .i64 r.view, .bool r.normal, .int .i64 r.last, .slice h'.L.1 h'.L.2.1 h'.L.2.2, .int .i64 r.commit, .slice h'.O.1 h'.O.2.1 h'.O.2.2, .slice h'.A.1 h'.A.2.1 h'.A.2.2, .slice h'.D.1 h'.D.2.1 h'.D.2.2, .slice none 0 0] := S.bx; replace c1 := X1.cell; replace f1 := X1.froz; replace X2 := X2.kept S.kept (by omega); replace c2 := X2.cell; replace f2 := X2.froz; replace AN := AN.kept S.kept (by omega); replace hAN := Nat.le_trans hAN S.kept.size; replace B := B.trans (S.kept.below _ (by omega) B.size); clear S))
      have EQ := HE3.out
      have EM := HE4.out
      subst EM
      subst EQ
      exact bodyPost_ret (v := .agg #[.int .i64 0, .int .i64 r.id, .int .i64 r.size, .int .i64 r.view, .bool r.normal, .int .i64 r.last, .slice h'.L.1 h'.L.2.1 h'.L.2.2, .int .i64 r.commit, .slice h'.O.1 h'.O.2.1 h'.O.2.2, .slice h'.A.1 h'.A.2.1 h'.A.2.2, .slice h'.D.1 h'.D.2.1 h'.D.2.2, .slice none 0 0]) (by simp [results, Tryz.results23, go_sem, *]) rfl ⟨_, _, h', (none, 0, 0), kd0, rfl, B9, hAN, AN.ro, ASz.bare HZ _ _, B⟩
    · rw [if_pos rfl] at SO
      have HE3 : Hid (agrC r = q) := by show _ = _; rw [← HE1.out, if_pos rfl]
      have HE4 : Hid (beatM r = ms) := by show _ = _; rw [← HE2.out, if_pos rfl]
      clear HE1 HE2
      obtain ⟨ag, hag⟩ : ∃ ag, max r.commit (agrR r) = ag := ⟨_, rfl⟩
      have HAG : Hid (agrM r = ag) := by
        show _ = _
        rw [← hag]
        unfold agrM
        split <;> omega
      have HAG0 : Hid _ := hag
      clear hag
      have HSO : Hid _ := SO
      have HNB : Hid (¬ inRep h' b2) := fun hk => by have := R1.inB hk; omega
      have HXN : Hid (Bx w4 b0 [.int .i64 r.id, .int .i64 r.size, .int .i64 r.view, .bool r.normal, .int .i64 r.last, .slice h.L.1 h.L.2.1 h.L.2.2, .int .i64 r.commit, .slice h.O.1 h.O.2.1 h.O.2.2, .slice h.A.1 h.A.2.1 h.A.2.2, .slice h.D.1 h.D.2.1 h.D.2.2]) := by show Bx _ _ _; rw [HN.out]; exact X0
      go_wp2_with fail
      have DQ : Below w4.heap.size w4 w4.drew := (Below.refl _ _).drew
      replace X0 := X0.below DQ
      replace c0 := X0.cell
      replace X1 := X1.below DQ
      replace c1 := X1.cell
      replace f1 := X1.froz
      replace X2 := X2.below DQ
      replace c2 := X2.cell
      replace f2 := X2.froz
      replace R1 := R1.below DQ
      replace hR1 := Nat.le_trans hR1 DQ.size
      replace B := below_next B DQ
      clear DQ
      replace HXN : Hid (Bx w4.drew b0 [.int .i64 r.id, .int .i64 r.size, .int .i64 r.view, .bool r.normal, .int .i64 r.last, .slice h.L.1 h.L.2.1 h.L.2.2, .int .i64 r.commit, .slice h.O.1 h.O.2.1 h.O.2.2, .slice h.A.1 h.A.2.1 h.A.2.2, .slice h.D.1 h.D.2.1 h.D.2.2]) := HXN.out.below (Below.refl _ _).drew
      refine wp_region_held_drew (S := (fun w' => ∀ k : Nat, w'.cell? ⟨b0, k, none⟩ = [.int .i64 r.id, .int .i64 r.size, .int .i64 r.view, .bool true, .int .i64 r.last, .slice h.L.1 h.L.2.1 h.L.2.2, .int .i64 r.commit, .slice h.O.1 h.O.2.1 h.O.2.2, .slice h.A.1 h.A.2.1 h.A.2.2, .slice h.D.1 h.D.2.1 h.D.2.2][k]?)) (by kernel_rfl) c0 (fun hHeld => ?_)
      refine wpAnyH_take (i := 0) (v := ?_) rfl (by kernel_rfl) (by kernel_rfl) (by kernel_rfl) (fun _ _ _ h => h) (Or.inl ⟨by rfl, ?_⟩) hHeld ?_
      rotate_left 1
      · intro w hSw
        try dsimp only at hSw
        first | (go_simp; done) | (go_simp; with_reducible rfl)
      simp only [Act.put, List.setIfInBounds_toArray, List.set_cons_zero, List.set_cons_succ, List.getElem_toArray, List.getElem_cons_zero]
      refine wpAnyH_take (i := 1) (v := ?_) rfl (by kernel_rfl) (by kernel_rfl) (by kernel_rfl) (fun _ _ _ h => h) (Or.inl ⟨by rfl, ?_⟩) hHeld ?_
      rotate_left 1
      · intro w hSw
        try dsimp only at hSw
        first | (go_simp; done) | (go_simp; with_reducible rfl)
      simp only [Act.put, List.setIfInBounds_toArray, List.set_cons_zero, List.set_cons_succ, List.getElem_toArray, List.getElem_cons_zero, List.getElem_cons_succ]
      refine wpAnyH_ready (rs := [2]) (by kernel_rfl) (by simp) ?_
      refine AllReadyH.cons rfl (fun KK hKK => ?_) AllReadyH.nil
      go_simp
      go_at_call 81
      refine (l9Agreed_is r h b0 _ HXN.out (x.below B) N1 N2 hl40 HSO.out).mono ?_
      rintro e W9 ⟨rfl, rfl⟩
      clear hHeld
      refine hKK _ _ c0 (fun hHeld => ?_)
      clear hKK KK
      refine wpAnyH_ready (rs := [3]) (by kernel_rfl) (by simp) ?_
      refine AllReadyH.cons rfl (fun KK hKK => ?_) AllReadyH.nil
      go_simp
      go_at_call 80
      refine (l1Max9_is r.commit (agrR r) _).mono ?_
      rintro e W9 ⟨rfl, rfl⟩
      rw [HAG0.out]
      clear hHeld
      refine hKK _ _ c0 (fun hHeld => ?_)
      clear hKK KK
      refine wpAnyH_take (i := 4) (v := ?_) rfl (by kernel_rfl) (by kernel_rfl) (by kernel_rfl) (fun _ _ _ h => h) (Or.inl ⟨by rfl, ?_⟩) hHeld ?_
      rotate_left 1
      · intro w hSw
        try dsimp only at hSw
        first | (go_simp; done) | (go_simp; with_reducible rfl)
      simp only [Act.put, List.setIfInBounds_toArray, List.set_cons_zero, List.set_cons_succ, List.getElem_toArray, List.getElem_cons_zero, List.getElem_cons_succ]
      refine wpAnyH_take (i := 5) (v := ?_) rfl (by kernel_rfl) (by kernel_rfl) (by kernel_rfl) (fun _ _ _ h => h) (Or.inl ⟨by rfl, ?_⟩) hHeld ?_
      rotate_left 1
      · intro w hSw
        try dsimp only at hSw
        first | (go_simp; done) | (go_simp; with_reducible rfl)
      simp only [Act.put, List.setIfInBounds_toArray, List.set_cons_zero, List.set_cons_succ, List.getElem_toArray, List.getElem_cons_zero, List.getElem_cons_succ]
      refine wpAnyH_ready (rs := [6]) (by kernel_rfl) (by simp) ?_
      refine AllReadyH.cons rfl (fun KK hKK => ?_) AllReadyH.nil
      refine step_oneX 2 X2 7 (.int .i64 ag) (by simp) (by kernel_rfl) rfl rfl rfl ?_
      intro V8 S
      replace X0 := X0.kept S.kept (by omega)
      replace c0 := X0.cell
      replace X1 := X1.kept S.kept (by omega)
      replace c1 := X1.cell
      replace f1 := X1.froz
      replace X2 : Bx V8 b2 [.int .i64 0, .int .i64 r.id, .int .i64 r.size, .int .i64 r.view, .bool r.normal, .int .i64 r.last, .slice h'.L.1 h'.L.2.1 h'.L.2.2, .int .i64 ag, .slice h'.O.1 h'.O.2.1 h'.O.2.2, .slice h'.A.1 h'.A.2.1 h'.A.2.2, .slice h'.D.1 h'.D.2.1 h'.D.2.2, .slice none 0 0] := S.bx
      replace c2 := X2.cell
      replace f2 := X2.froz
      replace R1 := R1.kept S.kept (by omega)
      replace hR1 := Nat.le_trans hR1 S.kept.size
      replace B := B.trans (S.kept.below _ (by omega) B.size)
      clear S
      clear hHeld
      refine hKK _ _ c0 (fun hHeld => ?_)
      clear hKK KK
      refine wpAnyH_done (by kernel_rfl) ?_ _
      obtain ⟨qt, hqt⟩ : ∃ qt, agrC r = qt := ⟨_, rfl⟩
      have XT : Bx V8 b2 [.int .i64 0, .int .i64 qt.id, .int .i64 qt.size, .int .i64 qt.view, .bool qt.normal, .int .i64 qt.last, .slice h'.L.1 h'.L.2.1 h'.L.2.2, .int .i64 qt.commit, .slice h'.O.1 h'.O.2.1 h'.O.2.2, .slice h'.A.1 h'.A.2.1 h'.A.2.2, .slice h'.D.1 h'.D.2.1 h'.D.2.2, .slice none 0 0] := by
        rw [← hqt]
        show Bx V8 b2 [_, _, _, _, _, _, _, .int .i64 (agrM r), _, _, _, _]
        rw [HAG.out]; exact X2
      have RQ : RepAt V8 true z0 ue h' qt := by rw [← hqt]; exact ⟨R1.log, R1.oks, R1.asks, R1.doers, R1.sep⟩
      have q4 : Hid (qt.log = r.log) := by show _ = _; rw [← hqt]; rfl
      have HQT : Hid _ := hqt
      rw [hqt] at HE3
      clear hqt R1 X2 c2 f2
      have X2 := XT
      have c2 := X2.cell
      have f2 := X2.froz
      clear XT
      obtain ⟨m, hm⟩ : ∃ m : Nat, r.size = m := ⟨r.size.toNat, by omega⟩
      obtain ⟨i, hi0⟩ : ∃ i : Nat, r.id = i := ⟨r.id.toNat, by omega⟩
      have hm5 : m ≤ 5 := by omega
      have hol := x.oks.nInts
      have hll := x.log.nSixs
      have HMO : Hid (m = h.O.2.1) := (by have := HSO.out; omega : m = h.O.2.1)
      obtain ⟨fT, hfT⟩ : ∃ fT : Int → Ml, fT = fun t => putM (prepM qt (beatN r t)) r.id t r.view := ⟨_, rfl⟩
      have HTM : Hid (beatM r = (othL i m).map fT) := by show _ = _; unfold beatM; rw [hm, hi0, hfT, HQT.out, hi0]; rfl
      have HFL : Hid (∀ t, (fT t).log = []) := fun t => by
        rw [hfT]
        show (putM (prepM qt (beatN r t)) r.id t r.view).log = []
        unfold prepM
        split <;> rfl
      have HI0 : Hid (∀ j y : Nat, r.oks.getD j 0 = (y : Int) → ¬ y < h.L.2.1 → mlV (none, 0, 0) (fT (j : Int)) = [.int .i64 1, .int .i64 i, .int .i64 j, .int .i64 r.view, .int .i64 y, .bool false, .int .i64 0, .int .i64 0, .int .i64 0, .int .i64 0, .int .i64 0, .int .i64 0, .int .i64 0, .slice none 0 0, .int .i64 qt.commit]) := fun j y e1 e2 => by
        have e3 : prepM qt (beatN r (j : Int)) = ⟨1, 0, 0, 0, y, false, en0, 0, [], qt.commit⟩ := by
          have e4 : beatN r (j : Int) = y := by unfold beatN; rw [Int.toNat_natCast, e1, Int.toNat_natCast]
          unfold prepM; rw [e4, if_neg (by rw [q4.out]; omega)]
        rw [hfT]
        show mlV _ (putM (prepM qt (beatN r (j : Int))) r.id (j : Int) r.view) = _
        rw [e3]
        simp only [putM, mlV, hi0]
        rfl
      have HI1 : Hid (∀ j y : Nat, r.oks.getD j 0 = (y : Int) → y < h.L.2.1 → mlV (none, 0, 0) (fT (j : Int)) = [.int .i64 1, .int .i64 i, .int .i64 j, .int .i64 r.view, .int .i64 y, .bool true, .int .i64 (r.log.getD y en0).1, .int .i64 (r.log.getD y en0).2.1, .int .i64 (r.log.getD y en0).2.2.1, .int .i64 (r.log.getD y en0).2.2.2.1, .int .i64 (r.log.getD y en0).2.2.2.2.1, .int .i64 (r.log.getD y en0).2.2.2.2.2, .int .i64 0, .slice none 0 0, .int .i64 qt.commit]) := fun j y e1 e2 => by
        have e3 : prepM qt (beatN r (j : Int)) = ⟨1, 0, 0, 0, y, true, r.log.getD y en0, 0, [], qt.commit⟩ := by
          have e4 : beatN r (j : Int) = y := by unfold beatN; rw [Int.toNat_natCast, e1, Int.toNat_natCast]
          unfold prepM; rw [e4, if_pos (by rw [q4.out]; omega), q4.out]
        rw [hfT]
        show mlV _ (putM (prepM qt (beatN r (j : Int))) r.id (j : Int) r.view) = _
        rw [e3]
        simp only [putM, mlV, hi0]
        rfl
      have HOK : Hid (∀ j : Nat, j < h.O.2.1 → ∃ y : Nat, r.oks.getD j 0 = (y : Int)) := fun j hj => by
        have hm : r.oks.getD j 0 ∈ r.oks := by simp [List.getD, show j < r.oks.length by omega]
        exact ⟨(r.oks.getD j 0).toNat, by have := HOB.out _ hm; omega⟩
      have HM : Hid _ := hm
      have HI : Hid _ := hi0
      rw [hm, hi0] at X0 c0
      clear hm hi0 hfT hol
      have HX0 : Hid _ := X0
      have HX1 : Hid _ := X1
      have HX2 : Hid _ := X2
      have HB8 : Hid _ := B
      have HRQ : Hid _ := RQ
      have lt0 := X0.lt
      have lt1 := X1.lt
      have lt2' := X2.lt
      have hR8 : ue ≤ V8.heap.size := hR1
      clear X0 c0 X1 c1 f1 X2 c2 f2 B RQ HXN
      go_wp2
      go_loopw [5, 6] (fun iv _ wr => BtL V8 b2 m i qt h' fT iv wr) (fun iv _ _ => m - (intOf iv).toNat)
      case atStart => exact ⟨0, (none, 0, 0), kd0, Nat.zero_le _, rfl, HX2.out, GrowAt.nil _ _ _ _ _ _ _, rfl, fun j hj => absurd hj (Nat.not_lt_zero _), Nat.le_refl _, KeptS.refl _ _⟩
      case round =>
        obtain ⟨k, s, Km, hk, rfl, X2, G, hsk, NK, LZ, KS⟩ := hrel
        have X0 := HX0.out.keptS KS (by omega)
        have c0 := X0.cell
        have c2 := X2.cell
        have f2 := X2.froz
        clear HX2
        by_cases hlt : k < m
        · have hlk : (k : Int) < (m : Int) := by omega
          have HO : Hid (othL i (k + 1) = if k = i then othL i k else othL i k ++ [(k : Int)]) := rfl
          have hol := othL_len i k
          have HG : Hid (GrowAt _ _ _ _ _ _ _ _ _) := G
          have HNK : Hid _ := NK
          have HLZ : Hid _ := LZ
          have HKS : Hid _ := KS
          have HSK : Hid _ := hsk
          have HX2 : Hid _ := X2
          clear G NK hsk
          by_cases q : k = i
          · have q1' : ((k : Int) == (i : Int)) = true := by simp [q]
            have HO2 : Hid (othL i (k + 1) = othL i k) := by show _ = _; rw [HO.out, if_pos q]
            clear q HO X2 KS
            go_wp2
            go_roundw
            case rel => exact ⟨k + 1, s, Km, by omega, by go_num, HX2.out, by rw [HO2.out]; exact HG.out, by rw [HO2.out]; exact HSK.out, by rw [HO2.out]; exact HNK.out, HLZ.out, HKS.out⟩
            case measure => simp [intOf]; omega
          · have q1' : ((k : Int) == (i : Int)) = false := by simp; omega
            have HO2 : Hid (othL i (k + 1) = othL i k ++ [(k : Int)]) := by show _ = _; rw [HO.out, if_neg q]
            clear q HO HX2
            have hbr : Below w.heap.size w wr := HB8.out.trans (KS.low _ (fun q hq => hq.elim (fun e => by omega) (fun e => Nat.le_trans HB8.out.size e)) HB8.out.size)
            clear KS
            obtain ⟨y, hy⟩ := HOK.out k (by have := HMO.out; omega)
            obtain ⟨bo, oo, eo, _, _, hbs, e7, _⟩ := (x.below hbr).oks.int (k := k) (by have := HMO.out; omega)
            rw [hy] at e7
            have hkO : (k : Int) < (h.O.2.1 : Int) := by have := HMO.out; omega
            have HX0' : Hid _ := X0
            rw [eo] at X0 c0
            have HXL : Hid (RowAt wr own lo hi 6 h.L.1 h.L.2.1 h.L.2.2 (sixs r.log)) := (x.below hbr).log
            go_wp2_with fail
            go_cut [6] (fun yv wx => ∃ b3 : Nat, yv = .pointer (some ⟨b3, 0, none⟩) ∧ wr.heap.size ≤ b3 ∧ Bx wx b3 [.int .i64 1, .int .i64 i, .int .i64 k, .int .i64 r.view, .int .i64 y, .bool false, .int .i64 0, .int .i64 0, .int .i64 0, .int .i64 0, .int .i64 0, .int .i64 0, .int .i64 0, .slice none 0 0, .int .i64 qt.commit] ∧ Below wr.heap.size wr wx)
            case first =>
              have ob2 := X2.lt
              have e7' : wr.drew.cell? ⟨bo, oo + k, none⟩ = some (.int .i64 (y : Int)) := e7
              have DQ : Below wr.heap.size wr wr.drew := (Below.refl _ _).drew
              replace X0 := X0.below DQ
              replace c0 := X0.cell
              replace X2 := X2.below DQ
              replace c2 := X2.cell
              replace f2 := X2.froz
              have B := DQ
              clear DQ
              refine wp_region_held_drew (S := (fun w' => (∀ k : Nat, w'.cell? ⟨b0, k, none⟩ = [.int .i64 i, .int .i64 m, .int .i64 r.view, .bool true, .int .i64 r.last, .slice h.L.1 h.L.2.1 h.L.2.2, .int .i64 r.commit, .slice (some ⟨bo, oo, none⟩) h.O.2.1 h.O.2.2, .slice h.A.1 h.A.2.1 h.A.2.2, .slice h.D.1 h.D.2.1 h.D.2.2][k]?) ∧ (∀ k : Nat, w'.cell? ⟨b2, k, none⟩ = [.int .i64 0, .int .i64 qt.id, .int .i64 qt.size, .int .i64 qt.view, .bool qt.normal, .int .i64 qt.last, .slice h'.L.1 h'.L.2.1 h'.L.2.2, .int .i64 qt.commit, .slice h'.O.1 h'.O.2.1 h'.O.2.2, .slice h'.A.1 h'.A.2.1 h'.A.2.2, .slice h'.D.1 h'.D.2.1 h'.D.2.2, .slice s.1 s.2.1 s.2.2][k]?) ∧ w'.cell? ⟨bo, oo + k, none⟩ = some (.int .i64 (y : Int)))) (by kernel_rfl) ⟨c0, c2, e7'⟩ (fun hHeld => ?_)
              refine wpAnyH_take (i := 0) (v := ?_) rfl (by kernel_rfl) (by kernel_rfl) (by kernel_rfl) (fun _ _ _ h => h) (Or.inl ⟨by rfl, ?_⟩) hHeld ?_
              rotate_left 1
              · intro w hSw
                try dsimp only at hSw
                first | (go_simp; done) | (go_simp; with_reducible rfl)
              simp only [Act.put, List.setIfInBounds_toArray, List.set_cons_zero, List.set_cons_succ, List.getElem_toArray, List.getElem_cons_zero]
              refine wpAnyH_take (i := 1) (v := ?_) rfl (by kernel_rfl) (by kernel_rfl) (by kernel_rfl) (fun _ _ _ h => h) (Or.inl ⟨by rfl, ?_⟩) hHeld ?_
              rotate_left 1
              · intro w hSw
                try dsimp only at hSw
                first | (go_simp; done) | (go_simp; with_reducible rfl)
              simp only [Act.put, List.setIfInBounds_toArray, List.set_cons_zero, List.set_cons_succ, List.getElem_toArray, List.getElem_cons_zero, List.getElem_cons_succ]
              refine wpAnyH_take (i := 2) (v := ?_) rfl (by kernel_rfl) (by kernel_rfl) (by kernel_rfl) (fun _ _ _ h => h) (Or.inl ⟨by rfl, ?_⟩) hHeld ?_
              rotate_left 1
              · intro w hSw
                try dsimp only at hSw
                first | (go_simp; done) | (go_simp; with_reducible rfl)
              simp only [Act.put, List.setIfInBounds_toArray, List.set_cons_zero, List.set_cons_succ, List.getElem_toArray, List.getElem_cons_zero, List.getElem_cons_succ]
              refine wpAnyH_take (i := 3) (v := ?_) rfl (by kernel_rfl) (by kernel_rfl) (by kernel_rfl) (fun _ _ _ h => h) (Or.inl ⟨by rfl, ?_⟩) hHeld ?_
              rotate_left 1
              · intro w hSw
                try dsimp only at hSw
                first | (go_simp; done) | (go_simp; with_reducible rfl)
              simp only [Act.put, List.setIfInBounds_toArray, List.set_cons_zero, List.set_cons_succ, List.getElem_toArray, List.getElem_cons_zero, List.getElem_cons_succ]
              refine wpAnyH_take (i := 4) (v := ?_) rfl (by kernel_rfl) (by kernel_rfl) (by kernel_rfl) (fun _ _ _ h => h) (Or.inl ⟨by rfl, ?_⟩) hHeld ?_
              rotate_left 1
              · intro w hSw
                try dsimp only at hSw
                first | (go_simp; done) | (go_simp; with_reducible rfl)
              simp only [Act.put, List.setIfInBounds_toArray, List.set_cons_zero, List.set_cons_succ, List.getElem_toArray, List.getElem_cons_zero, List.getElem_cons_succ]
              refine wpAnyH_take (i := 5) (v := ?_) rfl (by kernel_rfl) (by kernel_rfl) (by kernel_rfl) (fun _ _ _ h => h) (Or.inl ⟨by rfl, ?_⟩) hHeld ?_
              rotate_left 1
              · intro w hSw
                try dsimp only at hSw
                first | (go_simp; done) | (go_simp; with_reducible rfl)
              simp only [Act.put, List.setIfInBounds_toArray, List.set_cons_zero, List.set_cons_succ, List.getElem_toArray, List.getElem_cons_zero, List.getElem_cons_succ]
              refine wpAnyH_take (i := 6) (v := ?_) rfl (by kernel_rfl) (by kernel_rfl) (by kernel_rfl) (fun _ _ _ h => h) (Or.inl ⟨by rfl, ?_⟩) hHeld ?_
              rotate_left 1
              · intro w hSw
                try dsimp only at hSw
                first | (go_simp; done) | (go_simp; with_reducible rfl)
              simp only [Act.put, List.setIfInBounds_toArray, List.set_cons_zero, List.set_cons_succ, List.getElem_toArray, List.getElem_cons_zero, List.getElem_cons_succ]
              refine wpAnyH_take (i := 7) (v := ?_) rfl (by kernel_rfl) (by kernel_rfl) (by kernel_rfl) (fun _ _ _ h => h) (Or.inl ⟨by rfl, ?_⟩) hHeld ?_
              rotate_left 1
              · intro w hSw
                try dsimp only at hSw
                first | (go_simp; done) | (go_simp; with_reducible rfl)
              simp only [Act.put, List.setIfInBounds_toArray, List.set_cons_zero, List.set_cons_succ, List.getElem_toArray, List.getElem_cons_zero, List.getElem_cons_succ]
              refine wpAnyH_take (i := 8) (v := ?_) rfl (by kernel_rfl) (by kernel_rfl) (by kernel_rfl) (fun _ _ _ h => h) (Or.inl ⟨by rfl, ?_⟩) hHeld ?_
              rotate_left 1
              · intro w hSw
                try dsimp only at hSw
                first | (go_simp; done) | (go_simp; with_reducible rfl)
              simp only [Act.put, List.setIfInBounds_toArray, List.set_cons_zero, List.set_cons_succ, List.getElem_toArray, List.getElem_cons_zero, List.getElem_cons_succ]
              refine wpAnyH_take (i := 9) (v := ?_) rfl (by kernel_rfl) (by kernel_rfl) (by kernel_rfl) (fun _ _ _ h => h) (Or.inl ⟨by rfl, ?_⟩) hHeld ?_
              rotate_left 1
              · intro w hSw
                try dsimp only at hSw
                first | (go_simp; done) | (go_simp; with_reducible rfl)
              simp only [Act.put, List.setIfInBounds_toArray, List.set_cons_zero, List.set_cons_succ, List.getElem_toArray, List.getElem_cons_zero, List.getElem_cons_succ]
              refine wpAnyH_take (i := 10) (v := ?_) rfl (by kernel_rfl) (by kernel_rfl) (by kernel_rfl) (fun _ _ _ h => h) (Or.inl ⟨by rfl, ?_⟩) hHeld ?_
              rotate_left 1
              · intro w hSw
                try dsimp only at hSw
                first | (go_simp; done) | (go_simp; with_reducible rfl)
              simp only [Act.put, List.setIfInBounds_toArray, List.set_cons_zero, List.set_cons_succ, List.getElem_toArray, List.getElem_cons_zero, List.getElem_cons_succ]
              refine wpAnyH_take (i := 11) (v := ?_) rfl (by kernel_rfl) (by kernel_rfl) (by kernel_rfl) (fun _ _ _ h => h) (Or.inl ⟨by rfl, ?_⟩) hHeld ?_
              rotate_left 1
              · intro w hSw
                try dsimp only at hSw
                first | (go_simp; done) | (go_simp; with_reducible rfl)
              simp only [Act.put, List.setIfInBounds_toArray, List.set_cons_zero, List.set_cons_succ, List.getElem_toArray, List.getElem_cons_zero, List.getElem_cons_succ]
              refine wpAnyH_take (i := 12) (v := ?_) rfl (by kernel_rfl) (by kernel_rfl) (by kernel_rfl) (fun _ _ _ h => h) (Or.inl ⟨by rfl, ?_⟩) hHeld ?_
              rotate_left 1
              · intro w hSw
                try dsimp only at hSw
                first | (go_simp; done) | (go_simp; with_reducible rfl)
              simp only [Act.put, List.setIfInBounds_toArray, List.set_cons_zero, List.set_cons_succ, List.getElem_toArray, List.getElem_cons_zero, List.getElem_cons_succ]
              refine wpAnyH_take (i := 13) (v := ?_) rfl (by kernel_rfl) (by kernel_rfl) (by kernel_rfl) (fun _ _ _ h => h) (Or.inl ⟨by rfl, ?_⟩) hHeld ?_
              rotate_left 1
              · intro w hSw
                try dsimp only at hSw
                first | (go_simp; done) | (go_simp; with_reducible rfl)
              simp only [Act.put, List.setIfInBounds_toArray, List.set_cons_zero, List.set_cons_succ, List.getElem_toArray, List.getElem_cons_zero, List.getElem_cons_succ]
              refine wpAnyH_ready (rs := [14]) (by kernel_rfl) (by simp) ?_
              refine (AllReadyH.cons rfl (fun KK hKK => ?_) AllReadyH.nil)
              refine step_allocB 35 [.int .i64 0, .int .i64 0, .int .i64 0, .int .i64 0, .int .i64 0, .bool false, .int .i64 0, .int .i64 0, .int .i64 0, .int .i64 0, .int .i64 0, .int .i64 0, .int .i64 0, .slice none 0 0, .int .i64 0] (fun _ => by kernel_rfl) ?_
              intro b3 W3 N3
              have ob3 : wr.heap.size ≤ b3 := Nat.le_trans B.size N3.ge
              have o0_b3 : b0 < b3 := Nat.lt_of_lt_of_le X0.lt N3.ge
              have o2_b3 : b2 < b3 := Nat.lt_of_lt_of_le X2.lt N3.ge
              replace e7' := cell_later N3.below e7'
              replace X0 := X0.below N3.below
              replace c0 := X0.cell
              replace X2 := X2.below N3.below
              replace c2 := X2.cell
              replace f2 := X2.froz
              replace B := below_next B N3.below
              have X3 := N3.bx
              have c3 := X3.cell
              have f3 := X3.froz
              clear N3
              clear hHeld
              refine hKK _ _ ⟨c0, c2, e7'⟩ (fun hHeld => ?_)
              clear hKK KK
              refine wpAnyH_ready (rs := [15]) (by kernel_rfl) (by simp) ?_
              refine (AllReadyH.cons rfl (fun KK hKK => ?_) AllReadyH.nil)
              refine step_midX 35 X3 0 [.int .i64 1, .int .i64 i, .int .i64 k, .int .i64 r.view, .int .i64 y, .bool false, .int .i64 0, .int .i64 0, .int .i64 0, .int .i64 0, .int .i64 0, .int .i64 0, .int .i64 0, .slice none 0 0, .int .i64 qt.commit] (by simp) (by kernel_rfl) (by simp [Value.oneCell']) rfl rfl ?_
              intro V6 S
              replace e7' := S.kept.cell e7' (by omega)
              replace X0 := X0.kept S.kept (by omega)
              replace c0 := X0.cell
              replace X2 := X2.kept S.kept (by omega)
              replace c2 := X2.cell
              replace f2 := X2.froz
              replace X3 : Bx V6 b3 [.int .i64 1, .int .i64 i, .int .i64 k, .int .i64 r.view, .int .i64 y, .bool false, .int .i64 0, .int .i64 0, .int .i64 0, .int .i64 0, .int .i64 0, .int .i64 0, .int .i64 0, .slice none 0 0, .int .i64 qt.commit] := S.bx
              replace c3 := X3.cell
              replace f3 := X3.froz
              replace B := B.trans (S.kept.below _ (by omega) B.size)
              clear S
              clear hHeld
              refine hKK _ _ ⟨c0, c2, e7'⟩ (fun hHeld => ?_)
              clear hKK KK
              refine wpAnyH_done (by kernel_rfl) ?_ _
              go_wp2_with fail
              go_meet
              exact ⟨b3, rfl, by omega, X3, B⟩
            case rest =>
              obtain ⟨b3, rfl, ob3, X3, B3⟩ := hcut
              rename World => wm
              replace X0 : Bx wm b0 [.int .i64 i, .int .i64 m, .int .i64 r.view, .bool true, .int .i64 r.last, .slice h.L.1 h.L.2.1 h.L.2.2, .int .i64 r.commit, .slice h.O.1 h.O.2.1 h.O.2.2, .slice h.A.1 h.A.2.1 h.A.2.2, .slice h.D.1 h.D.2.1 h.D.2.2] := HX0'.out.below B3
              replace c0 := X0.cell
              replace X2 := X2.below B3
              replace c2 := X2.cell
              replace f2 := X2.froz
              have c3 := X3.cell
              have f3 := X3.froz
              have lt3 := X3.lt
              have HXL2 : Hid _ := HXL.out.below B3
              clear HXL e7 eo
              have hwm := B3.size
              have lt2q := X2.lt
              by_cases hyl : y < h.L.2.1
              · have hyq : (y : Int) < (h.L.2.1 : Int) := by omega
                have HI2 : Hid _ := HI1.out k y hy hyl
                obtain ⟨bL, oL, eL, _, _, hbl, l0, l1, l2, l3, l4, l5, _⟩ := HXL2.out.six hyl
                have HX0b : Hid _ := X0
                rw [eL] at X0 c0
                have hbn : bL ≠ b3 := by
                  have hin := x.log.inB (k := sb h.L.1) ⟨by omega, rfl⟩
                  rw [eL] at hin
                  have e : sb (some (⟨bL, oL, none⟩ : Addr)) = bL := rfl
                  have := hbr.size
                  omega
                generalize hen : r.log.getD y en0 = en at *
                clear hen
                go_upto_region 21 with (first | ((with_reducible refine store_midX 33 X3 6 [.int .i64 en.1, .int .i64 en.2.1, .int .i64 en.2.2.1, .int .i64 en.2.2.2.1, .int .i64 en.2.2.2.2.1, .int .i64 en.2.2.2.2.2] (by simp) (by kernel_rfl) (by simp [Value.oneCell']) rfl rfl ?_); intro V4 S; replace X0 := X0.kept S.kept (by omega); replace c0 := X0.cell; replace X2 := X2.kept S.kept (by omega); replace c2 := X2.cell; replace f2 := X2.froz; replace X3 : Bx V4 b3 [.int .i64 1, .int .i64 i, .int .i64 k, .int .i64 r.view, .int .i64 y, .bool true, .int .i64 en.1, .int .i64 en.2.1, .int .i64 en.2.2.1, .int .i64 en.2.2.2.1, .int .i64 en.2.2.2.2.1, .int .i64 en.2.2.2.2.2, .int .i64 0, .slice none 0 0, .int .i64 qt.commit] := S.bx; replace c3 := X3.cell; replace f3 := X3.froz; have B5 := B4q.trans (S.kept.below _ ob3 B4q.size); clear S l0 l1 l2 l3 l4 l5) | ((with_reducible refine store_oneX 4 X3 5 (.bool true) (by simp) (by kernel_rfl) rfl rfl rfl ?_); intro V5 S; replace X0 := X0.kept S.kept (by omega); replace c0 := X0.cell; replace X2 := X2.kept S.kept (by omega); replace c2 := X2.cell; replace f2 := X2.froz; replace X3 : Bx V5 b3 [.int .i64 1, .int .i64 i, .int .i64 k, .int .i64 r.view, .int .i64 y, .bool true, .int .i64 0, .int .i64 0, .int .i64 0, .int .i64 0, .int .i64 0, .int .i64 0, .int .i64 0, .slice none 0 0, .int .i64 qt.commit] := S.bx; replace c3 := X3.cell; replace f3 := X3.froz; replace l0 := S.kept.cell l0 (by omega); replace l1 := S.kept.cell l1 (by omega); replace l2 := S.kept.cell l2 (by omega); replace l3 := S.kept.cell l3 (by omega); replace l4 := S.kept.cell l4 (by omega); replace l5 := S.kept.cell l5 (by omega); have B4q := B3.trans (S.kept.below _ ob3 B3.size); clear S) | fail)
                have hw5 := B5.size
                go_upto_region 15 with (first | ((with_reducible refine store_oneX 38 X2 11 (.slice sa ((othL i k).length + 1) sc) (by simp) (by kernel_rfl) rfl rfl rfl ?_); intro V7 S; have HX7 : Hid (Bx V7 b2 [.int .i64 0, .int .i64 qt.id, .int .i64 qt.size, .int .i64 qt.view, .bool qt.normal, .int .i64 qt.last, .slice h'.L.1 h'.L.2.1 h'.L.2.2, .int .i64 qt.commit, .slice h'.O.1 h'.O.2.1 h'.O.2.2, .slice h'.A.1 h'.A.2.1 h'.A.2.2, .slice h'.D.1 h'.D.2.1 h'.D.2.2, .slice (sa, (othL i k).length + 1, sc).1 (sa, (othL i k).length + 1, sc).2.1 (sa, (othL i k).length + 1, sc).2.2]) := S.bx; have HG7 : Hid _ := GrowAt.kept HG2.out S.kept (by omega); have HK7 : Hid (KeptS (fun q => q = b2 ∨ V8.heap.size ≤ q) V8 V7) := HKT.out.trans (S.kept.toS fun q q1 q2 => Or.inl (by omega)); have HS7 : Hid (V8.heap.size ≤ V7.heap.size) := Nat.le_trans HS4.out S.kept.size; clear S X0 X2 c0 c2 f2 HG2 HKT HS4) | (at_builtin; refine Lib.wpList_append_run _ rfl _ _ _ _ rfl _ _ rfl rfl _ _ (hr _) ?_; clear hr; replace X0 := Y0; clear Y0; replace c0 := X0.cell; replace X2 := Y2; clear Y2; replace c2 := X2.cell; replace f2 := X2.froz) | ((with_reducible refine lit_newX 38 1 _ [.int .i64 1, .int .i64 i, .int .i64 k, .int .i64 r.view, .int .i64 y, .bool true, .int .i64 en.1, .int .i64 en.2.1, .int .i64 en.2.2.1, .int .i64 en.2.2.2.1, .int .i64 en.2.2.2.2.1, .int .i64 en.2.2.2.2.2, .int .i64 0, .slice none 0 0, .int .i64 qt.commit] 35 (fun _ => by kernel_rfl) ?_); intro b4 W4 N4; replace X0 := X0.below N4.below; replace c0 := X0.cell; replace X2 := X2.below N4.below; replace c2 := X2.cell; have XM : Bx W4 b4 (mlV (none, 0, 0) (fT (k : Int))) := (by rw [HI2.out]; exact N4.bx); have B4 := B5.trans (N4.below.mono B5.size); have hw4 := N4.below.size; clear N4; obtain ⟨v', w4', hr, G2, KS, BB⟩ := sent_snoc (hd := (none, 0, 0)) (m := fT (k : Int)) (HG.out.below B4) XM (by rw [HFL.out]; exact RowAt.nilR _ _ _ _ _ _ _) (fun h0 => absurd rfl h0) (Nat.le_trans HLZ.out B4.size) (by simp; omega); obtain ⟨sa, sc, e9, _, _⟩ := owns_slice (GrowAt.own (G2 : GrowAt _ _ _ _ _ _ _ _ _)); rw [show (((othL i k).map fT) ++ [fT (k : Int)]).length = (othL i k).length + 1 by simp] at e9; subst e9; have HG2 : Hid (GrowAt _ _ _ _ _ _ _ _ _) := G2; have HKT : Hid (KeptS (fun q => q = b2 ∨ V8.heap.size ≤ q) V8 w4') := HKS.out.trans ((KeptS.below B4).trans (KS.mono fun q hq => Or.inr (HG.out.own.lt q hq).1)); have Y0 := X0.keptS KS (fun q => by have := (HG.out.own.lt _ q).1; omega); have Y2 := X2.keptS KS (fun q => by have := (HG.out.own.lt _ q).1; omega); have HS4 : Hid (V8.heap.size ≤ w4'.heap.size) := Nat.le_trans HLZ.out (Nat.le_trans B4.size KS.size); clear G2 KS BB XM B4) | fail)
                have G3 : Hid (SentAt V7 V8.heap.size (.slice sa ((othL i k).length + 1) sc) (fun j => if j = (othL i k).length then (none, 0, 0) else Km j) ((othL i (k + 1)).map fT)) := by show SentAt _ _ _ _ _; rw [HO2.out, List.map_append]; have := HG7.out; rw [show ((othL i k).map fT).length = (othL i k).length by simp] at this; exact this
                have NK2 : Hid (NilK (fun j => if j = (othL i k).length then ((none : Option Addr), 0, 0) else Km j) (othL i (k + 1)).length) := fun j hj => by
                  rw [HO2.out, List.length_append] at hj
                  by_cases e : j = (othL i k).length
                  · simp [e]
                  · simp only [if_neg e]; exact HNK.out j (by simp at hj; omega)
                have e8 : Hid ((othL i k).length + 1 = (othL i (k + 1)).length) := by show _ = _; rw [HO2.out, List.length_append]; rfl
                go_wp2
                go_roundw
                case rel => first | exact ⟨k + 1, (sa, (othL i k).length + 1, sc), (fun j => if j = (othL i k).length then (none, 0, 0) else Km j), by omega, by go_num, HX7.out, G3.out, e8.out, NK2.out, HS7.out, HK7.out⟩ | exact ⟨k + 1, by omega, by go_num, (sa, (othL i k).length + 1, sc), HX7.out, (fun j => if j = (othL i k).length then (none, 0, 0) else Km j), G3.out, e8.out, NK2.out, HS7.out, HK7.out⟩ | exact ⟨k + 1, by omega, by go_num, (sa, (othL i k).length + 1, sc), (fun j => if j = (othL i k).length then (none, 0, 0) else Km j), HX7.out, G3.out, e8.out, NK2.out, HS7.out, HK7.out⟩
                case measure => simp [intOf]; omega
              · have hyq : ¬ (y : Int) < (h.L.2.1 : Int) := by omega
                have HI2 : Hid _ := HI0.out k y hy hyl
                have B5 := B3
                have hw5 := B5.size
                go_upto_region 15 with (first | ((with_reducible refine store_oneX 38 X2 11 (.slice sa ((othL i k).length + 1) sc) (by simp) (by kernel_rfl) rfl rfl rfl ?_); intro V7 S; have HX7 : Hid (Bx V7 b2 [.int .i64 0, .int .i64 qt.id, .int .i64 qt.size, .int .i64 qt.view, .bool qt.normal, .int .i64 qt.last, .slice h'.L.1 h'.L.2.1 h'.L.2.2, .int .i64 qt.commit, .slice h'.O.1 h'.O.2.1 h'.O.2.2, .slice h'.A.1 h'.A.2.1 h'.A.2.2, .slice h'.D.1 h'.D.2.1 h'.D.2.2, .slice (sa, (othL i k).length + 1, sc).1 (sa, (othL i k).length + 1, sc).2.1 (sa, (othL i k).length + 1, sc).2.2]) := S.bx; have HG7 : Hid _ := GrowAt.kept HG2.out S.kept (by omega); have HK7 : Hid (KeptS (fun q => q = b2 ∨ V8.heap.size ≤ q) V8 V7) := HKT.out.trans (S.kept.toS fun q q1 q2 => Or.inl (by omega)); have HS7 : Hid (V8.heap.size ≤ V7.heap.size) := Nat.le_trans HS4.out S.kept.size; clear S X0 X2 c0 c2 f2 HG2 HKT HS4) | (at_builtin; refine Lib.wpList_append_run _ rfl _ _ _ _ rfl _ _ rfl rfl _ _ (hr _) ?_; clear hr; replace X0 := Y0; clear Y0; replace c0 := X0.cell; replace X2 := Y2; clear Y2; replace c2 := X2.cell; replace f2 := X2.froz) | ((with_reducible refine lit_newX 38 1 _ [.int .i64 1, .int .i64 i, .int .i64 k, .int .i64 r.view, .int .i64 y, .bool false, .int .i64 0, .int .i64 0, .int .i64 0, .int .i64 0, .int .i64 0, .int .i64 0, .int .i64 0, .slice none 0 0, .int .i64 qt.commit] 35 (fun _ => by kernel_rfl) ?_); intro b4 W4 N4; replace X0 := X0.below N4.below; replace c0 := X0.cell; replace X2 := X2.below N4.below; replace c2 := X2.cell; have XM : Bx W4 b4 (mlV (none, 0, 0) (fT (k : Int))) := (by rw [HI2.out]; exact N4.bx); have B4 := B5.trans (N4.below.mono B5.size); have hw4 := N4.below.size; clear N4; obtain ⟨v', w4', hr, G2, KS, BB⟩ := sent_snoc (hd := (none, 0, 0)) (m := fT (k : Int)) (HG.out.below B4) XM (by rw [HFL.out]; exact RowAt.nilR _ _ _ _ _ _ _) (fun h0 => absurd rfl h0) (Nat.le_trans HLZ.out B4.size) (by simp; omega); obtain ⟨sa, sc, e9, _, _⟩ := owns_slice (GrowAt.own (G2 : GrowAt _ _ _ _ _ _ _ _ _)); rw [show (((othL i k).map fT) ++ [fT (k : Int)]).length = (othL i k).length + 1 by simp] at e9; subst e9; have HG2 : Hid (GrowAt _ _ _ _ _ _ _ _ _) := G2; have HKT : Hid (KeptS (fun q => q = b2 ∨ V8.heap.size ≤ q) V8 w4') := HKS.out.trans ((KeptS.below B4).trans (KS.mono fun q hq => Or.inr (HG.out.own.lt q hq).1)); have Y0 := X0.keptS KS (fun q => by have := (HG.out.own.lt _ q).1; omega); have Y2 := X2.keptS KS (fun q => by have := (HG.out.own.lt _ q).1; omega); have HS4 : Hid (V8.heap.size ≤ w4'.heap.size) := Nat.le_trans HLZ.out (Nat.le_trans B4.size KS.size); clear G2 KS BB XM B4) | fail)
                have G3 : Hid (SentAt V7 V8.heap.size (.slice sa ((othL i k).length + 1) sc) (fun j => if j = (othL i k).length then (none, 0, 0) else Km j) ((othL i (k + 1)).map fT)) := by show SentAt _ _ _ _ _; rw [HO2.out, List.map_append]; have := HG7.out; rw [show ((othL i k).map fT).length = (othL i k).length by simp] at this; exact this
                have NK2 : Hid (NilK (fun j => if j = (othL i k).length then ((none : Option Addr), 0, 0) else Km j) (othL i (k + 1)).length) := fun j hj => by
                  rw [HO2.out, List.length_append] at hj
                  by_cases e : j = (othL i k).length
                  · simp [e]
                  · simp only [if_neg e]; exact HNK.out j (by simp at hj; omega)
                have e8 : Hid ((othL i k).length + 1 = (othL i (k + 1)).length) := by show _ = _; rw [HO2.out, List.length_append]; rfl
                go_wp2
                go_roundw
                case rel => first | exact ⟨k + 1, (sa, (othL i k).length + 1, sc), (fun j => if j = (othL i k).length then (none, 0, 0) else Km j), by omega, by go_num, HX7.out, G3.out, e8.out, NK2.out, HS7.out, HK7.out⟩ | exact ⟨k + 1, by omega, by go_num, (sa, (othL i k).length + 1, sc), HX7.out, (fun j => if j = (othL i k).length then (none, 0, 0) else Km j), G3.out, e8.out, NK2.out, HS7.out, HK7.out⟩ | exact ⟨k + 1, by omega, by go_num, (sa, (othL i k).length + 1, sc), (fun j => if j = (othL i k).length then (none, 0, 0) else Km j), HX7.out, G3.out, e8.out, NK2.out, HS7.out, HK7.out⟩
                case measure => simp [intOf]; omega
        · obtain rfl : k = m := by omega
          have X1 := HX1.out.keptS KS (by omega)
          have c1 := X1.cell
          have f1 := X1.froz
          have RQ := HRQ.out.keptS KS (fun q hq hs => hs.elim (fun e => by have := HRQ.out.inB hq; omega) (fun e => by have := HRQ.out.inB hq; omega))
          have B : Below w.heap.size w wr := HB8.out.trans (KS.low _ (fun q hq => hq.elim (fun e => by omega) (fun e => Nat.le_trans HB8.out.size e)) HB8.out.size)
          clear KS HX0 HX1
          have AN : AnsAt wr true z0 wr.heap.size h' s Km qt ((othL i k).map fT) := ans_of RQ G hR8 (Nat.le_trans hR8 LZ) (by omega) rfl
          have hAN : wr.heap.size ≤ wr.heap.size := Nat.le_refl _
          have hol := othL_len i k
          have AZ : ASz h' s Km 1048576 := ⟨HZ, by omega, fun j hj => by rw [NK j (by omega)]; exact Nat.zero_le _⟩
          have EM := HTM.out
          rw [← EM] at AN
          clear G NK hsk RQ hol EM
          go_wp2_with (first | ((with_reducible refine store_midX 40 X1 0 [.int .i64 0, .int .i64 qt.id, .int .i64 qt.size, .int .i64 qt.view, .bool qt.normal, .int .i64 qt.last, .slice h'.L.1 h'.L.2.1 h'.L.2.2, .int .i64 qt.commit, .slice h'.O.1 h'.O.2.1 h'.O.2.2, .slice h'.A.1 h'.A.2.1 h'.A.2.2, .slice h'.D.1 h'.D.2.1 h'.D.2.2, .slice s.1 s.2.1 s.2.2] (by simp) (by kernel_rfl) (by simp [Value.oneCell']) rfl rfl ?_); intro V31 S; replace X0 := X0.kept S.kept (by omega); replace c0 := X0.cell; replace X1 : Bx V31 b1 [.int .i64 0, .int .i64 qt.id, .int .i64 qt.size, .int .i64 qt.view, .bool qt.normal, .int .i64 qt.last, .slice h'.L.1 h'.L.2.1 h'.L.2.2, .int .i64 qt.commit, .slice h'.O.1 h'.O.2.1 h'.O.2.2, .slice h'.A.1 h'.A.2.1 h'.A.2.2, .slice h'.D.1 h'.D.2.1 h'.D.2.2, .slice s.1 s.2.1 s.2.2] := S.bx; replace c1 := X1.cell; replace f1 := X1.froz; replace X2 := X2.kept S.kept (by omega); replace c2 := X2.cell; replace f2 := X2.froz; replace AN := AN.kept S.kept (by omega); replace hAN := Nat.le_trans hAN S.kept.size; replace B := B.trans (S.kept.below _ (by omega) B.size); clear S))
          have EQ := HE3.out
          have EM := HE4.out
          subst EQ
          subst EM
          exact bodyPost_ret (v := .agg #[.int .i64 0, .int .i64 qt.id, .int .i64 qt.size, .int .i64 qt.view, .bool qt.normal, .int .i64 qt.last, .slice h'.L.1 h'.L.2.1 h'.L.2.2, .int .i64 qt.commit, .slice h'.O.1 h'.O.2.1 h'.O.2.2, .slice h'.A.1 h'.A.2.1 h'.A.2.2, .slice h'.D.1 h'.D.2.1 h'.D.2.2, .slice s.1 s.2.1 s.2.2]) (by simp [results, Tryz.results23, go_sem, *]) rfl ⟨_, _, h', s, Km, rfl, B9, hAN, AN.ro, AZ, B⟩

end Go.Proofs.YtcefhlkbbipmmaaGreat

/- At every replica the program's BeatReplica answers as its model does, field by field, writes into no argument, and its answer owns its memory: the law FnExactBeatReplica is true at every argument, with no condition. -/
namespace Go.Proofs.YtcefhlkbbipmmaaGreat
open Go.RowKit

set_option maxRecDepth 20000 in
set_option maxHeartbeats 16000000 in
theorem lawBeatReplica {own : Bool} (r : Rep) (h : RH) (w : World) (x : RepAt w own 0 w.heap.size h r) (hs : RSz h maxLen) : Calls Tryz.prog 7 #[.agg #[.int .i64 r.id, .int .i64 r.size, .int .i64 r.view, .bool r.normal, .int .i64 r.last, .slice h.L.1 h.L.2.1 h.L.2.2, .int .i64 r.commit, .slice h.O.1 h.O.2.1 h.O.2.2, .slice h.A.1 h.A.2.1 h.A.2.2, .slice h.D.1 h.D.2.1 h.D.2.2]] w fun e w' => e = .returned (.bool true) ∧ Below w.heap.size w w' := by
  obtain ⟨c, hc⟩ : ∃ c, repF r = c := ⟨_, rfl⟩
  obtain ⟨qr, hq⟩ : ∃ qr, beQ r = qr := ⟨_, rfl⟩
  obtain ⟨ms, hms⟩ : ∃ ms, beMs r = ms := ⟨_, rfl⟩
  have HS1 : Hid (∀ {own : Bool} {lo hi : Nat} (h : RH) (w : World), RepAt w own lo hi h r → RSz h 1048576 → Calls Tryz.prog 23 #[.agg #[.int .i64 r.id, .int .i64 r.size, .int .i64 r.view, .bool r.normal, .int .i64 r.last, .slice h.L.1 h.L.2.1 h.L.2.2, .int .i64 r.commit, .slice h.O.1 h.O.2.1 h.O.2.2, .slice h.A.1 h.A.2.1 h.A.2.2, .slice h.D.1 h.D.2.1 h.D.2.2]] w fun e w' => NodeRes w w' e c qr ms) := fun h w y z => specBeat_is r h w y z c qr ms hc hq hms
  have HI1 : Hid (∀ {own : Bool} {lo hi : Nat} (h : RH) (w : World), RepAt w own lo hi h r → RSz h 1048576 → Calls Tryz.prog 20 #[.agg #[.int .i64 r.id, .int .i64 r.size, .int .i64 r.view, .bool r.normal, .int .i64 r.last, .slice h.L.1 h.L.2.1 h.L.2.2, .int .i64 r.commit, .slice h.O.1 h.O.2.1 h.O.2.2, .slice h.A.1 h.A.2.1 h.A.2.2, .slice h.D.1 h.D.2.1 h.D.2.2]] w fun e w' => NodeAns w w' e c qr ms) := fun h w y z => implBeat_is r h w y z c qr ms hc hq hms
  clear hc hq hms
  go_enter Tryz.func7, Tryz.ntmps7
  go_wp2_with (first | ((with_reducible refine box_newX 54 [.int .i64 r.id, .int .i64 r.size, .int .i64 r.view, .bool r.normal, .int .i64 r.last, .slice h.L.1 h.L.2.1 h.L.2.2, .int .i64 r.commit, .slice h.O.1 h.O.2.1 h.O.2.2, .slice h.A.1 h.A.2.1 h.A.2.2, .slice h.D.1 h.D.2.1 h.D.2.2] rfl ?_); intro b0 W0 N0; have ob0 : w.heap.size ≤ b0 := N0.ge; have B := N0.below; have X0 := N0.bx; have c0 := X0.cell; clear N0) | fail)
  refine (szReplica_left r h _ (x.below B) hs).mono ?_
  rintro e w1 ⟨q, rfl, BB, hq⟩
  replace X0 := X0.below BB
  replace c0 := X0.cell
  replace B := below_next B BB
  clear BB
  rcases hq with hq | ⟨hq0, hq1, HZ⟩
  · go_wp2
    go_ret
    exact ⟨rfl, B⟩
  have hq' : ¬ q < 0 := by omega
  clear hq0 hq1
  go_wp2_with fail
  refine (toReplica_any r h _ (x.below B) HZ).mono ?_
  rintro e w2 ⟨k1, rfl, y1, z1, BB⟩
  replace X0 := X0.below BB
  replace c0 := X0.cell
  replace B := below_next B BB
  clear BB
  go_wp2_with fail
  refine (HS1.out k1 _ y1 z1).mono ?_
  rintro e w3 ⟨zS, uS, hS, sS, KS, rfl, GzS, hAS, AS, ZS, BB⟩
  have ozS : w.heap.size ≤ zS := Nat.le_trans B.size GzS
  have o0_zS : b0 < zS := Nat.lt_of_lt_of_le X0.lt GzS
  clear GzS
  replace X0 := X0.below BB
  replace c0 := X0.cell
  replace B := below_next B BB
  clear BB
  clear y1 z1
  go_wp2_with (first | ((with_reducible refine store_midX 40 X1 0 [.int .i64 c, .int .i64 qr.id, .int .i64 qr.size, .int .i64 qr.view, .bool qr.normal, .int .i64 qr.last, .slice hS.L.1 hS.L.2.1 hS.L.2.2, .int .i64 qr.commit, .slice hS.O.1 hS.O.2.1 hS.O.2.2, .slice hS.A.1 hS.A.2.1 hS.A.2.2, .slice hS.D.1 hS.D.2.1 hS.D.2.2, .slice sS.1 sS.2.1 sS.2.2] (by simp) (by kernel_rfl) (by simp [Value.oneCell']) rfl rfl ?_); intro V1 S; replace X0 := X0.kept S.kept (by omega); replace c0 := X0.cell; replace X1 : Bx V1 b1 [.int .i64 c, .int .i64 qr.id, .int .i64 qr.size, .int .i64 qr.view, .bool qr.normal, .int .i64 qr.last, .slice hS.L.1 hS.L.2.1 hS.L.2.2, .int .i64 qr.commit, .slice hS.O.1 hS.O.2.1 hS.O.2.2, .slice hS.A.1 hS.A.2.1 hS.A.2.2, .slice hS.D.1 hS.D.2.1 hS.D.2.2, .slice sS.1 sS.2.1 sS.2.2] := S.bx; replace c1 := X1.cell; replace f1 := X1.froz; replace AS := AS.kept S.kept (by omega); replace hAS := Nat.le_trans hAS S.kept.size; replace B := B.trans (S.kept.below _ (by omega) B.size); clear S) | ((have g := ob0); clear g; (with_reducible refine alloc_newX 40 [.int .i64 0, .int .i64 0, .int .i64 0, .int .i64 0, .bool false, .int .i64 0, .slice none 0 0, .int .i64 0, .slice none 0 0, .slice none 0 0, .slice none 0 0, .slice none 0 0] (fun _ => by kernel_rfl) ?_); intro b1 W1 N1; have ob1 : w.heap.size ≤ b1 := Nat.le_trans B.size N1.ge; have o0_b1 : b0 < b1 := Nat.lt_of_lt_of_le X0.lt N1.ge; have oAS_b1 : uS ≤ b1 := Nat.le_trans hAS N1.ge; replace X0 := X0.below N1.below; replace c0 := X0.cell; replace AS := AS.below N1.below; replace hAS := Nat.le_trans hAS N1.below.size; replace B := below_next B N1.below; have X1 := N1.bx; have c1 := X1.cell; have f1 := X1.froz; clear N1) | fail)
  refine (toReplica_z r h _ (x.below B) HZ).mono ?_
  rintro e w4 ⟨zY, uY, k2, rfl, GzY, hy2, y2, z2, BB⟩
  have ozY : w.heap.size ≤ zY := Nat.le_trans B.size GzY
  have o0_zY : b0 < zY := Nat.lt_of_lt_of_le X0.lt GzY
  have o1_zY : b1 < zY := Nat.lt_of_lt_of_le X1.lt GzY
  have oAS_zY : uS ≤ zY := Nat.le_trans hAS GzY
  clear GzY
  replace X0 := X0.below BB
  replace c0 := X0.cell
  replace X1 := X1.below BB
  replace c1 := X1.cell
  replace f1 := X1.froz
  replace AS := AS.below BB
  replace hAS := Nat.le_trans hAS BB.size
  replace B := below_next B BB
  clear BB
  go_wp2_with (first | ((with_reducible refine store_midX 29 X2 0 [.int .i64 r.id, .int .i64 r.size, .int .i64 r.view, .bool r.normal, .int .i64 r.last, .slice k2.L.1 k2.L.2.1 k2.L.2.2, .int .i64 r.commit, .slice k2.O.1 k2.O.2.1 k2.O.2.2, .slice k2.A.1 k2.A.2.1 k2.A.2.2, .slice k2.D.1 k2.D.2.1 k2.D.2.2] (by simp) (by kernel_rfl) (by simp [Value.oneCell']) rfl rfl ?_); intro V2 S; replace X0 := X0.kept S.kept (by omega); replace c0 := X0.cell; replace X1 := X1.kept S.kept (by omega); replace c1 := X1.cell; replace f1 := X1.froz; replace X2 : Bx V2 b2 [.int .i64 r.id, .int .i64 r.size, .int .i64 r.view, .bool r.normal, .int .i64 r.last, .slice k2.L.1 k2.L.2.1 k2.L.2.2, .int .i64 r.commit, .slice k2.O.1 k2.O.2.1 k2.O.2.2, .slice k2.A.1 k2.A.2.1 k2.A.2.2, .slice k2.D.1 k2.D.2.1 k2.D.2.2] := S.bx; replace c2 := X2.cell; replace f2 := X2.froz; replace AS := AS.kept S.kept (by omega); replace hAS := Nat.le_trans hAS S.kept.size; replace y2 := y2.kept S.kept (by omega); replace hy2 := Nat.le_trans hy2 S.kept.size; replace B := B.trans (S.kept.below _ (by omega) B.size); clear S) | ((have g := ob1); clear g; (with_reducible refine alloc_newX 29 [.int .i64 0, .int .i64 0, .int .i64 0, .bool false, .int .i64 0, .slice none 0 0, .int .i64 0, .slice none 0 0, .slice none 0 0, .slice none 0 0] (fun _ => by kernel_rfl) ?_); intro b2 W2 N2; have ob2 : w.heap.size ≤ b2 := Nat.le_trans B.size N2.ge; have o0_b2 : b0 < b2 := Nat.lt_of_lt_of_le X0.lt N2.ge; have o1_b2 : b1 < b2 := Nat.lt_of_lt_of_le X1.lt N2.ge; have oAS_b2 : uS ≤ b2 := Nat.le_trans hAS N2.ge; have oy2_b2 : uY ≤ b2 := Nat.le_trans hy2 N2.ge; replace X0 := X0.below N2.below; replace c0 := X0.cell; replace X1 := X1.below N2.below; replace c1 := X1.cell; replace f1 := X1.froz; replace AS := AS.below N2.below; replace hAS := Nat.le_trans hAS N2.below.size; replace y2 := y2.below N2.below; replace hy2 := Nat.le_trans hy2 N2.below.size; replace B := below_next B N2.below; have X2 := N2.bx; have c2 := X2.cell; have f2 := X2.froz; clear N2) | fail)
  refine (HI1.out k2 _ y2 z2).mono ?_
  rintro e w5 ⟨zA, uA, hA, sA, KA, rfl, GzA, hAA, AA, ZA, BB⟩
  have ozA : w.heap.size ≤ zA := Nat.le_trans B.size GzA
  have o0_zA : b0 < zA := Nat.lt_of_lt_of_le X0.lt GzA
  have o1_zA : b1 < zA := Nat.lt_of_lt_of_le X1.lt GzA
  have o2_zA : b2 < zA := Nat.lt_of_lt_of_le X2.lt GzA
  have oAS_zA : uS ≤ zA := Nat.le_trans hAS GzA
  have oy2_zA : uY ≤ zA := Nat.le_trans hy2 GzA
  clear GzA
  replace X0 := X0.below BB
  replace c0 := X0.cell
  replace X1 := X1.below BB
  replace c1 := X1.cell
  replace f1 := X1.froz
  replace X2 := X2.below BB
  replace c2 := X2.cell
  replace f2 := X2.froz
  replace AS := AS.below BB
  replace hAS := Nat.le_trans hAS BB.size
  replace y2 := y2.below BB
  replace hy2 := Nat.le_trans hy2 BB.size
  replace B := below_next B BB
  clear BB
  go_wp2_with (first | ((with_reducible refine store_midX 40 X3 0 [.int .i64 c, .int .i64 qr.id, .int .i64 qr.size, .int .i64 qr.view, .bool qr.normal, .int .i64 qr.last, .slice hA.L.1 hA.L.2.1 hA.L.2.2, .int .i64 qr.commit, .slice hA.O.1 hA.O.2.1 hA.O.2.2, .slice hA.A.1 hA.A.2.1 hA.A.2.2, .slice hA.D.1 hA.D.2.1 hA.D.2.2, .slice sA.1 sA.2.1 sA.2.2] (by simp) (by kernel_rfl) (by simp [Value.oneCell']) rfl rfl ?_); intro V3 S; replace X0 := X0.kept S.kept (by omega); replace c0 := X0.cell; replace X1 := X1.kept S.kept (by omega); replace c1 := X1.cell; replace f1 := X1.froz; replace X2 := X2.kept S.kept (by omega); replace c2 := X2.cell; replace f2 := X2.froz; replace X3 : Bx V3 b3 [.int .i64 c, .int .i64 qr.id, .int .i64 qr.size, .int .i64 qr.view, .bool qr.normal, .int .i64 qr.last, .slice hA.L.1 hA.L.2.1 hA.L.2.2, .int .i64 qr.commit, .slice hA.O.1 hA.O.2.1 hA.O.2.2, .slice hA.A.1 hA.A.2.1 hA.A.2.2, .slice hA.D.1 hA.D.2.1 hA.D.2.2, .slice sA.1 sA.2.1 sA.2.2] := S.bx; replace c3 := X3.cell; replace f3 := X3.froz; replace AS := AS.kept S.kept (by omega); replace hAS := Nat.le_trans hAS S.kept.size; replace y2 := y2.kept S.kept (by omega); replace hy2 := Nat.le_trans hy2 S.kept.size; replace AA := AA.kept S.kept (by omega); replace hAA := Nat.le_trans hAA S.kept.size; replace B := B.trans (S.kept.below _ (by omega) B.size); clear S) | ((have g := ob2); clear g; (with_reducible refine alloc_newX 40 [.int .i64 0, .int .i64 0, .int .i64 0, .int .i64 0, .bool false, .int .i64 0, .slice none 0 0, .int .i64 0, .slice none 0 0, .slice none 0 0, .slice none 0 0, .slice none 0 0] (fun _ => by kernel_rfl) ?_); intro b3 W3 N3; have ob3 : w.heap.size ≤ b3 := Nat.le_trans B.size N3.ge; have o0_b3 : b0 < b3 := Nat.lt_of_lt_of_le X0.lt N3.ge; have o1_b3 : b1 < b3 := Nat.lt_of_lt_of_le X1.lt N3.ge; have o2_b3 : b2 < b3 := Nat.lt_of_lt_of_le X2.lt N3.ge; have oAS_b3 : uS ≤ b3 := Nat.le_trans hAS N3.ge; have oy2_b3 : uY ≤ b3 := Nat.le_trans hy2 N3.ge; have oAA_b3 : uA ≤ b3 := Nat.le_trans hAA N3.ge; replace X0 := X0.below N3.below; replace c0 := X0.cell; replace X1 := X1.below N3.below; replace c1 := X1.cell; replace f1 := X1.froz; replace X2 := X2.below N3.below; replace c2 := X2.cell; replace f2 := X2.froz; replace AS := AS.below N3.below; replace hAS := Nat.le_trans hAS N3.below.size; replace y2 := y2.below N3.below; replace hy2 := Nat.le_trans hy2 N3.below.size; replace AA := AA.below N3.below; replace hAA := Nat.le_trans hAA N3.below.size; replace B := below_next B N3.below; have X3 := N3.bx; have c3 := X3.cell; have f3 := X3.froz; clear N3) | fail)
  refine (eqRR_yes c qr ms hA hS sA sS KA KS _ AA AS (ZA.mono (by omega))).mono ?_
  rintro e w6 ⟨rfl, BB⟩
  replace X0 := X0.below BB
  replace c0 := X0.cell
  replace X1 := X1.below BB
  replace c1 := X1.cell
  replace f1 := X1.froz
  replace X2 := X2.below BB
  replace c2 := X2.cell
  replace f2 := X2.froz
  replace X3 := X3.below BB
  replace c3 := X3.cell
  replace f3 := X3.froz
  replace AS := AS.below BB
  replace hAS := Nat.le_trans hAS BB.size
  replace y2 := y2.below BB
  replace hy2 := Nat.le_trans hy2 BB.size
  replace AA := AA.below BB
  replace hAA := Nat.le_trans hAA BB.size
  replace B := below_next B BB
  clear BB
  go_wp2_with fail
  have DQ : Below w6.heap.size w6 w6.drew := (Below.refl _ _).drew
  replace X0 := X0.below DQ
  replace c0 := X0.cell
  replace X1 := X1.below DQ
  replace c1 := X1.cell
  replace f1 := X1.froz
  replace X2 := X2.below DQ
  replace c2 := X2.cell
  replace f2 := X2.froz
  replace X3 := X3.below DQ
  replace c3 := X3.cell
  replace f3 := X3.froz
  replace AS := AS.below DQ
  replace hAS := Nat.le_trans hAS DQ.size
  replace y2 := y2.below DQ
  replace hy2 := Nat.le_trans hy2 DQ.size
  replace AA := AA.below DQ
  replace hAA := Nat.le_trans hAA DQ.size
  replace B := below_next B DQ
  clear DQ
  refine wp_region_held_drew (S := (fun w' => (∀ k : Nat, w'.cell? ⟨b0, k, none⟩ = [.int .i64 r.id, .int .i64 r.size, .int .i64 r.view, .bool r.normal, .int .i64 r.last, .slice h.L.1 h.L.2.1 h.L.2.2, .int .i64 r.commit, .slice h.O.1 h.O.2.1 h.O.2.2, .slice h.A.1 h.A.2.1 h.A.2.2, .slice h.D.1 h.D.2.1 h.D.2.2][k]?) ∧ (∀ k : Nat, w'.cell? ⟨b2, k, none⟩ = [.int .i64 r.id, .int .i64 r.size, .int .i64 r.view, .bool r.normal, .int .i64 r.last, .slice k2.L.1 k2.L.2.1 k2.L.2.2, .int .i64 r.commit, .slice k2.O.1 k2.O.2.1 k2.O.2.2, .slice k2.A.1 k2.A.2.1 k2.A.2.2, .slice k2.D.1 k2.D.2.1 k2.D.2.2][k]?))) (by kernel_rfl) ⟨c0, c2⟩ (fun hHeld => ?_)
  refine wpAnyH_take (i := 0) (v := ?_) rfl (by kernel_rfl) (by kernel_rfl) (by kernel_rfl) (fun _ _ _ h => h) (Or.inl ⟨by rfl, ?_⟩) hHeld ?_
  rotate_left 1
  · intro w hSw
    try dsimp only at hSw
    first | (go_simp; done) | (go_simp; with_reducible rfl)
  simp only [Act.put, List.setIfInBounds_toArray, List.set_cons_zero, List.set_cons_succ, List.getElem_toArray, List.getElem_cons_zero]
  refine wpAnyH_take (i := 1) (v := ?_) rfl (by kernel_rfl) (by kernel_rfl) (by kernel_rfl) (fun _ _ _ h => h) (Or.inl ⟨by rfl, ?_⟩) hHeld ?_
  rotate_left 1
  · intro w hSw
    try dsimp only at hSw
    first | (go_simp; done) | (go_simp; with_reducible rfl)
  simp only [Act.put, List.setIfInBounds_toArray, List.set_cons_zero, List.set_cons_succ, List.getElem_toArray, List.getElem_cons_zero, List.getElem_cons_succ]
  refine wpAnyH_ready (rs := [2]) (by kernel_rfl) (by simp) ?_
  refine AllReadyH.cons rfl (fun KK hKK => ?_) AllReadyH.nil
  go_simp
  go_at_call 28
  refine (toReplica_any r h _ (x.below B) HZ).mono ?_
  rintro e v1 ⟨k9, rfl, y9, z9, BB⟩
  replace X0 := X0.below BB
  replace c0 := X0.cell
  replace X1 := X1.below BB
  replace c1 := X1.cell
  replace f1 := X1.froz
  replace X2 := X2.below BB
  replace c2 := X2.cell
  replace f2 := X2.froz
  replace X3 := X3.below BB
  replace c3 := X3.cell
  replace f3 := X3.froz
  replace AS := AS.below BB
  replace hAS := Nat.le_trans hAS BB.size
  replace y2 := y2.below BB
  replace hy2 := Nat.le_trans hy2 BB.size
  replace AA := AA.below BB
  replace hAA := Nat.le_trans hAA BB.size
  replace B := below_next B BB
  clear BB
  clear hHeld
  refine hKK _ _ ⟨c0, c2⟩ (fun hHeld => ?_)
  clear hKK KK
  refine wpAnyH_ready (rs := [3]) (by kernel_rfl) (by simp) ?_
  refine AllReadyH.cons rfl (fun KK hKK => ?_) AllReadyH.nil
  go_simp
  go_at_call 32
  refine (eqReplica_yes r k2 k9 _ y2 y9 (z2.mono (by omega))).mono ?_
  rintro e v2 ⟨rfl, BB⟩
  replace X0 := X0.below BB
  replace c0 := X0.cell
  replace X1 := X1.below BB
  replace c1 := X1.cell
  replace f1 := X1.froz
  replace X2 := X2.below BB
  replace c2 := X2.cell
  replace f2 := X2.froz
  replace X3 := X3.below BB
  replace c3 := X3.cell
  replace f3 := X3.froz
  replace AS := AS.below BB
  replace hAS := Nat.le_trans hAS BB.size
  replace y2 := y2.below BB
  replace hy2 := Nat.le_trans hy2 BB.size
  replace AA := AA.below BB
  replace hAA := Nat.le_trans hAA BB.size
  replace B := below_next B BB
  clear BB
  clear hHeld
  refine hKK _ _ ⟨c0, c2⟩ (fun hHeld => ?_)
  clear hKK KK
  refine wpAnyH_take (i := 4) (v := ?_) rfl (by kernel_rfl) (by kernel_rfl) (by kernel_rfl) (fun _ _ _ h => h) (Or.inl ⟨by rfl, ?_⟩) hHeld ?_
  rotate_left 1
  · intro w hSw
    try dsimp only at hSw
    first | (go_simp; done) | (go_simp; with_reducible rfl)
  simp only [Act.put, List.setIfInBounds_toArray, List.set_cons_zero, List.set_cons_succ, List.getElem_toArray, List.getElem_cons_zero, List.getElem_cons_succ]
  refine wpAnyH_done (by kernel_rfl) ?_ _
  have nY : ¬ mkEnd k2 1 < 0 := by have := (mkEnd_in (k := 1) (by omega) z2).1; omega
  go_wp2_with fail
  have HIN : Hid (∀ q, inRep k2 q → zY ≤ q ∧ q < uY) := fun q hq => ⟨(y2.inB hq).1, (y2.inB hq).2.1⟩
  refine (markReplica_any r k2 1 _ y2 z2 (by omega)).mono ?_
  rintro e w7 ⟨rfl, _, KSY⟩
  have KK : Kept zY uY _ w7 := KSY.kept HIN.out
  clear KSY HIN
  replace X0 := X0.kept KK (by omega)
  replace c0 := X0.cell
  replace X1 := X1.kept KK (by omega)
  replace c1 := X1.cell
  replace f1 := X1.froz
  replace X2 := X2.kept KK (by omega)
  replace c2 := X2.cell
  replace f2 := X2.froz
  replace X3 := X3.kept KK (by omega)
  replace c3 := X3.cell
  replace f3 := X3.froz
  replace AS := AS.kept KK (by omega)
  replace hAS := Nat.le_trans hAS KK.size
  replace hy2 := Nat.le_trans hy2 KK.size
  replace AA := AA.kept KK (by omega)
  replace hAA := Nat.le_trans hAA KK.size
  replace B := B.trans (KK.below _ (by omega) B.size)
  clear KK
  clear y2 hy2
  go_wp2_with fail
  refine (eqRR_yes c qr ms hA hS sA sS KA KS _ AA AS (ZA.mono (by omega))).mono ?_
  rintro e w8 ⟨rfl, BB⟩
  replace X0 := X0.below BB
  replace c0 := X0.cell
  replace X1 := X1.below BB
  replace c1 := X1.cell
  replace f1 := X1.froz
  replace X2 := X2.below BB
  replace c2 := X2.cell
  replace f2 := X2.froz
  replace X3 := X3.below BB
  replace c3 := X3.cell
  replace f3 := X3.froz
  replace AS := AS.below BB
  replace hAS := Nat.le_trans hAS BB.size
  replace AA := AA.below BB
  replace hAA := Nat.le_trans hAA BB.size
  replace B := below_next B BB
  clear BB
  go_wp2_with fail
  refine (markRR_any c qr ms hA sA KA _ AA ZA).mono ?_
  rintro e w9 ⟨rfl, MA, KK⟩
  replace X0 := X0.kept KK (by omega)
  replace c0 := X0.cell
  replace X1 := X1.kept KK (by omega)
  replace c1 := X1.cell
  replace f1 := X1.froz
  replace X2 := X2.kept KK (by omega)
  replace c2 := X2.cell
  replace f2 := X2.froz
  replace X3 := X3.kept KK (by omega)
  replace c3 := X3.cell
  replace f3 := X3.froz
  replace AS := AS.kept KK (by omega)
  replace hAS := Nat.le_trans hAS KK.size
  replace hAA := Nat.le_trans hAA KK.size
  replace B := B.trans (KK.below _ (by omega) B.size)
  clear KK
  have hMA := hAA
  clear AA hAA
  have nR : ¬ rrEnd hA sA KA < 0 := by have h1 := (mkEnd_in (k := 1) (by omega) ZA.rep).1; have h2 := kE_ge (t := 14) (by omega) KA (mkEnd hA 1) sA.2.1; unfold rrEnd; omega
  have nE : (rrEnd hA sA KA != rrEnd hA sA KA) = false := by simp
  go_wp2_with fail
  refine (heldRR_any c qr hA sA KA _ MA ZA).mono ?_
  rintro e w10 ⟨rfl, BB⟩
  replace X0 := X0.below BB
  replace c0 := X0.cell
  replace X1 := X1.below BB
  replace c1 := X1.cell
  replace f1 := X1.froz
  replace X2 := X2.below BB
  replace c2 := X2.cell
  replace f2 := X2.froz
  replace X3 := X3.below BB
  replace c3 := X3.cell
  replace f3 := X3.froz
  replace AS := AS.below BB
  replace hAS := Nat.le_trans hAS BB.size
  replace MA := MA.below BB
  replace hMA := Nat.le_trans hMA BB.size
  replace B := below_next B BB
  clear BB
  go_wp2_with fail
  refine (toReplica_any r h _ (x.below B) HZ).mono ?_
  rintro e w11 ⟨k3, rfl, y3, z3, BB⟩
  replace X0 := X0.below BB
  replace c0 := X0.cell
  replace X1 := X1.below BB
  replace c1 := X1.cell
  replace f1 := X1.froz
  replace X2 := X2.below BB
  replace c2 := X2.cell
  replace f2 := X2.froz
  replace X3 := X3.below BB
  replace c3 := X3.cell
  replace f3 := X3.froz
  replace AS := AS.below BB
  replace hAS := Nat.le_trans hAS BB.size
  replace MA := MA.below BB
  replace hMA := Nat.le_trans hMA BB.size
  replace B := below_next B BB
  clear BB
  go_wp2_with fail
  refine (HI1.out k3 _ y3 z3).mono ?_
  rintro e w12 ⟨zC, uC, hC, sC, KC, rfl, GzC, hAC, AC, ZC, BB⟩
  have ozC : w.heap.size ≤ zC := Nat.le_trans B.size GzC
  have o0_zC : b0 < zC := Nat.lt_of_lt_of_le X0.lt GzC
  have o1_zC : b1 < zC := Nat.lt_of_lt_of_le X1.lt GzC
  have o2_zC : b2 < zC := Nat.lt_of_lt_of_le X2.lt GzC
  have o3_zC : b3 < zC := Nat.lt_of_lt_of_le X3.lt GzC
  have oAS_zC : uS ≤ zC := Nat.le_trans hAS GzC
  have oMA_zC : uA ≤ zC := Nat.le_trans hMA GzC
  clear GzC
  replace X0 := X0.below BB
  replace c0 := X0.cell
  replace X1 := X1.below BB
  replace c1 := X1.cell
  replace f1 := X1.froz
  replace X2 := X2.below BB
  replace c2 := X2.cell
  replace f2 := X2.froz
  replace X3 := X3.below BB
  replace c3 := X3.cell
  replace f3 := X3.froz
  replace AS := AS.below BB
  replace hAS := Nat.le_trans hAS BB.size
  replace MA := MA.below BB
  replace hMA := Nat.le_trans hMA BB.size
  replace B := below_next B BB
  clear BB
  clear y3 z3
  go_wp2_with (first | ((with_reducible refine store_midX 40 X4 0 [.int .i64 c, .int .i64 qr.id, .int .i64 qr.size, .int .i64 qr.view, .bool qr.normal, .int .i64 qr.last, .slice hC.L.1 hC.L.2.1 hC.L.2.2, .int .i64 qr.commit, .slice hC.O.1 hC.O.2.1 hC.O.2.2, .slice hC.A.1 hC.A.2.1 hC.A.2.2, .slice hC.D.1 hC.D.2.1 hC.D.2.2, .slice sC.1 sC.2.1 sC.2.2] (by simp) (by kernel_rfl) (by simp [Value.oneCell']) rfl rfl ?_); intro V4 S; replace X0 := X0.kept S.kept (by omega); replace c0 := X0.cell; replace X1 := X1.kept S.kept (by omega); replace c1 := X1.cell; replace f1 := X1.froz; replace X2 := X2.kept S.kept (by omega); replace c2 := X2.cell; replace f2 := X2.froz; replace X3 := X3.kept S.kept (by omega); replace c3 := X3.cell; replace f3 := X3.froz; replace X4 : Bx V4 b4 [.int .i64 c, .int .i64 qr.id, .int .i64 qr.size, .int .i64 qr.view, .bool qr.normal, .int .i64 qr.last, .slice hC.L.1 hC.L.2.1 hC.L.2.2, .int .i64 qr.commit, .slice hC.O.1 hC.O.2.1 hC.O.2.2, .slice hC.A.1 hC.A.2.1 hC.A.2.2, .slice hC.D.1 hC.D.2.1 hC.D.2.2, .slice sC.1 sC.2.1 sC.2.2] := S.bx; replace c4 := X4.cell; replace f4 := X4.froz; replace AS := AS.kept S.kept (by omega); replace hAS := Nat.le_trans hAS S.kept.size; replace MA := MA.kept S.kept (by omega); replace hMA := Nat.le_trans hMA S.kept.size; replace AC := AC.kept S.kept (by omega); replace hAC := Nat.le_trans hAC S.kept.size; replace B := B.trans (S.kept.below _ (by omega) B.size); clear S) | ((have g := ob3); clear g; (with_reducible refine alloc_newX 40 [.int .i64 0, .int .i64 0, .int .i64 0, .int .i64 0, .bool false, .int .i64 0, .slice none 0 0, .int .i64 0, .slice none 0 0, .slice none 0 0, .slice none 0 0, .slice none 0 0] (fun _ => by kernel_rfl) ?_); intro b4 W4 N4; have ob4 : w.heap.size ≤ b4 := Nat.le_trans B.size N4.ge; have o0_b4 : b0 < b4 := Nat.lt_of_lt_of_le X0.lt N4.ge; have o1_b4 : b1 < b4 := Nat.lt_of_lt_of_le X1.lt N4.ge; have o2_b4 : b2 < b4 := Nat.lt_of_lt_of_le X2.lt N4.ge; have o3_b4 : b3 < b4 := Nat.lt_of_lt_of_le X3.lt N4.ge; have oAS_b4 : uS ≤ b4 := Nat.le_trans hAS N4.ge; have oMA_b4 : uA ≤ b4 := Nat.le_trans hMA N4.ge; have oAC_b4 : uC ≤ b4 := Nat.le_trans hAC N4.ge; replace X0 := X0.below N4.below; replace c0 := X0.cell; replace X1 := X1.below N4.below; replace c1 := X1.cell; replace f1 := X1.froz; replace X2 := X2.below N4.below; replace c2 := X2.cell; replace f2 := X2.froz; replace X3 := X3.below N4.below; replace c3 := X3.cell; replace f3 := X3.froz; replace AS := AS.below N4.below; replace hAS := Nat.le_trans hAS N4.below.size; replace MA := MA.below N4.below; replace hMA := Nat.le_trans hMA N4.below.size; replace AC := AC.below N4.below; replace hAC := Nat.le_trans hAC N4.below.size; replace B := below_next B N4.below; have X4 := N4.bx; have c4 := X4.cell; have f4 := X4.froz; clear N4) | fail)
  refine (eqRR_yes c qr ms hC hS sC sS KC KS _ AC AS (ZC.mono (by omega))).mono ?_
  rintro e w13 ⟨rfl, BB⟩
  replace X0 := X0.below BB
  replace c0 := X0.cell
  replace X1 := X1.below BB
  replace c1 := X1.cell
  replace f1 := X1.froz
  replace X2 := X2.below BB
  replace c2 := X2.cell
  replace f2 := X2.froz
  replace X3 := X3.below BB
  replace c3 := X3.cell
  replace f3 := X3.froz
  replace X4 := X4.below BB
  replace c4 := X4.cell
  replace f4 := X4.froz
  replace AS := AS.below BB
  replace hAS := Nat.le_trans hAS BB.size
  replace MA := MA.below BB
  replace hMA := Nat.le_trans hMA BB.size
  replace AC := AC.below BB
  replace hAC := Nat.le_trans hAC BB.size
  replace B := below_next B BB
  clear BB
  go_wp2_with fail
  refine (heldRR_any c qr hA sA KA _ MA ZA).mono ?_
  rintro e w14 ⟨rfl, BB⟩
  replace X0 := X0.below BB
  replace c0 := X0.cell
  replace X1 := X1.below BB
  replace c1 := X1.cell
  replace f1 := X1.froz
  replace X2 := X2.below BB
  replace c2 := X2.cell
  replace f2 := X2.froz
  replace X3 := X3.below BB
  replace c3 := X3.cell
  replace f3 := X3.froz
  replace X4 := X4.below BB
  replace c4 := X4.cell
  replace f4 := X4.froz
  replace AS := AS.below BB
  replace hAS := Nat.le_trans hAS BB.size
  replace MA := MA.below BB
  replace hMA := Nat.le_trans hMA BB.size
  replace AC := AC.below BB
  replace hAC := Nat.le_trans hAC BB.size
  replace B := below_next B BB
  clear BB
  go_wp2
  go_ret
  exact ⟨rfl, B⟩

open Go.ChangeShapes Go.WideShapes Go.ChangeAt Go.Joins

set_option maxRecDepth 100000 in
theorem liftedBeatReplica (os : Os) (started : os.Started) (H : Type) (enc : TypeId × Value → H) :
    ReturnsInHanded {} Tryz.checked os 7 .any (Rows.fnExactBeatReplicaSpec.pre6 enc Tryz.prog Tryz.f7 Rows.fnExactBeatReplicaRow.domain false) (Rows.fnExactBeatReplicaSpec.post enc Tryz.prog Tryz.f7 false true false false) := by
  refine returnsInHanded_of_change (C := Tryz.checked) Tryz.own started (by kernel_rfl) Tryz.func7
    (ChangeSpec.witness6 (enc := enc) (C := Tryz.checked) false ⟨#[], #[.agg #[.int .i64 0, .int .i64 0, .int .i64 0, .bool false, .int .i64 0, .slice none 0 0, .int .i64 0, .slice none 0 0, .slice none 0 0, .slice none 0 0]], []⟩ 8 (by kernel_rfl) (by kernel_rfl) (by kernel_rfl) (by kernel_rfl)) ?_
  intro W base args ds gs before hval0 hW hcnd _
  have hval : ∀ (j : Nat) t v, Tryz.f7.params[j]? = some t → args[j]? = some v → Value.okWide Tryz.prog W .any base t v := hval0
  have hW' := hW
  obtain ⟨p, q, hA0, hV, rfl, hfz, hnd⟩ := hW
  have hA : DataW.TrodAll enc Tryz.prog W 0 (fun _ => true) true Tryz.f7.params.toList args.toList ds p := hA0
  rw [Tryz.params7] at hA hval
  obtain ⟨v0, vs0, d0, ds0, p0, q0, hargs, rfl, rfl, h0, r0⟩ := trodAll_cons hA
  obtain ⟨rfl, rfl, rfl⟩ := trodAll_nil r0
  obtain rfl : args = #[v0] := by cases args; simp_all
  obtain ⟨rfl, rfl⟩ := trodVars_none hV
  have lt0 : ∀ x ∈ p0, x.block < W.heap.size := by obtain ⟨m, hm⟩ := h0; exact DataW.trod_lt m _ _ _ hm
  have k0 := h0
  obtain ⟨rr0, rh0, rfl, rz0, rx0⟩ := open_replica Tryz.repTy (hval 0 54 v0 rfl rfl) h0
  clear hA0 hval0
  refine (lawBeatReplica rr0 rh0 W rx0 rz0).mono fun e W' ⟨he, bel⟩ => ?_
  subst he
  exact ⟨_, rfl, _, _, _, [], _, [], hW', trodAll_mk1 (shut_bool Tryz.underlying4 _), (trodAll_cons_mk (Below.trod Tryz.laidOut (by kernel_rfl) (of_decide_eq_true (by kernel_rfl)) k0 bel lt0) trodAll_mk0), rfl, bel.frame _, fun h => by cases h⟩

set_option maxRecDepth 100000 in
set_option maxHeartbeats 0 in
theorem closedBeatReplica : joinedFacts Tryz.prog 7 Tryz.f7 Rows.fnExactBeatReplicaSpec Rows.fnExactBeatReplicaRow = true := by
  have q1 : (Rows.fnExactBeatReplicaRow.inPlace == Tryz.prog.inPlace 7) = true := by rw [inPlace_at leads_is inp_is]; kernel_rfl
  have q2 : (Rows.fnExactBeatReplicaRow.unfollowed == Tryz.prog.unfollowed 7) = true := by rw [unfollowed_at leads_is unf_is]; kernel_rfl
  have q3 : (Rows.fnExactBeatReplicaRow.recurses == Tryz.prog.recurses 7) = true := (by rw [recurses_unf leads_is (by rw [unfollowed_at leads_is unf_is]; kernel_rfl)]; rfl)
  have q4 : (Rows.fnExactBeatReplicaRow.named == Tryz.prog.varsNamed 7) = true := by rw [varsNamed_at leads_is var_ok ent_is]; kernel_rfl
  have q5 : (Tryz.prog.make == some Rows.fnExactBeatReplicaRow.make) = true := by rw [made_cut]; rfl
  have q6 : (Rows.fnExactBeatReplicaRow.lifted == Tryz.prog.liftsFinal) = true := by rw [lifts_no]; rfl
  have q7 : Tryz.prog.mayEnter = true := may_enter
  have q8 : laidOutB Tryz.prog = true := Tryz.laidOut
  unfold joinedFacts
  repeat' (with_reducible refine Bool.and_eq_true_iff.2 ⟨?_, ?_⟩)
  all_goals (first | with_reducible exact q1 | with_reducible exact q2 | with_reducible exact q3 | with_reducible exact q4 | with_reducible exact q5 | with_reducible exact q6 | with_reducible exact q7 | with_reducible exact q8 | (as_aux_lemma => kernel_rfl))

theorem beatReplica_holds : Rows.FnExactBeatReplicaSaid :=
  OpenClaim.holds_of_wide 7 Tryz.f7 rfl rfl rfl rfl rfl rfl rfl ⟨rfl, rfl, rfl, rfl, rfl⟩ rfl rfl rfl rfl rfl (by as_aux_lemma => kernel_rfl) Tryz.func7 closedBeatReplica
    (of_decide_eq_true (by as_aux_lemma => kernel_rfl)) (by unfold Func.isWrapper; first | (rw [if_pos (by decide +kernel)]; kernel_rfl) | (rw [if_neg (by decide +kernel)]; exact ⟨rfl, rfl⟩))
    (fun os started H enc _ => liftedBeatReplica os started H enc)

#print axioms beatReplica_holds

end Go.Proofs.YtcefhlkbbipmmaaGreat

