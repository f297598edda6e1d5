/-
  No cell of these rows narrows 'for every input' (looked for: loops, veiled, ifaces, maps, wideKeys, modest, calm, conditions, laid).
  DERIVED. THE GIVEN ROWS OF THIS SEAT. 11 by the template 'for every input the law returns true; each argument reads behind the call as it read before'; 0 by the template 'total and deterministic' (their statements: YtcbfmjanjciodaaTotals.lean).
  GIVEN WITH THE SEED: the statements are not yours to turn. If you find one false, say at which input.
  Laid BY PROGRAM, IN A SANDBOX (cutbox-rows.mjs): the forced cells as the released guide's own fill.sh prints them over the translation e1b803526041db63… (all of the seat's roots in one cut). By AI agents, Wed Nov 11 2026. No macro, syntax, notation, axiom, sorry.
-/
import Derived.Test.YtcbfmjanjciodaaChecked
import GoSem.Claim
import GoSem.ClaimJoined
import GoSem.ClaimMapViews
import Derived.JoinedTies
import Derived.KernelRfl
namespace Go.Proofs.Ytcbfmjanjciodaa
/- THE CELL 'sum', in the pinned program and in every row, IS THE sha256 OF THE DUMP (.gsa) THAT YtcbfmjanjciodaaProg.lean LOADS. Nothing in Lean hashes anything: it is a label: what it is worth is what the hold of that sum in a sandbox is worth. -/
noncomputable def Try.pinned : Pinned := { name := "ytcbfmjanjciodaa", sum := "e1b803526041db638db731d71989f4a5d6a866e1cdc5c9e81654726a188dfb82", checked := Try.checked }
namespace Rows
def none {H : Type} : Left H := { results := [], args := [] }

/-- 'laws.FnExactPlainOf': WHATEVER THE INPUT: true; the input reads as it did. -/
def fnExactPlainOfSpec : ChangeSpec := { name := "fnExactPlainOf", fn := fun _ => fun
  | [d] => { results := [.lit (.bool true)], args := [d] }
  | _ => none }
def fnExactPlainOfRow : OpenClaim := { program := "ytcbfmjanjciodaa", sum := "e1b803526041db638db731d71989f4a5d6a866e1cdc5c9e81654726a188dfb82", func := "loop.example/g00277/laws.FnExactPlainOf", spec := "fnExactPlainOf", plainKeys := false, apart := false }
def FnExactPlainOfSaid : Prop := fnExactPlainOfRow.holds Try.pinned (OpenSpec.ofChange fnExactPlainOfSpec)

/-- ITS FALSE NEIGHBOUR: 'it returns false'. Refute it at one input. -/
def fnExactPlainOfWrong : ChangeSpec := { name := "fnExactPlainOf", fn := fun _ => fun
  | [d] => { results := [.lit (.bool false)], args := [d] }
  | _ => none }
def FnExactPlainOfWrongFalsely : Prop := fnExactPlainOfRow.holds Try.pinned (OpenSpec.ofChange fnExactPlainOfWrong)

/-- 'laws.FnExactPlainFault': WHATEVER THE INPUT: true; the input reads as it did. -/
def fnExactPlainFaultSpec : ChangeSpec := { name := "fnExactPlainFault", fn := fun _ => fun
  | [d] => { results := [.lit (.bool true)], args := [d] }
  | _ => none }
def fnExactPlainFaultRow : OpenClaim := { program := "ytcbfmjanjciodaa", sum := "e1b803526041db638db731d71989f4a5d6a866e1cdc5c9e81654726a188dfb82", func := "loop.example/g00277/laws.FnExactPlainFault", spec := "fnExactPlainFault", unfollowed := true, recurses := true, plainKeys := false, apart := false }
def FnExactPlainFaultSaid : Prop := fnExactPlainFaultRow.holds Try.pinned (OpenSpec.ofChange fnExactPlainFaultSpec)

/-- ITS FALSE NEIGHBOUR: 'it returns false'. Refute it at one input. -/
def fnExactPlainFaultWrong : ChangeSpec := { name := "fnExactPlainFault", fn := fun _ => fun
  | [d] => { results := [.lit (.bool false)], args := [d] }
  | _ => none }
def FnExactPlainFaultWrongFalsely : Prop := fnExactPlainFaultRow.holds Try.pinned (OpenSpec.ofChange fnExactPlainFaultWrong)

/-- 'laws.FnExactCellIn': WHATEVER THE INPUT: true; the input reads as it did. -/
def fnExactCellInSpec : ChangeSpec := { name := "fnExactCellIn", fn := fun _ => fun
  | [d1, d2, d3] => { results := [.lit (.bool true)], args := [d1, d2, d3] }
  | _ => none }
def fnExactCellInRow : OpenClaim := { program := "ytcbfmjanjciodaa", sum := "e1b803526041db638db731d71989f4a5d6a866e1cdc5c9e81654726a188dfb82", func := "loop.example/g00277/laws.FnExactCellIn", spec := "fnExactCellIn", unfollowed := true, recurses := true, plainKeys := false, apart := false }
def FnExactCellInSaid : Prop := fnExactCellInRow.holds Try.pinned (OpenSpec.ofChange fnExactCellInSpec)

/-- ITS FALSE NEIGHBOUR: 'it returns false'. Refute it at one input. -/
def fnExactCellInWrong : ChangeSpec := { name := "fnExactCellIn", fn := fun _ => fun
  | [d1, d2, d3] => { results := [.lit (.bool false)], args := [d1, d2, d3] }
  | _ => none }
def FnExactCellInWrongFalsely : Prop := fnExactCellInRow.holds Try.pinned (OpenSpec.ofChange fnExactCellInWrong)

/-- 'laws.FnExactApplyPlain': WHATEVER THE INPUT: true; the input reads as it did. -/
def fnExactApplyPlainSpec : ChangeSpec := { name := "fnExactApplyPlain", fn := fun _ => fun
  | [d1, d2, d3] => { results := [.lit (.bool true)], args := [d1, d2, d3] }
  | _ => none }
def fnExactApplyPlainRow : OpenClaim := { program := "ytcbfmjanjciodaa", sum := "e1b803526041db638db731d71989f4a5d6a866e1cdc5c9e81654726a188dfb82", func := "loop.example/g00277/laws.FnExactApplyPlain", spec := "fnExactApplyPlain", inPlace := ["slices.overlaps[loop.example/g00277/impl.Vol]"], unfollowed := true, recurses := true, plainKeys := false, apart := false }
def FnExactApplyPlainSaid : Prop := fnExactApplyPlainRow.holds Try.pinned (OpenSpec.ofChange fnExactApplyPlainSpec)

/-- ITS FALSE NEIGHBOUR: 'it returns false'. Refute it at one input. -/
def fnExactApplyPlainWrong : ChangeSpec := { name := "fnExactApplyPlain", fn := fun _ => fun
  | [d1, d2, d3] => { results := [.lit (.bool false)], args := [d1, d2, d3] }
  | _ => none }
def FnExactApplyPlainWrongFalsely : Prop := fnExactApplyPlainRow.holds Try.pinned (OpenSpec.ofChange fnExactApplyPlainWrong)

/-- 'laws.FnExactSignPlain': WHATEVER THE INPUT: true; the input reads as it did. -/
def fnExactSignPlainSpec : ChangeSpec := { name := "fnExactSignPlain", fn := fun _ => fun
  | [d] => { results := [.lit (.bool true)], args := [d] }
  | _ => none }
def fnExactSignPlainRow : OpenClaim := { program := "ytcbfmjanjciodaa", sum := "e1b803526041db638db731d71989f4a5d6a866e1cdc5c9e81654726a188dfb82", func := "loop.example/g00277/laws.FnExactSignPlain", spec := "fnExactSignPlain", unfollowed := true, recurses := true, plainKeys := false, apart := false }
def FnExactSignPlainSaid : Prop := fnExactSignPlainRow.holds Try.pinned (OpenSpec.ofChange fnExactSignPlainSpec)

/-- ITS FALSE NEIGHBOUR: 'it returns false'. Refute it at one input. -/
def fnExactSignPlainWrong : ChangeSpec := { name := "fnExactSignPlain", fn := fun _ => fun
  | [d] => { results := [.lit (.bool false)], args := [d] }
  | _ => none }
def FnExactSignPlainWrongFalsely : Prop := fnExactSignPlainRow.holds Try.pinned (OpenSpec.ofChange fnExactSignPlainWrong)

/-- 'laws.FnExactDeltaFault': WHATEVER THE INPUT: true; the input reads as it did. -/
def fnExactDeltaFaultSpec : ChangeSpec := { name := "fnExactDeltaFault", fn := fun _ => fun
  | [d] => { results := [.lit (.bool true)], args := [d] }
  | _ => none }
def fnExactDeltaFaultRow : OpenClaim := { program := "ytcbfmjanjciodaa", sum := "e1b803526041db638db731d71989f4a5d6a866e1cdc5c9e81654726a188dfb82", func := "loop.example/g00277/laws.FnExactDeltaFault", spec := "fnExactDeltaFault", plainKeys := false, apart := false }
def FnExactDeltaFaultSaid : Prop := fnExactDeltaFaultRow.holds Try.pinned (OpenSpec.ofChange fnExactDeltaFaultSpec)

/-- ITS FALSE NEIGHBOUR: 'it returns false'. Refute it at one input. -/
def fnExactDeltaFaultWrong : ChangeSpec := { name := "fnExactDeltaFault", fn := fun _ => fun
  | [d] => { results := [.lit (.bool false)], args := [d] }
  | _ => none }
def FnExactDeltaFaultWrongFalsely : Prop := fnExactDeltaFaultRow.holds Try.pinned (OpenSpec.ofChange fnExactDeltaFaultWrong)

/-- 'laws.FnExactDeltaOf': WHATEVER THE INPUT: true; the input reads as it did. -/
def fnExactDeltaOfSpec : ChangeSpec := { name := "fnExactDeltaOf", fn := fun _ => fun
  | [d1, d2] => { results := [.lit (.bool true)], args := [d1, d2] }
  | _ => none }
def fnExactDeltaOfRow : OpenClaim := { program := "ytcbfmjanjciodaa", sum := "e1b803526041db638db731d71989f4a5d6a866e1cdc5c9e81654726a188dfb82", func := "loop.example/g00277/laws.FnExactDeltaOf", spec := "fnExactDeltaOf", unfollowed := true, recurses := true, plainKeys := false, apart := false }
def FnExactDeltaOfSaid : Prop := fnExactDeltaOfRow.holds Try.pinned (OpenSpec.ofChange fnExactDeltaOfSpec)

/-- ITS FALSE NEIGHBOUR: 'it returns false'. Refute it at one input. -/
def fnExactDeltaOfWrong : ChangeSpec := { name := "fnExactDeltaOf", fn := fun _ => fun
  | [d1, d2] => { results := [.lit (.bool false)], args := [d1, d2] }
  | _ => none }
def FnExactDeltaOfWrongFalsely : Prop := fnExactDeltaOfRow.holds Try.pinned (OpenSpec.ofChange fnExactDeltaOfWrong)

/-- 'laws.FnExactTakeDelta': WHATEVER THE INPUT: true; the input reads as it did. -/
def fnExactTakeDeltaSpec : ChangeSpec := { name := "fnExactTakeDelta", fn := fun _ => fun
  | [d1, d2] => { results := [.lit (.bool true)], args := [d1, d2] }
  | _ => none }
def fnExactTakeDeltaRow : OpenClaim := { program := "ytcbfmjanjciodaa", sum := "e1b803526041db638db731d71989f4a5d6a866e1cdc5c9e81654726a188dfb82", func := "loop.example/g00277/laws.FnExactTakeDelta", spec := "fnExactTakeDelta", inPlace := ["slices.overlaps[loop.example/g00277/impl.Cell]"], unfollowed := true, recurses := true, plainKeys := false, apart := false }
def FnExactTakeDeltaSaid : Prop := fnExactTakeDeltaRow.holds Try.pinned (OpenSpec.ofChange fnExactTakeDeltaSpec)

/-- ITS FALSE NEIGHBOUR: 'it returns false'. Refute it at one input. -/
def fnExactTakeDeltaWrong : ChangeSpec := { name := "fnExactTakeDelta", fn := fun _ => fun
  | [d1, d2] => { results := [.lit (.bool false)], args := [d1, d2] }
  | _ => none }
def FnExactTakeDeltaWrongFalsely : Prop := fnExactTakeDeltaRow.holds Try.pinned (OpenSpec.ofChange fnExactTakeDeltaWrong)

/-- 'laws.FnExactPackDelta': WHATEVER THE INPUT: true; the input reads as it did. -/
def fnExactPackDeltaSpec : ChangeSpec := { name := "fnExactPackDelta", fn := fun _ => fun
  | [d] => { results := [.lit (.bool true)], args := [d] }
  | _ => none }
def fnExactPackDeltaRow : OpenClaim := { program := "ytcbfmjanjciodaa", sum := "e1b803526041db638db731d71989f4a5d6a866e1cdc5c9e81654726a188dfb82", func := "loop.example/g00277/laws.FnExactPackDelta", spec := "fnExactPackDelta", plainKeys := false, apart := false }
def FnExactPackDeltaSaid : Prop := fnExactPackDeltaRow.holds Try.pinned (OpenSpec.ofChange fnExactPackDeltaSpec)

/-- ITS FALSE NEIGHBOUR: 'it returns false'. Refute it at one input. -/
def fnExactPackDeltaWrong : ChangeSpec := { name := "fnExactPackDelta", fn := fun _ => fun
  | [d] => { results := [.lit (.bool false)], args := [d] }
  | _ => none }
def FnExactPackDeltaWrongFalsely : Prop := fnExactPackDeltaRow.holds Try.pinned (OpenSpec.ofChange fnExactPackDeltaWrong)

/-- 'laws.FnExactUnpackDelta': WHATEVER THE INPUT: true; the input reads as it did. -/
def fnExactUnpackDeltaSpec : ChangeSpec := { name := "fnExactUnpackDelta", fn := fun _ => fun
  | [d] => { results := [.lit (.bool true)], args := [d] }
  | _ => none }
def fnExactUnpackDeltaRow : OpenClaim := { program := "ytcbfmjanjciodaa", sum := "e1b803526041db638db731d71989f4a5d6a866e1cdc5c9e81654726a188dfb82", func := "loop.example/g00277/laws.FnExactUnpackDelta", spec := "fnExactUnpackDelta", plainKeys := false, apart := false }
def FnExactUnpackDeltaSaid : Prop := fnExactUnpackDeltaRow.holds Try.pinned (OpenSpec.ofChange fnExactUnpackDeltaSpec)

/-- ITS FALSE NEIGHBOUR: 'it returns false'. Refute it at one input. -/
def fnExactUnpackDeltaWrong : ChangeSpec := { name := "fnExactUnpackDelta", fn := fun _ => fun
  | [d] => { results := [.lit (.bool false)], args := [d] }
  | _ => none }
def FnExactUnpackDeltaWrongFalsely : Prop := fnExactUnpackDeltaRow.holds Try.pinned (OpenSpec.ofChange fnExactUnpackDeltaWrong)

/-- 'laws.FnExactChunkDelta': WHATEVER THE INPUT: true; the input reads as it did. -/
def fnExactChunkDeltaSpec : ChangeSpec := { name := "fnExactChunkDelta", fn := fun _ => fun
  | [d1, d2, d3] => { results := [.lit (.bool true)], args := [d1, d2, d3] }
  | _ => none }
def fnExactChunkDeltaRow : OpenClaim := { program := "ytcbfmjanjciodaa", sum := "e1b803526041db638db731d71989f4a5d6a866e1cdc5c9e81654726a188dfb82", func := "loop.example/g00277/laws.FnExactChunkDelta", spec := "fnExactChunkDelta", plainKeys := false, apart := false }
def FnExactChunkDeltaSaid : Prop := fnExactChunkDeltaRow.holds Try.pinned (OpenSpec.ofChange fnExactChunkDeltaSpec)

/-- ITS FALSE NEIGHBOUR: 'it returns false'. Refute it at one input. -/
def fnExactChunkDeltaWrong : ChangeSpec := { name := "fnExactChunkDelta", fn := fun _ => fun
  | [d1, d2, d3] => { results := [.lit (.bool false)], args := [d1, d2, d3] }
  | _ => none }
def FnExactChunkDeltaWrongFalsely : Prop := fnExactChunkDeltaRow.holds Try.pinned (OpenSpec.ofChange fnExactChunkDeltaWrong)

/- THE SECOND FORM. 'bulk': how many values and letters a reading holds, each counted each time it is reached (what is shared counts as often as it is met; a slice's spare places count too). A statement '..UptoSaid' is the law's where the arguments, and the package variables that the reading takes, are together of bulk at most 1048576: NARROWER than '..Said'. Prove '..Said' where nothing that the law and all that it calls make is longer than what came in: it says more and counts as full. Else prove '..UptoSaid'. A law counts once. -/
mutual
def uptoBulk {H : Type} : DataW H → Nat
  | .lit (.string bytes) => bytes.length + 1
  | .lit _ => 1
  | .nil => 1
  | .ptr d => uptoBulk d + 1
  | .slice elems spare => uptoBulkAll elems + uptoBulkAll spare + 1
  | .agg parts => uptoBulkAll parts + 1
  | .iface _ d => uptoBulk d + 1
  | .map entries => uptoBulkEntries entries + 1
  | .held _ => 1
def uptoBulkAll {H : Type} : List (DataW H) → Nat
  | [] => 0
  | d :: r => uptoBulk d + uptoBulkAll r
def uptoBulkEntries {H : Type} : List (Lit × DataW H) → Nat
  | [] => 0
  | x :: r => uptoBulkEntry x + uptoBulkEntries r
def uptoBulkEntry {H : Type} : Lit × DataW H → Nat
  | (.string bytes, d) => bytes.length + uptoBulk d + 1
  | (_, d) => uptoBulk d + 1
 end
def uptoSmall : (H : Type) → List (DataW H) → Bool := fun _ ds => decide (uptoBulkAll ds ≤ 1048576)
def OpenSpec.upto (s : _root_.Go.ChangeSpec) : _root_.Go.OpenSpec := { _root_.Go.OpenSpec.ofChange s with cond := some uptoSmall }

/-- 'laws.FnExactPlainOf', WHERE WHAT IT READS IS OF BULK AT MOST 1048576: true; the input reads as it did. -/
def fnExactPlainOfUptoRow : OpenClaim := { program := "ytcbfmjanjciodaa", sum := "e1b803526041db638db731d71989f4a5d6a866e1cdc5c9e81654726a188dfb82", func := "loop.example/g00277/laws.FnExactPlainOf", spec := "fnExactPlainOf", plainKeys := false, apart := false, narrowed := true }
def FnExactPlainOfUptoSaid : Prop := fnExactPlainOfUptoRow.holds Try.pinned (OpenSpec.upto fnExactPlainOfSpec)

/-- 'laws.FnExactPlainFault', WHERE WHAT IT READS IS OF BULK AT MOST 1048576: true; the input reads as it did. -/
def fnExactPlainFaultUptoRow : OpenClaim := { program := "ytcbfmjanjciodaa", sum := "e1b803526041db638db731d71989f4a5d6a866e1cdc5c9e81654726a188dfb82", func := "loop.example/g00277/laws.FnExactPlainFault", spec := "fnExactPlainFault", unfollowed := true, recurses := true, plainKeys := false, apart := false, narrowed := true }
def FnExactPlainFaultUptoSaid : Prop := fnExactPlainFaultUptoRow.holds Try.pinned (OpenSpec.upto fnExactPlainFaultSpec)

/-- 'laws.FnExactCellIn', WHERE WHAT IT READS IS OF BULK AT MOST 1048576: true; the input reads as it did. -/
def fnExactCellInUptoRow : OpenClaim := { program := "ytcbfmjanjciodaa", sum := "e1b803526041db638db731d71989f4a5d6a866e1cdc5c9e81654726a188dfb82", func := "loop.example/g00277/laws.FnExactCellIn", spec := "fnExactCellIn", unfollowed := true, recurses := true, plainKeys := false, apart := false, narrowed := true }
def FnExactCellInUptoSaid : Prop := fnExactCellInUptoRow.holds Try.pinned (OpenSpec.upto fnExactCellInSpec)

/-- 'laws.FnExactApplyPlain', WHERE WHAT IT READS IS OF BULK AT MOST 1048576: true; the input reads as it did. -/
def fnExactApplyPlainUptoRow : OpenClaim := { program := "ytcbfmjanjciodaa", sum := "e1b803526041db638db731d71989f4a5d6a866e1cdc5c9e81654726a188dfb82", func := "loop.example/g00277/laws.FnExactApplyPlain", spec := "fnExactApplyPlain", inPlace := ["slices.overlaps[loop.example/g00277/impl.Vol]"], unfollowed := true, recurses := true, plainKeys := false, apart := false, narrowed := true }
def FnExactApplyPlainUptoSaid : Prop := fnExactApplyPlainUptoRow.holds Try.pinned (OpenSpec.upto fnExactApplyPlainSpec)

/-- 'laws.FnExactSignPlain', WHERE WHAT IT READS IS OF BULK AT MOST 1048576: true; the input reads as it did. -/
def fnExactSignPlainUptoRow : OpenClaim := { program := "ytcbfmjanjciodaa", sum := "e1b803526041db638db731d71989f4a5d6a866e1cdc5c9e81654726a188dfb82", func := "loop.example/g00277/laws.FnExactSignPlain", spec := "fnExactSignPlain", unfollowed := true, recurses := true, plainKeys := false, apart := false, narrowed := true }
def FnExactSignPlainUptoSaid : Prop := fnExactSignPlainUptoRow.holds Try.pinned (OpenSpec.upto fnExactSignPlainSpec)

/-- 'laws.FnExactDeltaFault', WHERE WHAT IT READS IS OF BULK AT MOST 1048576: true; the input reads as it did. -/
def fnExactDeltaFaultUptoRow : OpenClaim := { program := "ytcbfmjanjciodaa", sum := "e1b803526041db638db731d71989f4a5d6a866e1cdc5c9e81654726a188dfb82", func := "loop.example/g00277/laws.FnExactDeltaFault", spec := "fnExactDeltaFault", plainKeys := false, apart := false, narrowed := true }
def FnExactDeltaFaultUptoSaid : Prop := fnExactDeltaFaultUptoRow.holds Try.pinned (OpenSpec.upto fnExactDeltaFaultSpec)

/-- 'laws.FnExactDeltaOf', WHERE WHAT IT READS IS OF BULK AT MOST 1048576: true; the input reads as it did. -/
def fnExactDeltaOfUptoRow : OpenClaim := { program := "ytcbfmjanjciodaa", sum := "e1b803526041db638db731d71989f4a5d6a866e1cdc5c9e81654726a188dfb82", func := "loop.example/g00277/laws.FnExactDeltaOf", spec := "fnExactDeltaOf", unfollowed := true, recurses := true, plainKeys := false, apart := false, narrowed := true }
def FnExactDeltaOfUptoSaid : Prop := fnExactDeltaOfUptoRow.holds Try.pinned (OpenSpec.upto fnExactDeltaOfSpec)

/-- 'laws.FnExactTakeDelta', WHERE WHAT IT READS IS OF BULK AT MOST 1048576: true; the input reads as it did. -/
def fnExactTakeDeltaUptoRow : OpenClaim := { program := "ytcbfmjanjciodaa", sum := "e1b803526041db638db731d71989f4a5d6a866e1cdc5c9e81654726a188dfb82", func := "loop.example/g00277/laws.FnExactTakeDelta", spec := "fnExactTakeDelta", inPlace := ["slices.overlaps[loop.example/g00277/impl.Cell]"], unfollowed := true, recurses := true, plainKeys := false, apart := false, narrowed := true }
def FnExactTakeDeltaUptoSaid : Prop := fnExactTakeDeltaUptoRow.holds Try.pinned (OpenSpec.upto fnExactTakeDeltaSpec)

/-- 'laws.FnExactPackDelta', WHERE WHAT IT READS IS OF BULK AT MOST 1048576: true; the input reads as it did. -/
def fnExactPackDeltaUptoRow : OpenClaim := { program := "ytcbfmjanjciodaa", sum := "e1b803526041db638db731d71989f4a5d6a866e1cdc5c9e81654726a188dfb82", func := "loop.example/g00277/laws.FnExactPackDelta", spec := "fnExactPackDelta", plainKeys := false, apart := false, narrowed := true }
def FnExactPackDeltaUptoSaid : Prop := fnExactPackDeltaUptoRow.holds Try.pinned (OpenSpec.upto fnExactPackDeltaSpec)

/-- 'laws.FnExactUnpackDelta', WHERE WHAT IT READS IS OF BULK AT MOST 1048576: true; the input reads as it did. -/
def fnExactUnpackDeltaUptoRow : OpenClaim := { program := "ytcbfmjanjciodaa", sum := "e1b803526041db638db731d71989f4a5d6a866e1cdc5c9e81654726a188dfb82", func := "loop.example/g00277/laws.FnExactUnpackDelta", spec := "fnExactUnpackDelta", plainKeys := false, apart := false, narrowed := true }
def FnExactUnpackDeltaUptoSaid : Prop := fnExactUnpackDeltaUptoRow.holds Try.pinned (OpenSpec.upto fnExactUnpackDeltaSpec)

/-- 'laws.FnExactChunkDelta', WHERE WHAT IT READS IS OF BULK AT MOST 1048576: true; the input reads as it did. -/
def fnExactChunkDeltaUptoRow : OpenClaim := { program := "ytcbfmjanjciodaa", sum := "e1b803526041db638db731d71989f4a5d6a866e1cdc5c9e81654726a188dfb82", func := "loop.example/g00277/laws.FnExactChunkDelta", spec := "fnExactChunkDelta", plainKeys := false, apart := false, narrowed := true }
def FnExactChunkDeltaUptoSaid : Prop := fnExactChunkDeltaUptoRow.holds Try.pinned (OpenSpec.upto fnExactChunkDeltaSpec)

end Rows
end Go.Proofs.Ytcbfmjanjciodaa
