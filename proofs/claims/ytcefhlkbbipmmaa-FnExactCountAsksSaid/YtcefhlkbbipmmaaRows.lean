/-
  No cell of these rows narrows 'for every input' (looked for: loops, veiled, ifaces, maps, wideKeys, modest, calm, conditions, laid).
  DERIVED. THE GIVEN ROWS OF THIS SEAT. 7 by the template 'for every input the law returns true; each argument reads behind the call as it read before'; 0 by the template 'total and deterministic' (their statements: YtcefhlkbbipmmaaTotals.lean).
  GIVEN WITH THE SEED: the statements are not yours to turn. If you find one false, say at which input.
  Laid BY PROGRAM, IN A SANDBOX (cutbox-rows.mjs): the forced cells as the released guide's own fill.sh prints them over the translation 7e1464870c450bfb… (all of the seat's roots in one cut). By AI agents, Wed Nov 11 2026. No macro, syntax, notation, axiom, sorry.
-/
import Derived.Test.YtcefhlkbbipmmaaChecked
import GoSem.Claim
import GoSem.ClaimJoined
import GoSem.ClaimMapViews
import Derived.JoinedTies
import Derived.KernelRfl
namespace Go.Proofs.Ytcefhlkbbipmmaa
/- THE CELL 'sum', in the pinned program and in every row, IS THE sha256 OF THE DUMP (.gsa) THAT YtcefhlkbbipmmaaProg.lean LOADS. Nothing in Lean hashes anything: it is a label: what it is worth is what the hold of that sum in a sandbox is worth. -/
noncomputable def Try.pinned : Pinned := { name := "ytcefhlkbbipmmaa", sum := "7e1464870c450bfbb5ebf8624fa2444162383e34995115d63c894a4f01448c76", checked := Try.checked }
namespace Rows
def none {H : Type} : Left H := { results := [], args := [] }

/-- 'laws.FnPrimaries': WHATEVER THE INPUT: true; the input reads as it did. -/
def fnPrimariesSpec : ChangeSpec := { name := "fnPrimaries", fn := fun _ => fun
  | [d] => { results := [.lit (.bool true)], args := [d] }
  | _ => none }
def fnPrimariesRow : OpenClaim := { program := "ytcefhlkbbipmmaa", sum := "7e1464870c450bfbb5ebf8624fa2444162383e34995115d63c894a4f01448c76", func := "loop.example/g00277/laws.FnPrimaries", spec := "fnPrimaries", unfollowed := true, recurses := true, apart := false }
def FnPrimariesSaid : Prop := fnPrimariesRow.holds Try.pinned (OpenSpec.ofChange fnPrimariesSpec)

/-- ITS FALSE NEIGHBOUR: 'it returns false'. Refute it at one input. -/
def fnPrimariesWrong : ChangeSpec := { name := "fnPrimaries", fn := fun _ => fun
  | [d] => { results := [.lit (.bool false)], args := [d] }
  | _ => none }
def FnPrimariesWrongFalsely : Prop := fnPrimariesRow.holds Try.pinned (OpenSpec.ofChange fnPrimariesWrong)

/-- 'laws.FnChoices': WHATEVER THE INPUT: true; the input reads as it did. -/
def fnChoicesSpec : ChangeSpec := { name := "fnChoices", fn := fun _ => fun
  | [d] => { results := [.lit (.bool true)], args := [d] }
  | _ => none }
def fnChoicesRow : OpenClaim := { program := "ytcefhlkbbipmmaa", sum := "7e1464870c450bfbb5ebf8624fa2444162383e34995115d63c894a4f01448c76", func := "loop.example/g00277/laws.FnChoices", spec := "fnChoices", unfollowed := true, recurses := true, apart := false }
def FnChoicesSaid : Prop := fnChoicesRow.holds Try.pinned (OpenSpec.ofChange fnChoicesSpec)

/-- ITS FALSE NEIGHBOUR: 'it returns false'. Refute it at one input. -/
def fnChoicesWrong : ChangeSpec := { name := "fnChoices", fn := fun _ => fun
  | [d] => { results := [.lit (.bool false)], args := [d] }
  | _ => none }
def FnChoicesWrongFalsely : Prop := fnChoicesRow.holds Try.pinned (OpenSpec.ofChange fnChoicesWrong)

/-- 'laws.FnExactTimeoutReplica': WHATEVER THE INPUT: true; the input reads as it did. -/
def fnExactTimeoutReplicaSpec : ChangeSpec := { name := "fnExactTimeoutReplica", fn := fun _ => fun
  | [d] => { results := [.lit (.bool true)], args := [d] }
  | _ => none }
def fnExactTimeoutReplicaRow : OpenClaim := { program := "ytcefhlkbbipmmaa", sum := "7e1464870c450bfbb5ebf8624fa2444162383e34995115d63c894a4f01448c76", func := "loop.example/g00277/laws.FnExactTimeoutReplica", spec := "fnExactTimeoutReplica", unfollowed := true, recurses := true, apart := false }
def FnExactTimeoutReplicaSaid : Prop := fnExactTimeoutReplicaRow.holds Try.pinned (OpenSpec.ofChange fnExactTimeoutReplicaSpec)

/-- ITS FALSE NEIGHBOUR: 'it returns false'. Refute it at one input. -/
def fnExactTimeoutReplicaWrong : ChangeSpec := { name := "fnExactTimeoutReplica", fn := fun _ => fun
  | [d] => { results := [.lit (.bool false)], args := [d] }
  | _ => none }
def FnExactTimeoutReplicaWrongFalsely : Prop := fnExactTimeoutReplicaRow.holds Try.pinned (OpenSpec.ofChange fnExactTimeoutReplicaWrong)

/-- 'laws.FnExactChosenOf': WHATEVER THE INPUT: true; the input reads as it did. -/
def fnExactChosenOfSpec : ChangeSpec := { name := "fnExactChosenOf", fn := fun _ => fun
  | [d] => { results := [.lit (.bool true)], args := [d] }
  | _ => none }
def fnExactChosenOfRow : OpenClaim := { program := "ytcefhlkbbipmmaa", sum := "7e1464870c450bfbb5ebf8624fa2444162383e34995115d63c894a4f01448c76", func := "loop.example/g00277/laws.FnExactChosenOf", spec := "fnExactChosenOf", unfollowed := true, recurses := true, apart := false }
def FnExactChosenOfSaid : Prop := fnExactChosenOfRow.holds Try.pinned (OpenSpec.ofChange fnExactChosenOfSpec)

/-- ITS FALSE NEIGHBOUR: 'it returns false'. Refute it at one input. -/
def fnExactChosenOfWrong : ChangeSpec := { name := "fnExactChosenOf", fn := fun _ => fun
  | [d] => { results := [.lit (.bool false)], args := [d] }
  | _ => none }
def FnExactChosenOfWrongFalsely : Prop := fnExactChosenOfRow.holds Try.pinned (OpenSpec.ofChange fnExactChosenOfWrong)

/-- 'laws.FnExactTellOf': WHATEVER THE INPUT: true; the input reads as it did. -/
def fnExactTellOfSpec : ChangeSpec := { name := "fnExactTellOf", fn := fun _ => fun
  | [d] => { results := [.lit (.bool true)], args := [d] }
  | _ => none }
def fnExactTellOfRow : OpenClaim := { program := "ytcefhlkbbipmmaa", sum := "7e1464870c450bfbb5ebf8624fa2444162383e34995115d63c894a4f01448c76", func := "loop.example/g00277/laws.FnExactTellOf", spec := "fnExactTellOf", unfollowed := true, recurses := true, apart := false }
def FnExactTellOfSaid : Prop := fnExactTellOfRow.holds Try.pinned (OpenSpec.ofChange fnExactTellOfSpec)

/-- ITS FALSE NEIGHBOUR: 'it returns false'. Refute it at one input. -/
def fnExactTellOfWrong : ChangeSpec := { name := "fnExactTellOf", fn := fun _ => fun
  | [d] => { results := [.lit (.bool false)], args := [d] }
  | _ => none }
def FnExactTellOfWrongFalsely : Prop := fnExactTellOfRow.holds Try.pinned (OpenSpec.ofChange fnExactTellOfWrong)

/-- 'laws.FnExactCountAsks': WHATEVER THE INPUT: true; the input reads as it did. -/
def fnExactCountAsksSpec : ChangeSpec := { name := "fnExactCountAsks", fn := fun _ => fun
  | [d] => { results := [.lit (.bool true)], args := [d] }
  | _ => none }
def fnExactCountAsksRow : OpenClaim := { program := "ytcefhlkbbipmmaa", sum := "7e1464870c450bfbb5ebf8624fa2444162383e34995115d63c894a4f01448c76", func := "loop.example/g00277/laws.FnExactCountAsks", spec := "fnExactCountAsks", unfollowed := true, recurses := true, apart := false }
def FnExactCountAsksSaid : Prop := fnExactCountAsksRow.holds Try.pinned (OpenSpec.ofChange fnExactCountAsksSpec)

/-- ITS FALSE NEIGHBOUR: 'it returns false'. Refute it at one input. -/
def fnExactCountAsksWrong : ChangeSpec := { name := "fnExactCountAsks", fn := fun _ => fun
  | [d] => { results := [.lit (.bool false)], args := [d] }
  | _ => none }
def FnExactCountAsksWrongFalsely : Prop := fnExactCountAsksRow.holds Try.pinned (OpenSpec.ofChange fnExactCountAsksWrong)

/-- 'laws.FnExactCountDoers': WHATEVER THE INPUT: true; the input reads as it did. -/
def fnExactCountDoersSpec : ChangeSpec := { name := "fnExactCountDoers", fn := fun _ => fun
  | [d] => { results := [.lit (.bool true)], args := [d] }
  | _ => none }
def fnExactCountDoersRow : OpenClaim := { program := "ytcefhlkbbipmmaa", sum := "7e1464870c450bfbb5ebf8624fa2444162383e34995115d63c894a4f01448c76", func := "loop.example/g00277/laws.FnExactCountDoers", spec := "fnExactCountDoers", unfollowed := true, recurses := true, apart := false }
def FnExactCountDoersSaid : Prop := fnExactCountDoersRow.holds Try.pinned (OpenSpec.ofChange fnExactCountDoersSpec)

/-- ITS FALSE NEIGHBOUR: 'it returns false'. Refute it at one input. -/
def fnExactCountDoersWrong : ChangeSpec := { name := "fnExactCountDoers", fn := fun _ => fun
  | [d] => { results := [.lit (.bool false)], args := [d] }
  | _ => none }
def FnExactCountDoersWrongFalsely : Prop := fnExactCountDoersRow.holds Try.pinned (OpenSpec.ofChange fnExactCountDoersWrong)

/- THE SECOND FORM. 'bulk': how many values and letters a reading holds, each counted each time it is reached (what is shared counts as often as it is met; a slice's spare places count too). A statement '..UptoSaid' is the law's where the arguments, and the package variables that the reading takes, are together of bulk at most 1048576: NARROWER than '..Said'. Prove '..Said' where nothing that the law and all that it calls make is longer than what came in: it says more and counts as full. Else prove '..UptoSaid'. A law counts once. -/
mutual
def uptoBulk {H : Type} : DataW H → Nat
  | .lit (.string bytes) => bytes.length + 1
  | .lit _ => 1
  | .nil => 1
  | .ptr d => uptoBulk d + 1
  | .slice elems spare => uptoBulkAll elems + uptoBulkAll spare + 1
  | .agg parts => uptoBulkAll parts + 1
  | .iface _ d => uptoBulk d + 1
  | .map entries => uptoBulkEntries entries + 1
  | .held _ => 1
def uptoBulkAll {H : Type} : List (DataW H) → Nat
  | [] => 0
  | d :: r => uptoBulk d + uptoBulkAll r
def uptoBulkEntries {H : Type} : List (Lit × DataW H) → Nat
  | [] => 0
  | x :: r => uptoBulkEntry x + uptoBulkEntries r
def uptoBulkEntry {H : Type} : Lit × DataW H → Nat
  | (.string bytes, d) => bytes.length + uptoBulk d + 1
  | (_, d) => uptoBulk d + 1
 end
def uptoSmall : (H : Type) → List (DataW H) → Bool := fun _ ds => decide (uptoBulkAll ds ≤ 1048576)
def OpenSpec.upto (s : _root_.Go.ChangeSpec) : _root_.Go.OpenSpec := { _root_.Go.OpenSpec.ofChange s with cond := some uptoSmall }

/-- 'laws.FnPrimaries', WHERE WHAT IT READS IS OF BULK AT MOST 1048576: true; the input reads as it did. -/
def fnPrimariesUptoRow : OpenClaim := { program := "ytcefhlkbbipmmaa", sum := "7e1464870c450bfbb5ebf8624fa2444162383e34995115d63c894a4f01448c76", func := "loop.example/g00277/laws.FnPrimaries", spec := "fnPrimaries", unfollowed := true, recurses := true, apart := false, narrowed := true }
def FnPrimariesUptoSaid : Prop := fnPrimariesUptoRow.holds Try.pinned (OpenSpec.upto fnPrimariesSpec)

/-- 'laws.FnChoices', WHERE WHAT IT READS IS OF BULK AT MOST 1048576: true; the input reads as it did. -/
def fnChoicesUptoRow : OpenClaim := { program := "ytcefhlkbbipmmaa", sum := "7e1464870c450bfbb5ebf8624fa2444162383e34995115d63c894a4f01448c76", func := "loop.example/g00277/laws.FnChoices", spec := "fnChoices", unfollowed := true, recurses := true, apart := false, narrowed := true }
def FnChoicesUptoSaid : Prop := fnChoicesUptoRow.holds Try.pinned (OpenSpec.upto fnChoicesSpec)

/-- 'laws.FnExactTimeoutReplica', WHERE WHAT IT READS IS OF BULK AT MOST 1048576: true; the input reads as it did. -/
def fnExactTimeoutReplicaUptoRow : OpenClaim := { program := "ytcefhlkbbipmmaa", sum := "7e1464870c450bfbb5ebf8624fa2444162383e34995115d63c894a4f01448c76", func := "loop.example/g00277/laws.FnExactTimeoutReplica", spec := "fnExactTimeoutReplica", unfollowed := true, recurses := true, apart := false, narrowed := true }
def FnExactTimeoutReplicaUptoSaid : Prop := fnExactTimeoutReplicaUptoRow.holds Try.pinned (OpenSpec.upto fnExactTimeoutReplicaSpec)

/-- 'laws.FnExactChosenOf', WHERE WHAT IT READS IS OF BULK AT MOST 1048576: true; the input reads as it did. -/
def fnExactChosenOfUptoRow : OpenClaim := { program := "ytcefhlkbbipmmaa", sum := "7e1464870c450bfbb5ebf8624fa2444162383e34995115d63c894a4f01448c76", func := "loop.example/g00277/laws.FnExactChosenOf", spec := "fnExactChosenOf", unfollowed := true, recurses := true, apart := false, narrowed := true }
def FnExactChosenOfUptoSaid : Prop := fnExactChosenOfUptoRow.holds Try.pinned (OpenSpec.upto fnExactChosenOfSpec)

/-- 'laws.FnExactTellOf', WHERE WHAT IT READS IS OF BULK AT MOST 1048576: true; the input reads as it did. -/
def fnExactTellOfUptoRow : OpenClaim := { program := "ytcefhlkbbipmmaa", sum := "7e1464870c450bfbb5ebf8624fa2444162383e34995115d63c894a4f01448c76", func := "loop.example/g00277/laws.FnExactTellOf", spec := "fnExactTellOf", unfollowed := true, recurses := true, apart := false, narrowed := true }
def FnExactTellOfUptoSaid : Prop := fnExactTellOfUptoRow.holds Try.pinned (OpenSpec.upto fnExactTellOfSpec)

/-- 'laws.FnExactCountAsks', WHERE WHAT IT READS IS OF BULK AT MOST 1048576: true; the input reads as it did. -/
def fnExactCountAsksUptoRow : OpenClaim := { program := "ytcefhlkbbipmmaa", sum := "7e1464870c450bfbb5ebf8624fa2444162383e34995115d63c894a4f01448c76", func := "loop.example/g00277/laws.FnExactCountAsks", spec := "fnExactCountAsks", unfollowed := true, recurses := true, apart := false, narrowed := true }
def FnExactCountAsksUptoSaid : Prop := fnExactCountAsksUptoRow.holds Try.pinned (OpenSpec.upto fnExactCountAsksSpec)

/-- 'laws.FnExactCountDoers', WHERE WHAT IT READS IS OF BULK AT MOST 1048576: true; the input reads as it did. -/
def fnExactCountDoersUptoRow : OpenClaim := { program := "ytcefhlkbbipmmaa", sum := "7e1464870c450bfbb5ebf8624fa2444162383e34995115d63c894a4f01448c76", func := "loop.example/g00277/laws.FnExactCountDoers", spec := "fnExactCountDoers", unfollowed := true, recurses := true, apart := false, narrowed := true }
def FnExactCountDoersUptoSaid : Prop := fnExactCountDoersUptoRow.holds Try.pinned (OpenSpec.upto fnExactCountDoersSpec)

end Rows
end Go.Proofs.Ytcefhlkbbipmmaa
