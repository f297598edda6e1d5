/-
  No cell of these rows narrows 'for every input' (looked for: loops, veiled, ifaces, maps, wideKeys, modest, calm, conditions, laid).
  DERIVED. THE GIVEN ROWS OF THIS SEAT. 5 by the template 'for every input the law returns true; each argument reads behind the call as it read before'; 0 by the template 'total and deterministic' (their statements: YtcpmdcegcpgahaaTotals.lean).
  GIVEN WITH THE SEED: the statements are not yours to turn. If you find one false, say at which input.
  Laid BY PROGRAM, IN A SANDBOX (cutbox-rows.mjs): the forced cells as the released guide's own fill.sh prints them over the translation b483226d4fa8ae10… (all of the seat's roots in one cut). By AI agents, Wed Nov 11 2026. No macro, syntax, notation, axiom, sorry.
-/
import Derived.Test.YtcpmdcegcpgahaaChecked
import GoSem.Claim
import GoSem.ClaimJoined
import GoSem.ClaimMapViews
import Derived.JoinedTies
import Derived.KernelRfl
namespace Go.Proofs.Ytcpmdcegcpgahaa
/- THE CELL 'sum', in the pinned program and in every row, IS THE sha256 OF THE DUMP (.gsa) THAT YtcpmdcegcpgahaaProg.lean LOADS. Nothing in Lean hashes anything: it is a label: what it is worth is what the hold of that sum in a sandbox is worth. -/
noncomputable def Try.pinned : Pinned := { name := "ytcpmdcegcpgahaa", sum := "b483226d4fa8ae10776ee935f254bd7fc6a40d7663b66791a55b8a021f45c842", checked := Try.checked }
namespace Rows
def none {H : Type} : Left H := { results := [], args := [] }

/-- 'laws.FnExactJoinChunks': WHATEVER THE INPUT: true; the input reads as it did. -/
def fnExactJoinChunksSpec : ChangeSpec := { name := "fnExactJoinChunks", fn := fun _ => fun
  | [d] => { results := [.lit (.bool true)], args := [d] }
  | _ => none }
def fnExactJoinChunksRow : OpenClaim := { program := "ytcpmdcegcpgahaa", sum := "b483226d4fa8ae10776ee935f254bd7fc6a40d7663b66791a55b8a021f45c842", func := "loop.example/g00277/laws.FnExactJoinChunks", spec := "fnExactJoinChunks", plainKeys := false, apart := false }
def FnExactJoinChunksSaid : Prop := fnExactJoinChunksRow.holds Try.pinned (OpenSpec.ofChange fnExactJoinChunksSpec)

/-- ITS FALSE NEIGHBOUR: 'it returns false'. Refute it at one input. -/
def fnExactJoinChunksWrong : ChangeSpec := { name := "fnExactJoinChunks", fn := fun _ => fun
  | [d] => { results := [.lit (.bool false)], args := [d] }
  | _ => none }
def FnExactJoinChunksWrongFalsely : Prop := fnExactJoinChunksRow.holds Try.pinned (OpenSpec.ofChange fnExactJoinChunksWrong)

/-- 'laws.FnExactPlainOf': WHATEVER THE INPUT: true; the input reads as it did. -/
def fnExactPlainOfSpec : ChangeSpec := { name := "fnExactPlainOf", fn := fun _ => fun
  | [d] => { results := [.lit (.bool true)], args := [d] }
  | _ => none }
def fnExactPlainOfRow : OpenClaim := { program := "ytcpmdcegcpgahaa", sum := "b483226d4fa8ae10776ee935f254bd7fc6a40d7663b66791a55b8a021f45c842", func := "loop.example/g00277/laws.FnExactPlainOf", spec := "fnExactPlainOf", plainKeys := false, apart := false }
def FnExactPlainOfSaid : Prop := fnExactPlainOfRow.holds Try.pinned (OpenSpec.ofChange fnExactPlainOfSpec)

/-- ITS FALSE NEIGHBOUR: 'it returns false'. Refute it at one input. -/
def fnExactPlainOfWrong : ChangeSpec := { name := "fnExactPlainOf", fn := fun _ => fun
  | [d] => { results := [.lit (.bool false)], args := [d] }
  | _ => none }
def FnExactPlainOfWrongFalsely : Prop := fnExactPlainOfRow.holds Try.pinned (OpenSpec.ofChange fnExactPlainOfWrong)

/-- 'laws.FnExactApplyPlain': WHATEVER THE INPUT: true; the input reads as it did. -/
def fnExactApplyPlainSpec : ChangeSpec := { name := "fnExactApplyPlain", fn := fun _ => fun
  | [d1, d2, d3] => { results := [.lit (.bool true)], args := [d1, d2, d3] }
  | _ => none }
def fnExactApplyPlainRow : OpenClaim := { program := "ytcpmdcegcpgahaa", sum := "b483226d4fa8ae10776ee935f254bd7fc6a40d7663b66791a55b8a021f45c842", func := "loop.example/g00277/laws.FnExactApplyPlain", spec := "fnExactApplyPlain", inPlace := ["slices.overlaps[loop.example/g00277/impl.Vol]"], unfollowed := true, recurses := true, plainKeys := false, apart := false }
def FnExactApplyPlainSaid : Prop := fnExactApplyPlainRow.holds Try.pinned (OpenSpec.ofChange fnExactApplyPlainSpec)

/-- ITS FALSE NEIGHBOUR: 'it returns false'. Refute it at one input. -/
def fnExactApplyPlainWrong : ChangeSpec := { name := "fnExactApplyPlain", fn := fun _ => fun
  | [d1, d2, d3] => { results := [.lit (.bool false)], args := [d1, d2, d3] }
  | _ => none }
def FnExactApplyPlainWrongFalsely : Prop := fnExactApplyPlainRow.holds Try.pinned (OpenSpec.ofChange fnExactApplyPlainWrong)

/-- 'laws.FnExactDeltaOf': WHATEVER THE INPUT: true; the input reads as it did. -/
def fnExactDeltaOfSpec : ChangeSpec := { name := "fnExactDeltaOf", fn := fun _ => fun
  | [d1, d2] => { results := [.lit (.bool true)], args := [d1, d2] }
  | _ => none }
def fnExactDeltaOfRow : OpenClaim := { program := "ytcpmdcegcpgahaa", sum := "b483226d4fa8ae10776ee935f254bd7fc6a40d7663b66791a55b8a021f45c842", func := "loop.example/g00277/laws.FnExactDeltaOf", spec := "fnExactDeltaOf", unfollowed := true, recurses := true, plainKeys := false, apart := false }
def FnExactDeltaOfSaid : Prop := fnExactDeltaOfRow.holds Try.pinned (OpenSpec.ofChange fnExactDeltaOfSpec)

/-- ITS FALSE NEIGHBOUR: 'it returns false'. Refute it at one input. -/
def fnExactDeltaOfWrong : ChangeSpec := { name := "fnExactDeltaOf", fn := fun _ => fun
  | [d1, d2] => { results := [.lit (.bool false)], args := [d1, d2] }
  | _ => none }
def FnExactDeltaOfWrongFalsely : Prop := fnExactDeltaOfRow.holds Try.pinned (OpenSpec.ofChange fnExactDeltaOfWrong)

/-- 'laws.FnExactTakeDelta': WHATEVER THE INPUT: true; the input reads as it did. -/
def fnExactTakeDeltaSpec : ChangeSpec := { name := "fnExactTakeDelta", fn := fun _ => fun
  | [d1, d2] => { results := [.lit (.bool true)], args := [d1, d2] }
  | _ => none }
def fnExactTakeDeltaRow : OpenClaim := { program := "ytcpmdcegcpgahaa", sum := "b483226d4fa8ae10776ee935f254bd7fc6a40d7663b66791a55b8a021f45c842", func := "loop.example/g00277/laws.FnExactTakeDelta", spec := "fnExactTakeDelta", inPlace := ["slices.overlaps[loop.example/g00277/impl.Cell]"], unfollowed := true, recurses := true, plainKeys := false, apart := false }
def FnExactTakeDeltaSaid : Prop := fnExactTakeDeltaRow.holds Try.pinned (OpenSpec.ofChange fnExactTakeDeltaSpec)

/-- ITS FALSE NEIGHBOUR: 'it returns false'. Refute it at one input. -/
def fnExactTakeDeltaWrong : ChangeSpec := { name := "fnExactTakeDelta", fn := fun _ => fun
  | [d1, d2] => { results := [.lit (.bool false)], args := [d1, d2] }
  | _ => none }
def FnExactTakeDeltaWrongFalsely : Prop := fnExactTakeDeltaRow.holds Try.pinned (OpenSpec.ofChange fnExactTakeDeltaWrong)

/- THE SECOND FORM. 'bulk': how many values and letters a reading holds, each counted each time it is reached (what is shared counts as often as it is met; a slice's spare places count too). A statement '..UptoSaid' is the law's where the arguments, and the package variables that the reading takes, are together of bulk at most 1048576: NARROWER than '..Said'. Prove '..Said' where nothing that the law and all that it calls make is longer than what came in: it says more and counts as full. Else prove '..UptoSaid'. A law counts once. -/
mutual
def uptoBulk {H : Type} : DataW H → Nat
  | .lit (.string bytes) => bytes.length + 1
  | .lit _ => 1
  | .nil => 1
  | .ptr d => uptoBulk d + 1
  | .slice elems spare => uptoBulkAll elems + uptoBulkAll spare + 1
  | .agg parts => uptoBulkAll parts + 1
  | .iface _ d => uptoBulk d + 1
  | .map entries => uptoBulkEntries entries + 1
  | .held _ => 1
def uptoBulkAll {H : Type} : List (DataW H) → Nat
  | [] => 0
  | d :: r => uptoBulk d + uptoBulkAll r
def uptoBulkEntries {H : Type} : List (Lit × DataW H) → Nat
  | [] => 0
  | x :: r => uptoBulkEntry x + uptoBulkEntries r
def uptoBulkEntry {H : Type} : Lit × DataW H → Nat
  | (.string bytes, d) => bytes.length + uptoBulk d + 1
  | (_, d) => uptoBulk d + 1
 end
def uptoSmall : (H : Type) → List (DataW H) → Bool := fun _ ds => decide (uptoBulkAll ds ≤ 1048576)
def OpenSpec.upto (s : _root_.Go.ChangeSpec) : _root_.Go.OpenSpec := { _root_.Go.OpenSpec.ofChange s with cond := some uptoSmall }

/-- 'laws.FnExactJoinChunks', WHERE WHAT IT READS IS OF BULK AT MOST 1048576: true; the input reads as it did. -/
def fnExactJoinChunksUptoRow : OpenClaim := { program := "ytcpmdcegcpgahaa", sum := "b483226d4fa8ae10776ee935f254bd7fc6a40d7663b66791a55b8a021f45c842", func := "loop.example/g00277/laws.FnExactJoinChunks", spec := "fnExactJoinChunks", plainKeys := false, apart := false, narrowed := true }
def FnExactJoinChunksUptoSaid : Prop := fnExactJoinChunksUptoRow.holds Try.pinned (OpenSpec.upto fnExactJoinChunksSpec)

/-- 'laws.FnExactPlainOf', WHERE WHAT IT READS IS OF BULK AT MOST 1048576: true; the input reads as it did. -/
def fnExactPlainOfUptoRow : OpenClaim := { program := "ytcpmdcegcpgahaa", sum := "b483226d4fa8ae10776ee935f254bd7fc6a40d7663b66791a55b8a021f45c842", func := "loop.example/g00277/laws.FnExactPlainOf", spec := "fnExactPlainOf", plainKeys := false, apart := false, narrowed := true }
def FnExactPlainOfUptoSaid : Prop := fnExactPlainOfUptoRow.holds Try.pinned (OpenSpec.upto fnExactPlainOfSpec)

/-- 'laws.FnExactApplyPlain', WHERE WHAT IT READS IS OF BULK AT MOST 1048576: true; the input reads as it did. -/
def fnExactApplyPlainUptoRow : OpenClaim := { program := "ytcpmdcegcpgahaa", sum := "b483226d4fa8ae10776ee935f254bd7fc6a40d7663b66791a55b8a021f45c842", func := "loop.example/g00277/laws.FnExactApplyPlain", spec := "fnExactApplyPlain", inPlace := ["slices.overlaps[loop.example/g00277/impl.Vol]"], unfollowed := true, recurses := true, plainKeys := false, apart := false, narrowed := true }
def FnExactApplyPlainUptoSaid : Prop := fnExactApplyPlainUptoRow.holds Try.pinned (OpenSpec.upto fnExactApplyPlainSpec)

/-- 'laws.FnExactDeltaOf', WHERE WHAT IT READS IS OF BULK AT MOST 1048576: true; the input reads as it did. -/
def fnExactDeltaOfUptoRow : OpenClaim := { program := "ytcpmdcegcpgahaa", sum := "b483226d4fa8ae10776ee935f254bd7fc6a40d7663b66791a55b8a021f45c842", func := "loop.example/g00277/laws.FnExactDeltaOf", spec := "fnExactDeltaOf", unfollowed := true, recurses := true, plainKeys := false, apart := false, narrowed := true }
def FnExactDeltaOfUptoSaid : Prop := fnExactDeltaOfUptoRow.holds Try.pinned (OpenSpec.upto fnExactDeltaOfSpec)

/-- 'laws.FnExactTakeDelta', WHERE WHAT IT READS IS OF BULK AT MOST 1048576: true; the input reads as it did. -/
def fnExactTakeDeltaUptoRow : OpenClaim := { program := "ytcpmdcegcpgahaa", sum := "b483226d4fa8ae10776ee935f254bd7fc6a40d7663b66791a55b8a021f45c842", func := "loop.example/g00277/laws.FnExactTakeDelta", spec := "fnExactTakeDelta", inPlace := ["slices.overlaps[loop.example/g00277/impl.Cell]"], unfollowed := true, recurses := true, plainKeys := false, apart := false, narrowed := true }
def FnExactTakeDeltaUptoSaid : Prop := fnExactTakeDeltaUptoRow.holds Try.pinned (OpenSpec.upto fnExactTakeDeltaSpec)

end Rows
end Go.Proofs.Ytcpmdcegcpgahaa
