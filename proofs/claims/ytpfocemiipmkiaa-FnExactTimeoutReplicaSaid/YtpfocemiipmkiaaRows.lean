/-
  No cell of these rows narrows 'for every input' (looked for: loops, veiled, ifaces, maps, wideKeys, modest, calm, conditions, laid).
  DERIVED. THE GIVEN ROWS OF THIS SEAT. 8 by the template 'for every input the law returns true; each argument reads behind the call as it read before'; 0 by the template 'total and deterministic' (their statements: YtpfocemiipmkiaaTotals.lean).
  GIVEN WITH THE SEED: the statements are not yours to turn. If you find one false, say at which input.
  Laid BY PROGRAM, IN A SANDBOX (cutbox-rows.mjs): the forced cells as the released guide's own fill.sh prints them over the translation 2d217c492a32b8d2… (all of the seat's roots in one cut). By AI agents, Wed Nov 11 2026. No macro, syntax, notation, axiom, sorry.
-/
import Derived.Test.YtpfocemiipmkiaaChecked
import GoSem.Claim
import GoSem.ClaimJoined
import GoSem.ClaimMapViews
import Derived.JoinedTies
import Derived.KernelRfl
namespace Go.Proofs.Ytpfocemiipmkiaa
/- THE CELL 'sum', in the pinned program and in every row, IS THE sha256 OF THE DUMP (.gsa) THAT YtpfocemiipmkiaaProg.lean LOADS. Nothing in Lean hashes anything: it is a label: what it is worth is what the hold of that sum in a sandbox is worth. -/
noncomputable def Try.pinned : Pinned := { name := "ytpfocemiipmkiaa", sum := "2d217c492a32b8d2466ab917852e05017e7f303515d567de5da30e896b1b8da9", checked := Try.checked }
namespace Rows
def none {H : Type} : Left H := { results := [], args := [] }

/-- 'laws.FnPrimaries': WHATEVER THE INPUT: true; the input reads as it did. -/
def fnPrimariesSpec : ChangeSpec := { name := "fnPrimaries", fn := fun _ => fun
  | [d] => { results := [.lit (.bool true)], args := [d] }
  | _ => none }
def fnPrimariesRow : OpenClaim := { program := "ytpfocemiipmkiaa", sum := "2d217c492a32b8d2466ab917852e05017e7f303515d567de5da30e896b1b8da9", func := "loop.example/g00277/laws.FnPrimaries", spec := "fnPrimaries", unfollowed := true, recurses := true, apart := false }
def FnPrimariesSaid : Prop := fnPrimariesRow.holds Try.pinned (OpenSpec.ofChange fnPrimariesSpec)

/-- ITS FALSE NEIGHBOUR: 'it returns false'. Refute it at one input. -/
def fnPrimariesWrong : ChangeSpec := { name := "fnPrimaries", fn := fun _ => fun
  | [d] => { results := [.lit (.bool false)], args := [d] }
  | _ => none }
def FnPrimariesWrongFalsely : Prop := fnPrimariesRow.holds Try.pinned (OpenSpec.ofChange fnPrimariesWrong)

/-- 'laws.FnExactReplicaFault': WHATEVER THE INPUT: true; the input reads as it did. -/
def fnExactReplicaFaultSpec : ChangeSpec := { name := "fnExactReplicaFault", fn := fun _ => fun
  | [d] => { results := [.lit (.bool true)], args := [d] }
  | _ => none }
def fnExactReplicaFaultRow : OpenClaim := { program := "ytpfocemiipmkiaa", sum := "2d217c492a32b8d2466ab917852e05017e7f303515d567de5da30e896b1b8da9", func := "loop.example/g00277/laws.FnExactReplicaFault", spec := "fnExactReplicaFault", unfollowed := true, recurses := true, apart := false }
def FnExactReplicaFaultSaid : Prop := fnExactReplicaFaultRow.holds Try.pinned (OpenSpec.ofChange fnExactReplicaFaultSpec)

/-- ITS FALSE NEIGHBOUR: 'it returns false'. Refute it at one input. -/
def fnExactReplicaFaultWrong : ChangeSpec := { name := "fnExactReplicaFault", fn := fun _ => fun
  | [d] => { results := [.lit (.bool false)], args := [d] }
  | _ => none }
def FnExactReplicaFaultWrongFalsely : Prop := fnExactReplicaFaultRow.holds Try.pinned (OpenSpec.ofChange fnExactReplicaFaultWrong)

/-- 'laws.FnExactMailFault': WHATEVER THE INPUT: true; the input reads as it did. -/
def fnExactMailFaultSpec : ChangeSpec := { name := "fnExactMailFault", fn := fun _ => fun
  | [d1, d2] => { results := [.lit (.bool true)], args := [d1, d2] }
  | _ => none }
def fnExactMailFaultRow : OpenClaim := { program := "ytpfocemiipmkiaa", sum := "2d217c492a32b8d2466ab917852e05017e7f303515d567de5da30e896b1b8da9", func := "loop.example/g00277/laws.FnExactMailFault", spec := "fnExactMailFault", unfollowed := true, recurses := true, apart := false }
def FnExactMailFaultSaid : Prop := fnExactMailFaultRow.holds Try.pinned (OpenSpec.ofChange fnExactMailFaultSpec)

/-- ITS FALSE NEIGHBOUR: 'it returns false'. Refute it at one input. -/
def fnExactMailFaultWrong : ChangeSpec := { name := "fnExactMailFault", fn := fun _ => fun
  | [d1, d2] => { results := [.lit (.bool false)], args := [d1, d2] }
  | _ => none }
def FnExactMailFaultWrongFalsely : Prop := fnExactMailFaultRow.holds Try.pinned (OpenSpec.ofChange fnExactMailFaultWrong)

/-- 'laws.FnExactNewReplica': WHATEVER THE INPUT: true; the input reads as it did. -/
def fnExactNewReplicaSpec : ChangeSpec := { name := "fnExactNewReplica", fn := fun _ => fun
  | [d1, d2] => { results := [.lit (.bool true)], args := [d1, d2] }
  | _ => none }
def fnExactNewReplicaRow : OpenClaim := { program := "ytpfocemiipmkiaa", sum := "2d217c492a32b8d2466ab917852e05017e7f303515d567de5da30e896b1b8da9", func := "loop.example/g00277/laws.FnExactNewReplica", spec := "fnExactNewReplica", apart := false }
def FnExactNewReplicaSaid : Prop := fnExactNewReplicaRow.holds Try.pinned (OpenSpec.ofChange fnExactNewReplicaSpec)

/-- ITS FALSE NEIGHBOUR: 'it returns false'. Refute it at one input. -/
def fnExactNewReplicaWrong : ChangeSpec := { name := "fnExactNewReplica", fn := fun _ => fun
  | [d1, d2] => { results := [.lit (.bool false)], args := [d1, d2] }
  | _ => none }
def FnExactNewReplicaWrongFalsely : Prop := fnExactNewReplicaRow.holds Try.pinned (OpenSpec.ofChange fnExactNewReplicaWrong)

/-- 'laws.FnExactPrimaryOf': WHATEVER THE INPUT: true; the input reads as it did. -/
def fnExactPrimaryOfSpec : ChangeSpec := { name := "fnExactPrimaryOf", fn := fun _ => fun
  | [d1, d2] => { results := [.lit (.bool true)], args := [d1, d2] }
  | _ => none }
def fnExactPrimaryOfRow : OpenClaim := { program := "ytpfocemiipmkiaa", sum := "2d217c492a32b8d2466ab917852e05017e7f303515d567de5da30e896b1b8da9", func := "loop.example/g00277/laws.FnExactPrimaryOf", spec := "fnExactPrimaryOf", apart := false }
def FnExactPrimaryOfSaid : Prop := fnExactPrimaryOfRow.holds Try.pinned (OpenSpec.ofChange fnExactPrimaryOfSpec)

/-- ITS FALSE NEIGHBOUR: 'it returns false'. Refute it at one input. -/
def fnExactPrimaryOfWrong : ChangeSpec := { name := "fnExactPrimaryOf", fn := fun _ => fun
  | [d1, d2] => { results := [.lit (.bool false)], args := [d1, d2] }
  | _ => none }
def FnExactPrimaryOfWrongFalsely : Prop := fnExactPrimaryOfRow.holds Try.pinned (OpenSpec.ofChange fnExactPrimaryOfWrong)

/-- 'laws.FnExactTimeoutReplica': WHATEVER THE INPUT: true; the input reads as it did. -/
def fnExactTimeoutReplicaSpec : ChangeSpec := { name := "fnExactTimeoutReplica", fn := fun _ => fun
  | [d] => { results := [.lit (.bool true)], args := [d] }
  | _ => none }
def fnExactTimeoutReplicaRow : OpenClaim := { program := "ytpfocemiipmkiaa", sum := "2d217c492a32b8d2466ab917852e05017e7f303515d567de5da30e896b1b8da9", func := "loop.example/g00277/laws.FnExactTimeoutReplica", spec := "fnExactTimeoutReplica", unfollowed := true, recurses := true, apart := false }
def FnExactTimeoutReplicaSaid : Prop := fnExactTimeoutReplicaRow.holds Try.pinned (OpenSpec.ofChange fnExactTimeoutReplicaSpec)

/-- ITS FALSE NEIGHBOUR: 'it returns false'. Refute it at one input. -/
def fnExactTimeoutReplicaWrong : ChangeSpec := { name := "fnExactTimeoutReplica", fn := fun _ => fun
  | [d] => { results := [.lit (.bool false)], args := [d] }
  | _ => none }
def FnExactTimeoutReplicaWrongFalsely : Prop := fnExactTimeoutReplicaRow.holds Try.pinned (OpenSpec.ofChange fnExactTimeoutReplicaWrong)

/-- 'laws.FnExactCrashReplica': WHATEVER THE INPUT: true; the input reads as it did. -/
def fnExactCrashReplicaSpec : ChangeSpec := { name := "fnExactCrashReplica", fn := fun _ => fun
  | [d] => { results := [.lit (.bool true)], args := [d] }
  | _ => none }
def fnExactCrashReplicaRow : OpenClaim := { program := "ytpfocemiipmkiaa", sum := "2d217c492a32b8d2466ab917852e05017e7f303515d567de5da30e896b1b8da9", func := "loop.example/g00277/laws.FnExactCrashReplica", spec := "fnExactCrashReplica", unfollowed := true, recurses := true, apart := false }
def FnExactCrashReplicaSaid : Prop := fnExactCrashReplicaRow.holds Try.pinned (OpenSpec.ofChange fnExactCrashReplicaSpec)

/-- ITS FALSE NEIGHBOUR: 'it returns false'. Refute it at one input. -/
def fnExactCrashReplicaWrong : ChangeSpec := { name := "fnExactCrashReplica", fn := fun _ => fun
  | [d] => { results := [.lit (.bool false)], args := [d] }
  | _ => none }
def FnExactCrashReplicaWrongFalsely : Prop := fnExactCrashReplicaRow.holds Try.pinned (OpenSpec.ofChange fnExactCrashReplicaWrong)

/-- 'laws.FnExactAgreedBy': WHATEVER THE INPUT: true; the input reads as it did. -/
def fnExactAgreedBySpec : ChangeSpec := { name := "fnExactAgreedBy", fn := fun _ => fun
  | [d] => { results := [.lit (.bool true)], args := [d] }
  | _ => none }
def fnExactAgreedByRow : OpenClaim := { program := "ytpfocemiipmkiaa", sum := "2d217c492a32b8d2466ab917852e05017e7f303515d567de5da30e896b1b8da9", func := "loop.example/g00277/laws.FnExactAgreedBy", spec := "fnExactAgreedBy", unfollowed := true, recurses := true, apart := false }
def FnExactAgreedBySaid : Prop := fnExactAgreedByRow.holds Try.pinned (OpenSpec.ofChange fnExactAgreedBySpec)

/-- ITS FALSE NEIGHBOUR: 'it returns false'. Refute it at one input. -/
def fnExactAgreedByWrong : ChangeSpec := { name := "fnExactAgreedBy", fn := fun _ => fun
  | [d] => { results := [.lit (.bool false)], args := [d] }
  | _ => none }
def FnExactAgreedByWrongFalsely : Prop := fnExactAgreedByRow.holds Try.pinned (OpenSpec.ofChange fnExactAgreedByWrong)

/- THE SECOND FORM. 'bulk': how many values and letters a reading holds, each counted each time it is reached (what is shared counts as often as it is met; a slice's spare places count too). A statement '..UptoSaid' is the law's where the arguments, and the package variables that the reading takes, are together of bulk at most 1048576: NARROWER than '..Said'. Prove '..Said' where nothing that the law and all that it calls make is longer than what came in: it says more and counts as full. Else prove '..UptoSaid'. A law counts once. -/
mutual
def uptoBulk {H : Type} : DataW H → Nat
  | .lit (.string bytes) => bytes.length + 1
  | .lit _ => 1
  | .nil => 1
  | .ptr d => uptoBulk d + 1
  | .slice elems spare => uptoBulkAll elems + uptoBulkAll spare + 1
  | .agg parts => uptoBulkAll parts + 1
  | .iface _ d => uptoBulk d + 1
  | .map entries => uptoBulkEntries entries + 1
  | .held _ => 1
def uptoBulkAll {H : Type} : List (DataW H) → Nat
  | [] => 0
  | d :: r => uptoBulk d + uptoBulkAll r
def uptoBulkEntries {H : Type} : List (Lit × DataW H) → Nat
  | [] => 0
  | x :: r => uptoBulkEntry x + uptoBulkEntries r
def uptoBulkEntry {H : Type} : Lit × DataW H → Nat
  | (.string bytes, d) => bytes.length + uptoBulk d + 1
  | (_, d) => uptoBulk d + 1
 end
def uptoSmall : (H : Type) → List (DataW H) → Bool := fun _ ds => decide (uptoBulkAll ds ≤ 1048576)
def OpenSpec.upto (s : _root_.Go.ChangeSpec) : _root_.Go.OpenSpec := { _root_.Go.OpenSpec.ofChange s with cond := some uptoSmall }

/-- 'laws.FnPrimaries', WHERE WHAT IT READS IS OF BULK AT MOST 1048576: true; the input reads as it did. -/
def fnPrimariesUptoRow : OpenClaim := { program := "ytpfocemiipmkiaa", sum := "2d217c492a32b8d2466ab917852e05017e7f303515d567de5da30e896b1b8da9", func := "loop.example/g00277/laws.FnPrimaries", spec := "fnPrimaries", unfollowed := true, recurses := true, apart := false, narrowed := true }
def FnPrimariesUptoSaid : Prop := fnPrimariesUptoRow.holds Try.pinned (OpenSpec.upto fnPrimariesSpec)

/-- 'laws.FnExactReplicaFault', WHERE WHAT IT READS IS OF BULK AT MOST 1048576: true; the input reads as it did. -/
def fnExactReplicaFaultUptoRow : OpenClaim := { program := "ytpfocemiipmkiaa", sum := "2d217c492a32b8d2466ab917852e05017e7f303515d567de5da30e896b1b8da9", func := "loop.example/g00277/laws.FnExactReplicaFault", spec := "fnExactReplicaFault", unfollowed := true, recurses := true, apart := false, narrowed := true }
def FnExactReplicaFaultUptoSaid : Prop := fnExactReplicaFaultUptoRow.holds Try.pinned (OpenSpec.upto fnExactReplicaFaultSpec)

/-- 'laws.FnExactMailFault', WHERE WHAT IT READS IS OF BULK AT MOST 1048576: true; the input reads as it did. -/
def fnExactMailFaultUptoRow : OpenClaim := { program := "ytpfocemiipmkiaa", sum := "2d217c492a32b8d2466ab917852e05017e7f303515d567de5da30e896b1b8da9", func := "loop.example/g00277/laws.FnExactMailFault", spec := "fnExactMailFault", unfollowed := true, recurses := true, apart := false, narrowed := true }
def FnExactMailFaultUptoSaid : Prop := fnExactMailFaultUptoRow.holds Try.pinned (OpenSpec.upto fnExactMailFaultSpec)

/-- 'laws.FnExactNewReplica', WHERE WHAT IT READS IS OF BULK AT MOST 1048576: true; the input reads as it did. -/
def fnExactNewReplicaUptoRow : OpenClaim := { program := "ytpfocemiipmkiaa", sum := "2d217c492a32b8d2466ab917852e05017e7f303515d567de5da30e896b1b8da9", func := "loop.example/g00277/laws.FnExactNewReplica", spec := "fnExactNewReplica", apart := false, narrowed := true }
def FnExactNewReplicaUptoSaid : Prop := fnExactNewReplicaUptoRow.holds Try.pinned (OpenSpec.upto fnExactNewReplicaSpec)

/-- 'laws.FnExactPrimaryOf', WHERE WHAT IT READS IS OF BULK AT MOST 1048576: true; the input reads as it did. -/
def fnExactPrimaryOfUptoRow : OpenClaim := { program := "ytpfocemiipmkiaa", sum := "2d217c492a32b8d2466ab917852e05017e7f303515d567de5da30e896b1b8da9", func := "loop.example/g00277/laws.FnExactPrimaryOf", spec := "fnExactPrimaryOf", apart := false, narrowed := true }
def FnExactPrimaryOfUptoSaid : Prop := fnExactPrimaryOfUptoRow.holds Try.pinned (OpenSpec.upto fnExactPrimaryOfSpec)

/-- 'laws.FnExactTimeoutReplica', WHERE WHAT IT READS IS OF BULK AT MOST 1048576: true; the input reads as it did. -/
def fnExactTimeoutReplicaUptoRow : OpenClaim := { program := "ytpfocemiipmkiaa", sum := "2d217c492a32b8d2466ab917852e05017e7f303515d567de5da30e896b1b8da9", func := "loop.example/g00277/laws.FnExactTimeoutReplica", spec := "fnExactTimeoutReplica", unfollowed := true, recurses := true, apart := false, narrowed := true }
def FnExactTimeoutReplicaUptoSaid : Prop := fnExactTimeoutReplicaUptoRow.holds Try.pinned (OpenSpec.upto fnExactTimeoutReplicaSpec)

/-- 'laws.FnExactCrashReplica', WHERE WHAT IT READS IS OF BULK AT MOST 1048576: true; the input reads as it did. -/
def fnExactCrashReplicaUptoRow : OpenClaim := { program := "ytpfocemiipmkiaa", sum := "2d217c492a32b8d2466ab917852e05017e7f303515d567de5da30e896b1b8da9", func := "loop.example/g00277/laws.FnExactCrashReplica", spec := "fnExactCrashReplica", unfollowed := true, recurses := true, apart := false, narrowed := true }
def FnExactCrashReplicaUptoSaid : Prop := fnExactCrashReplicaUptoRow.holds Try.pinned (OpenSpec.upto fnExactCrashReplicaSpec)

/-- 'laws.FnExactAgreedBy', WHERE WHAT IT READS IS OF BULK AT MOST 1048576: true; the input reads as it did. -/
def fnExactAgreedByUptoRow : OpenClaim := { program := "ytpfocemiipmkiaa", sum := "2d217c492a32b8d2466ab917852e05017e7f303515d567de5da30e896b1b8da9", func := "loop.example/g00277/laws.FnExactAgreedBy", spec := "fnExactAgreedBy", unfollowed := true, recurses := true, apart := false, narrowed := true }
def FnExactAgreedByUptoSaid : Prop := fnExactAgreedByUptoRow.holds Try.pinned (OpenSpec.upto fnExactAgreedBySpec)

end Rows
end Go.Proofs.Ytpfocemiipmkiaa
