/-
  No cell of these rows narrows 'for every input' (looked for: loops, veiled, ifaces, maps, wideKeys, modest, calm, conditions, laid).
  DERIVED. THE GIVEN ROWS OF THIS SEAT. 11 by the template 'for every input the law returns true; each argument reads behind the call as it read before'; 0 by the template 'total and deterministic' (their statements: YtgldocaohcoleaaGreatTotals.lean).
  GIVEN WITH THE SEED: the statements are not yours to turn. If you find one false, say at which input.
  Laid BY PROGRAM, IN A SANDBOX (cutbox-rows.mjs): the forced cells as the released guide's own fill.sh prints them over the translation 18a5875dae408a22… (all of the seat's roots in one cut). By AI agents, Wed Nov 11 2026. No macro, syntax, notation, axiom, sorry.
-/
import Derived.Test.YtgldocaohcoleaaGreatChecked
import GoSem.Claim
import GoSem.ClaimJoined
import GoSem.ClaimMapViews
import Derived.JoinedTies
import Derived.KernelRfl
namespace Go.Proofs.YtgldocaohcoleaaGreat
/- THE CELL 'sum', in the pinned program and in every row, IS THE sha256 OF THE DUMP (.gsa) THAT YtgldocaohcoleaaGreatProg.lean LOADS. Nothing in Lean hashes anything: it is a label: what it is worth is what the hold of that sum in a sandbox is worth. -/
noncomputable def Tryz.pinned : Pinned := { name := "ytgldocaohcoleaagreat", sum := "18a5875dae408a22fd4bde078df3ebfa5227987766862299c62de40da3d7bc8a", checked := Tryz.checked }
namespace Rows
def none {H : Type} : Left H := { results := [], args := [] }

/-- 'laws.FnExactTimeoutAt': WHATEVER THE INPUT: true; the input reads as it did. -/
def fnExactTimeoutAtSpec : ChangeSpec := { name := "fnExactTimeoutAt", fn := fun _ => fun
  | [d1, d2] => { results := [.lit (.bool true)], args := [d1, d2] }
  | _ => none }
def fnExactTimeoutAtRow : OpenClaim := { program := "ytgldocaohcoleaagreat", sum := "18a5875dae408a22fd4bde078df3ebfa5227987766862299c62de40da3d7bc8a", func := "loop.example/g00277/laws.FnExactTimeoutAt", spec := "fnExactTimeoutAt", unfollowed := true, recurses := true, apart := false }
def FnExactTimeoutAtSaid : Prop := fnExactTimeoutAtRow.holds Tryz.pinned (OpenSpec.ofChange fnExactTimeoutAtSpec)

/-- ITS FALSE NEIGHBOUR: 'it returns false'. Refute it at one input. -/
def fnExactTimeoutAtWrong : ChangeSpec := { name := "fnExactTimeoutAt", fn := fun _ => fun
  | [d1, d2] => { results := [.lit (.bool false)], args := [d1, d2] }
  | _ => none }
def FnExactTimeoutAtWrongFalsely : Prop := fnExactTimeoutAtRow.holds Tryz.pinned (OpenSpec.ofChange fnExactTimeoutAtWrong)

/-- 'laws.FnExactBeatAt': WHATEVER THE INPUT: true; the input reads as it did. -/
def fnExactBeatAtSpec : ChangeSpec := { name := "fnExactBeatAt", fn := fun _ => fun
  | [d1, d2] => { results := [.lit (.bool true)], args := [d1, d2] }
  | _ => none }
def fnExactBeatAtRow : OpenClaim := { program := "ytgldocaohcoleaagreat", sum := "18a5875dae408a22fd4bde078df3ebfa5227987766862299c62de40da3d7bc8a", func := "loop.example/g00277/laws.FnExactBeatAt", spec := "fnExactBeatAt", unfollowed := true, recurses := true, apart := false }
def FnExactBeatAtSaid : Prop := fnExactBeatAtRow.holds Tryz.pinned (OpenSpec.ofChange fnExactBeatAtSpec)

/-- ITS FALSE NEIGHBOUR: 'it returns false'. Refute it at one input. -/
def fnExactBeatAtWrong : ChangeSpec := { name := "fnExactBeatAt", fn := fun _ => fun
  | [d1, d2] => { results := [.lit (.bool false)], args := [d1, d2] }
  | _ => none }
def FnExactBeatAtWrongFalsely : Prop := fnExactBeatAtRow.holds Tryz.pinned (OpenSpec.ofChange fnExactBeatAtWrong)

/-- 'laws.FnExactCrashAt': WHATEVER THE INPUT: true; the input reads as it did. -/
def fnExactCrashAtSpec : ChangeSpec := { name := "fnExactCrashAt", fn := fun _ => fun
  | [d1, d2] => { results := [.lit (.bool true)], args := [d1, d2] }
  | _ => none }
def fnExactCrashAtRow : OpenClaim := { program := "ytgldocaohcoleaagreat", sum := "18a5875dae408a22fd4bde078df3ebfa5227987766862299c62de40da3d7bc8a", func := "loop.example/g00277/laws.FnExactCrashAt", spec := "fnExactCrashAt", unfollowed := true, recurses := true, apart := false }
def FnExactCrashAtSaid : Prop := fnExactCrashAtRow.holds Tryz.pinned (OpenSpec.ofChange fnExactCrashAtSpec)

/-- ITS FALSE NEIGHBOUR: 'it returns false'. Refute it at one input. -/
def fnExactCrashAtWrong : ChangeSpec := { name := "fnExactCrashAt", fn := fun _ => fun
  | [d1, d2] => { results := [.lit (.bool false)], args := [d1, d2] }
  | _ => none }
def FnExactCrashAtWrongFalsely : Prop := fnExactCrashAtRow.holds Tryz.pinned (OpenSpec.ofChange fnExactCrashAtWrong)

/-- 'laws.FnExactAskAt': WHATEVER THE INPUT: true; the input reads as it did. -/
def fnExactAskAtSpec : ChangeSpec := { name := "fnExactAskAt", fn := fun _ => fun
  | [d1, d2, d3] => { results := [.lit (.bool true)], args := [d1, d2, d3] }
  | _ => none }
def fnExactAskAtRow : OpenClaim := { program := "ytgldocaohcoleaagreat", sum := "18a5875dae408a22fd4bde078df3ebfa5227987766862299c62de40da3d7bc8a", func := "loop.example/g00277/laws.FnExactAskAt", spec := "fnExactAskAt", unfollowed := true, recurses := true, apart := false }
def FnExactAskAtSaid : Prop := fnExactAskAtRow.holds Tryz.pinned (OpenSpec.ofChange fnExactAskAtSpec)

/-- ITS FALSE NEIGHBOUR: 'it returns false'. Refute it at one input. -/
def fnExactAskAtWrong : ChangeSpec := { name := "fnExactAskAt", fn := fun _ => fun
  | [d1, d2, d3] => { results := [.lit (.bool false)], args := [d1, d2, d3] }
  | _ => none }
def FnExactAskAtWrongFalsely : Prop := fnExactAskAtRow.holds Tryz.pinned (OpenSpec.ofChange fnExactAskAtWrong)

/-- 'laws.FnExactLoseMail': WHATEVER THE INPUT: true; the input reads as it did. -/
def fnExactLoseMailSpec : ChangeSpec := { name := "fnExactLoseMail", fn := fun _ => fun
  | [d1, d2] => { results := [.lit (.bool true)], args := [d1, d2] }
  | _ => none }
def fnExactLoseMailRow : OpenClaim := { program := "ytgldocaohcoleaagreat", sum := "18a5875dae408a22fd4bde078df3ebfa5227987766862299c62de40da3d7bc8a", func := "loop.example/g00277/laws.FnExactLoseMail", spec := "fnExactLoseMail", unfollowed := true, recurses := true, apart := false }
def FnExactLoseMailSaid : Prop := fnExactLoseMailRow.holds Tryz.pinned (OpenSpec.ofChange fnExactLoseMailSpec)

/-- ITS FALSE NEIGHBOUR: 'it returns false'. Refute it at one input. -/
def fnExactLoseMailWrong : ChangeSpec := { name := "fnExactLoseMail", fn := fun _ => fun
  | [d1, d2] => { results := [.lit (.bool false)], args := [d1, d2] }
  | _ => none }
def FnExactLoseMailWrongFalsely : Prop := fnExactLoseMailRow.holds Tryz.pinned (OpenSpec.ofChange fnExactLoseMailWrong)

/-- 'laws.FnNews': WHATEVER THE INPUT: true; the input reads as it did. -/
def fnNewsSpec : ChangeSpec := { name := "fnNews", fn := fun _ => fun
  | [d] => { results := [.lit (.bool true)], args := [d] }
  | _ => none }
def fnNewsRow : OpenClaim := { program := "ytgldocaohcoleaagreat", sum := "18a5875dae408a22fd4bde078df3ebfa5227987766862299c62de40da3d7bc8a", func := "loop.example/g00277/laws.FnNews", spec := "fnNews", unfollowed := true, recurses := true, apart := false }
def FnNewsSaid : Prop := fnNewsRow.holds Tryz.pinned (OpenSpec.ofChange fnNewsSpec)

/-- ITS FALSE NEIGHBOUR: 'it returns false'. Refute it at one input. -/
def fnNewsWrong : ChangeSpec := { name := "fnNews", fn := fun _ => fun
  | [d] => { results := [.lit (.bool false)], args := [d] }
  | _ => none }
def FnNewsWrongFalsely : Prop := fnNewsRow.holds Tryz.pinned (OpenSpec.ofChange fnNewsWrong)

/-- 'laws.FnLasting': WHATEVER THE INPUT: true; the input reads as it did. -/
def fnLastingSpec : ChangeSpec := { name := "fnLasting", fn := fun _ => fun
  | [d] => { results := [.lit (.bool true)], args := [d] }
  | _ => none }
def fnLastingRow : OpenClaim := { program := "ytgldocaohcoleaagreat", sum := "18a5875dae408a22fd4bde078df3ebfa5227987766862299c62de40da3d7bc8a", func := "loop.example/g00277/laws.FnLasting", spec := "fnLasting", unfollowed := true, recurses := true, apart := false }
def FnLastingSaid : Prop := fnLastingRow.holds Tryz.pinned (OpenSpec.ofChange fnLastingSpec)

/-- ITS FALSE NEIGHBOUR: 'it returns false'. Refute it at one input. -/
def fnLastingWrong : ChangeSpec := { name := "fnLasting", fn := fun _ => fun
  | [d] => { results := [.lit (.bool false)], args := [d] }
  | _ => none }
def FnLastingWrongFalsely : Prop := fnLastingRow.holds Tryz.pinned (OpenSpec.ofChange fnLastingWrong)

/-- 'laws.FnBeats': WHATEVER THE INPUT: true; the input reads as it did. -/
def fnBeatsSpec : ChangeSpec := { name := "fnBeats", fn := fun _ => fun
  | [d] => { results := [.lit (.bool true)], args := [d] }
  | _ => none }
def fnBeatsRow : OpenClaim := { program := "ytgldocaohcoleaagreat", sum := "18a5875dae408a22fd4bde078df3ebfa5227987766862299c62de40da3d7bc8a", func := "loop.example/g00277/laws.FnBeats", spec := "fnBeats", unfollowed := true, recurses := true, apart := false }
def FnBeatsSaid : Prop := fnBeatsRow.holds Tryz.pinned (OpenSpec.ofChange fnBeatsSpec)

/-- ITS FALSE NEIGHBOUR: 'it returns false'. Refute it at one input. -/
def fnBeatsWrong : ChangeSpec := { name := "fnBeats", fn := fun _ => fun
  | [d] => { results := [.lit (.bool false)], args := [d] }
  | _ => none }
def FnBeatsWrongFalsely : Prop := fnBeatsRow.holds Tryz.pinned (OpenSpec.ofChange fnBeatsWrong)

/-- 'laws.FnExactHearReplica': WHATEVER THE INPUT: true; the input reads as it did. -/
def fnExactHearReplicaSpec : ChangeSpec := { name := "fnExactHearReplica", fn := fun _ => fun
  | [d1, d2] => { results := [.lit (.bool true)], args := [d1, d2] }
  | _ => none }
def fnExactHearReplicaRow : OpenClaim := { program := "ytgldocaohcoleaagreat", sum := "18a5875dae408a22fd4bde078df3ebfa5227987766862299c62de40da3d7bc8a", func := "loop.example/g00277/laws.FnExactHearReplica", spec := "fnExactHearReplica", unfollowed := true, recurses := true, apart := false }
def FnExactHearReplicaSaid : Prop := fnExactHearReplicaRow.holds Tryz.pinned (OpenSpec.ofChange fnExactHearReplicaSpec)

/-- ITS FALSE NEIGHBOUR: 'it returns false'. Refute it at one input. -/
def fnExactHearReplicaWrong : ChangeSpec := { name := "fnExactHearReplica", fn := fun _ => fun
  | [d1, d2] => { results := [.lit (.bool false)], args := [d1, d2] }
  | _ => none }
def FnExactHearReplicaWrongFalsely : Prop := fnExactHearReplicaRow.holds Tryz.pinned (OpenSpec.ofChange fnExactHearReplicaWrong)

/-- 'laws.FnExactDeliverMail': WHATEVER THE INPUT: true; the input reads as it did. -/
def fnExactDeliverMailSpec : ChangeSpec := { name := "fnExactDeliverMail", fn := fun _ => fun
  | [d1, d2, d3] => { results := [.lit (.bool true)], args := [d1, d2, d3] }
  | _ => none }
def fnExactDeliverMailRow : OpenClaim := { program := "ytgldocaohcoleaagreat", sum := "18a5875dae408a22fd4bde078df3ebfa5227987766862299c62de40da3d7bc8a", func := "loop.example/g00277/laws.FnExactDeliverMail", spec := "fnExactDeliverMail", unfollowed := true, recurses := true, apart := false }
def FnExactDeliverMailSaid : Prop := fnExactDeliverMailRow.holds Tryz.pinned (OpenSpec.ofChange fnExactDeliverMailSpec)

/-- ITS FALSE NEIGHBOUR: 'it returns false'. Refute it at one input. -/
def fnExactDeliverMailWrong : ChangeSpec := { name := "fnExactDeliverMail", fn := fun _ => fun
  | [d1, d2, d3] => { results := [.lit (.bool false)], args := [d1, d2, d3] }
  | _ => none }
def FnExactDeliverMailWrongFalsely : Prop := fnExactDeliverMailRow.holds Tryz.pinned (OpenSpec.ofChange fnExactDeliverMailWrong)

/-- 'laws.FnHears': WHATEVER THE INPUT: true; the input reads as it did. -/
def fnHearsSpec : ChangeSpec := { name := "fnHears", fn := fun _ => fun
  | [d] => { results := [.lit (.bool true)], args := [d] }
  | _ => none }
def fnHearsRow : OpenClaim := { program := "ytgldocaohcoleaagreat", sum := "18a5875dae408a22fd4bde078df3ebfa5227987766862299c62de40da3d7bc8a", func := "loop.example/g00277/laws.FnHears", spec := "fnHears", unfollowed := true, recurses := true, apart := false }
def FnHearsSaid : Prop := fnHearsRow.holds Tryz.pinned (OpenSpec.ofChange fnHearsSpec)

/-- ITS FALSE NEIGHBOUR: 'it returns false'. Refute it at one input. -/
def fnHearsWrong : ChangeSpec := { name := "fnHears", fn := fun _ => fun
  | [d] => { results := [.lit (.bool false)], args := [d] }
  | _ => none }
def FnHearsWrongFalsely : Prop := fnHearsRow.holds Tryz.pinned (OpenSpec.ofChange fnHearsWrong)

/- THE SECOND FORM. 'bulk': how many values and letters a reading holds, each counted each time it is reached (what is shared counts as often as it is met; a slice's spare places count too). A statement '..UptoSaid' is the law's where the arguments, and the package variables that the reading takes, are together of bulk at most 1048576: NARROWER than '..Said'. Prove '..Said' where nothing that the law and all that it calls make is longer than what came in: it says more and counts as full. Else prove '..UptoSaid'. A law counts once. -/
mutual
def uptoBulk {H : Type} : DataW H → Nat
  | .lit (.string bytes) => bytes.length + 1
  | .lit _ => 1
  | .nil => 1
  | .ptr d => uptoBulk d + 1
  | .slice elems spare => uptoBulkAll elems + uptoBulkAll spare + 1
  | .agg parts => uptoBulkAll parts + 1
  | .iface _ d => uptoBulk d + 1
  | .map entries => uptoBulkEntries entries + 1
  | .held _ => 1
def uptoBulkAll {H : Type} : List (DataW H) → Nat
  | [] => 0
  | d :: r => uptoBulk d + uptoBulkAll r
def uptoBulkEntries {H : Type} : List (Lit × DataW H) → Nat
  | [] => 0
  | x :: r => uptoBulkEntry x + uptoBulkEntries r
def uptoBulkEntry {H : Type} : Lit × DataW H → Nat
  | (.string bytes, d) => bytes.length + uptoBulk d + 1
  | (_, d) => uptoBulk d + 1
 end
def uptoSmall : (H : Type) → List (DataW H) → Bool := fun _ ds => decide (uptoBulkAll ds ≤ 1048576)
def OpenSpec.upto (s : _root_.Go.ChangeSpec) : _root_.Go.OpenSpec := { _root_.Go.OpenSpec.ofChange s with cond := some uptoSmall }

/-- 'laws.FnExactTimeoutAt', WHERE WHAT IT READS IS OF BULK AT MOST 1048576: true; the input reads as it did. -/
def fnExactTimeoutAtUptoRow : OpenClaim := { program := "ytgldocaohcoleaagreat", sum := "18a5875dae408a22fd4bde078df3ebfa5227987766862299c62de40da3d7bc8a", func := "loop.example/g00277/laws.FnExactTimeoutAt", spec := "fnExactTimeoutAt", unfollowed := true, recurses := true, apart := false, narrowed := true }
def FnExactTimeoutAtUptoSaid : Prop := fnExactTimeoutAtUptoRow.holds Tryz.pinned (OpenSpec.upto fnExactTimeoutAtSpec)

/-- 'laws.FnExactBeatAt', WHERE WHAT IT READS IS OF BULK AT MOST 1048576: true; the input reads as it did. -/
def fnExactBeatAtUptoRow : OpenClaim := { program := "ytgldocaohcoleaagreat", sum := "18a5875dae408a22fd4bde078df3ebfa5227987766862299c62de40da3d7bc8a", func := "loop.example/g00277/laws.FnExactBeatAt", spec := "fnExactBeatAt", unfollowed := true, recurses := true, apart := false, narrowed := true }
def FnExactBeatAtUptoSaid : Prop := fnExactBeatAtUptoRow.holds Tryz.pinned (OpenSpec.upto fnExactBeatAtSpec)

/-- 'laws.FnExactCrashAt', WHERE WHAT IT READS IS OF BULK AT MOST 1048576: true; the input reads as it did. -/
def fnExactCrashAtUptoRow : OpenClaim := { program := "ytgldocaohcoleaagreat", sum := "18a5875dae408a22fd4bde078df3ebfa5227987766862299c62de40da3d7bc8a", func := "loop.example/g00277/laws.FnExactCrashAt", spec := "fnExactCrashAt", unfollowed := true, recurses := true, apart := false, narrowed := true }
def FnExactCrashAtUptoSaid : Prop := fnExactCrashAtUptoRow.holds Tryz.pinned (OpenSpec.upto fnExactCrashAtSpec)

/-- 'laws.FnExactAskAt', WHERE WHAT IT READS IS OF BULK AT MOST 1048576: true; the input reads as it did. -/
def fnExactAskAtUptoRow : OpenClaim := { program := "ytgldocaohcoleaagreat", sum := "18a5875dae408a22fd4bde078df3ebfa5227987766862299c62de40da3d7bc8a", func := "loop.example/g00277/laws.FnExactAskAt", spec := "fnExactAskAt", unfollowed := true, recurses := true, apart := false, narrowed := true }
def FnExactAskAtUptoSaid : Prop := fnExactAskAtUptoRow.holds Tryz.pinned (OpenSpec.upto fnExactAskAtSpec)

/-- 'laws.FnExactLoseMail', WHERE WHAT IT READS IS OF BULK AT MOST 1048576: true; the input reads as it did. -/
def fnExactLoseMailUptoRow : OpenClaim := { program := "ytgldocaohcoleaagreat", sum := "18a5875dae408a22fd4bde078df3ebfa5227987766862299c62de40da3d7bc8a", func := "loop.example/g00277/laws.FnExactLoseMail", spec := "fnExactLoseMail", unfollowed := true, recurses := true, apart := false, narrowed := true }
def FnExactLoseMailUptoSaid : Prop := fnExactLoseMailUptoRow.holds Tryz.pinned (OpenSpec.upto fnExactLoseMailSpec)

/-- 'laws.FnNews', WHERE WHAT IT READS IS OF BULK AT MOST 1048576: true; the input reads as it did. -/
def fnNewsUptoRow : OpenClaim := { program := "ytgldocaohcoleaagreat", sum := "18a5875dae408a22fd4bde078df3ebfa5227987766862299c62de40da3d7bc8a", func := "loop.example/g00277/laws.FnNews", spec := "fnNews", unfollowed := true, recurses := true, apart := false, narrowed := true }
def FnNewsUptoSaid : Prop := fnNewsUptoRow.holds Tryz.pinned (OpenSpec.upto fnNewsSpec)

/-- 'laws.FnLasting', WHERE WHAT IT READS IS OF BULK AT MOST 1048576: true; the input reads as it did. -/
def fnLastingUptoRow : OpenClaim := { program := "ytgldocaohcoleaagreat", sum := "18a5875dae408a22fd4bde078df3ebfa5227987766862299c62de40da3d7bc8a", func := "loop.example/g00277/laws.FnLasting", spec := "fnLasting", unfollowed := true, recurses := true, apart := false, narrowed := true }
def FnLastingUptoSaid : Prop := fnLastingUptoRow.holds Tryz.pinned (OpenSpec.upto fnLastingSpec)

/-- 'laws.FnBeats', WHERE WHAT IT READS IS OF BULK AT MOST 1048576: true; the input reads as it did. -/
def fnBeatsUptoRow : OpenClaim := { program := "ytgldocaohcoleaagreat", sum := "18a5875dae408a22fd4bde078df3ebfa5227987766862299c62de40da3d7bc8a", func := "loop.example/g00277/laws.FnBeats", spec := "fnBeats", unfollowed := true, recurses := true, apart := false, narrowed := true }
def FnBeatsUptoSaid : Prop := fnBeatsUptoRow.holds Tryz.pinned (OpenSpec.upto fnBeatsSpec)

/-- 'laws.FnExactHearReplica', WHERE WHAT IT READS IS OF BULK AT MOST 1048576: true; the input reads as it did. -/
def fnExactHearReplicaUptoRow : OpenClaim := { program := "ytgldocaohcoleaagreat", sum := "18a5875dae408a22fd4bde078df3ebfa5227987766862299c62de40da3d7bc8a", func := "loop.example/g00277/laws.FnExactHearReplica", spec := "fnExactHearReplica", unfollowed := true, recurses := true, apart := false, narrowed := true }
def FnExactHearReplicaUptoSaid : Prop := fnExactHearReplicaUptoRow.holds Tryz.pinned (OpenSpec.upto fnExactHearReplicaSpec)

/-- 'laws.FnExactDeliverMail', WHERE WHAT IT READS IS OF BULK AT MOST 1048576: true; the input reads as it did. -/
def fnExactDeliverMailUptoRow : OpenClaim := { program := "ytgldocaohcoleaagreat", sum := "18a5875dae408a22fd4bde078df3ebfa5227987766862299c62de40da3d7bc8a", func := "loop.example/g00277/laws.FnExactDeliverMail", spec := "fnExactDeliverMail", unfollowed := true, recurses := true, apart := false, narrowed := true }
def FnExactDeliverMailUptoSaid : Prop := fnExactDeliverMailUptoRow.holds Tryz.pinned (OpenSpec.upto fnExactDeliverMailSpec)

/-- 'laws.FnHears', WHERE WHAT IT READS IS OF BULK AT MOST 1048576: true; the input reads as it did. -/
def fnHearsUptoRow : OpenClaim := { program := "ytgldocaohcoleaagreat", sum := "18a5875dae408a22fd4bde078df3ebfa5227987766862299c62de40da3d7bc8a", func := "loop.example/g00277/laws.FnHears", spec := "fnHears", unfollowed := true, recurses := true, apart := false, narrowed := true }
def FnHearsUptoSaid : Prop := fnHearsUptoRow.holds Tryz.pinned (OpenSpec.upto fnHearsSpec)

end Rows
end Go.Proofs.YtgldocaohcoleaaGreat
