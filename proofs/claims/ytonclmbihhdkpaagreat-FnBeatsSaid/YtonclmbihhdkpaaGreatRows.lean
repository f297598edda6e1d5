/-
  No cell of these rows narrows 'for every input' (looked for: loops, veiled, ifaces, maps, wideKeys, modest, calm, conditions, laid).
  DERIVED. THE GIVEN ROWS OF THIS SEAT. 5 by the template 'for every input the law returns true; each argument reads behind the call as it read before'; 0 by the template 'total and deterministic' (their statements: YtonclmbihhdkpaaGreatTotals.lean).
  GIVEN WITH THE SEED: the statements are not yours to turn. If you find one false, say at which input.
  Laid BY PROGRAM, IN A SANDBOX (cutbox-rows.mjs): the forced cells as the released guide's own fill.sh prints them over the translation c5b3308de3bf0a90… (all of the seat's roots in one cut). By AI agents, Wed Nov 11 2026. No macro, syntax, notation, axiom, sorry.
-/
import Derived.Test.YtonclmbihhdkpaaGreatChecked
import GoSem.Claim
import GoSem.ClaimJoined
import GoSem.ClaimMapViews
import Derived.JoinedTies
import Derived.KernelRfl
namespace Go.Proofs.YtonclmbihhdkpaaGreat
/- THE CELL 'sum', in the pinned program and in every row, IS THE sha256 OF THE DUMP (.gsa) THAT YtonclmbihhdkpaaGreatProg.lean LOADS. Nothing in Lean hashes anything: it is a label: what it is worth is what the hold of that sum in a sandbox is worth. -/
noncomputable def Tryz.pinned : Pinned := { name := "ytonclmbihhdkpaagreat", sum := "c5b3308de3bf0a904082d6a0de940a6590ee4f237253cbfc97f66f6c4213cb16", checked := Tryz.checked }
namespace Rows
def none {H : Type} : Left H := { results := [], args := [] }

/-- 'laws.FnLasting': WHATEVER THE INPUT: true; the input reads as it did. -/
def fnLastingSpec : ChangeSpec := { name := "fnLasting", fn := fun _ => fun
  | [d] => { results := [.lit (.bool true)], args := [d] }
  | _ => none }
def fnLastingRow : OpenClaim := { program := "ytonclmbihhdkpaagreat", sum := "c5b3308de3bf0a904082d6a0de940a6590ee4f237253cbfc97f66f6c4213cb16", func := "loop.example/g00277/laws.FnLasting", spec := "fnLasting", unfollowed := true, recurses := true, apart := false }
def FnLastingSaid : Prop := fnLastingRow.holds Tryz.pinned (OpenSpec.ofChange fnLastingSpec)

/-- ITS FALSE NEIGHBOUR: 'it returns false'. Refute it at one input. -/
def fnLastingWrong : ChangeSpec := { name := "fnLasting", fn := fun _ => fun
  | [d] => { results := [.lit (.bool false)], args := [d] }
  | _ => none }
def FnLastingWrongFalsely : Prop := fnLastingRow.holds Tryz.pinned (OpenSpec.ofChange fnLastingWrong)

/-- 'laws.FnBeats': WHATEVER THE INPUT: true; the input reads as it did. -/
def fnBeatsSpec : ChangeSpec := { name := "fnBeats", fn := fun _ => fun
  | [d] => { results := [.lit (.bool true)], args := [d] }
  | _ => none }
def fnBeatsRow : OpenClaim := { program := "ytonclmbihhdkpaagreat", sum := "c5b3308de3bf0a904082d6a0de940a6590ee4f237253cbfc97f66f6c4213cb16", func := "loop.example/g00277/laws.FnBeats", spec := "fnBeats", unfollowed := true, recurses := true, apart := false }
def FnBeatsSaid : Prop := fnBeatsRow.holds Tryz.pinned (OpenSpec.ofChange fnBeatsSpec)

/-- ITS FALSE NEIGHBOUR: 'it returns false'. Refute it at one input. -/
def fnBeatsWrong : ChangeSpec := { name := "fnBeats", fn := fun _ => fun
  | [d] => { results := [.lit (.bool false)], args := [d] }
  | _ => none }
def FnBeatsWrongFalsely : Prop := fnBeatsRow.holds Tryz.pinned (OpenSpec.ofChange fnBeatsWrong)

/-- 'laws.FnExactHearReplica': WHATEVER THE INPUT: true; the input reads as it did. -/
def fnExactHearReplicaSpec : ChangeSpec := { name := "fnExactHearReplica", fn := fun _ => fun
  | [d1, d2] => { results := [.lit (.bool true)], args := [d1, d2] }
  | _ => none }
def fnExactHearReplicaRow : OpenClaim := { program := "ytonclmbihhdkpaagreat", sum := "c5b3308de3bf0a904082d6a0de940a6590ee4f237253cbfc97f66f6c4213cb16", func := "loop.example/g00277/laws.FnExactHearReplica", spec := "fnExactHearReplica", unfollowed := true, recurses := true, apart := false }
def FnExactHearReplicaSaid : Prop := fnExactHearReplicaRow.holds Tryz.pinned (OpenSpec.ofChange fnExactHearReplicaSpec)

/-- ITS FALSE NEIGHBOUR: 'it returns false'. Refute it at one input. -/
def fnExactHearReplicaWrong : ChangeSpec := { name := "fnExactHearReplica", fn := fun _ => fun
  | [d1, d2] => { results := [.lit (.bool false)], args := [d1, d2] }
  | _ => none }
def FnExactHearReplicaWrongFalsely : Prop := fnExactHearReplicaRow.holds Tryz.pinned (OpenSpec.ofChange fnExactHearReplicaWrong)

/-- 'laws.FnExactDeliverMail': WHATEVER THE INPUT: true; the input reads as it did. -/
def fnExactDeliverMailSpec : ChangeSpec := { name := "fnExactDeliverMail", fn := fun _ => fun
  | [d1, d2, d3] => { results := [.lit (.bool true)], args := [d1, d2, d3] }
  | _ => none }
def fnExactDeliverMailRow : OpenClaim := { program := "ytonclmbihhdkpaagreat", sum := "c5b3308de3bf0a904082d6a0de940a6590ee4f237253cbfc97f66f6c4213cb16", func := "loop.example/g00277/laws.FnExactDeliverMail", spec := "fnExactDeliverMail", unfollowed := true, recurses := true, apart := false }
def FnExactDeliverMailSaid : Prop := fnExactDeliverMailRow.holds Tryz.pinned (OpenSpec.ofChange fnExactDeliverMailSpec)

/-- ITS FALSE NEIGHBOUR: 'it returns false'. Refute it at one input. -/
def fnExactDeliverMailWrong : ChangeSpec := { name := "fnExactDeliverMail", fn := fun _ => fun
  | [d1, d2, d3] => { results := [.lit (.bool false)], args := [d1, d2, d3] }
  | _ => none }
def FnExactDeliverMailWrongFalsely : Prop := fnExactDeliverMailRow.holds Tryz.pinned (OpenSpec.ofChange fnExactDeliverMailWrong)

/-- 'laws.FnHears': WHATEVER THE INPUT: true; the input reads as it did. -/
def fnHearsSpec : ChangeSpec := { name := "fnHears", fn := fun _ => fun
  | [d] => { results := [.lit (.bool true)], args := [d] }
  | _ => none }
def fnHearsRow : OpenClaim := { program := "ytonclmbihhdkpaagreat", sum := "c5b3308de3bf0a904082d6a0de940a6590ee4f237253cbfc97f66f6c4213cb16", func := "loop.example/g00277/laws.FnHears", spec := "fnHears", unfollowed := true, recurses := true, apart := false }
def FnHearsSaid : Prop := fnHearsRow.holds Tryz.pinned (OpenSpec.ofChange fnHearsSpec)

/-- ITS FALSE NEIGHBOUR: 'it returns false'. Refute it at one input. -/
def fnHearsWrong : ChangeSpec := { name := "fnHears", fn := fun _ => fun
  | [d] => { results := [.lit (.bool false)], args := [d] }
  | _ => none }
def FnHearsWrongFalsely : Prop := fnHearsRow.holds Tryz.pinned (OpenSpec.ofChange fnHearsWrong)

/- THE SECOND FORM. 'bulk': how many values and letters a reading holds, each counted each time it is reached (what is shared counts as often as it is met; a slice's spare places count too). A statement '..UptoSaid' is the law's where the arguments, and the package variables that the reading takes, are together of bulk at most 1048576: NARROWER than '..Said'. Prove '..Said' where nothing that the law and all that it calls make is longer than what came in: it says more and counts as full. Else prove '..UptoSaid'. A law counts once. -/
mutual
def uptoBulk {H : Type} : DataW H → Nat
  | .lit (.string bytes) => bytes.length + 1
  | .lit _ => 1
  | .nil => 1
  | .ptr d => uptoBulk d + 1
  | .slice elems spare => uptoBulkAll elems + uptoBulkAll spare + 1
  | .agg parts => uptoBulkAll parts + 1
  | .iface _ d => uptoBulk d + 1
  | .map entries => uptoBulkEntries entries + 1
  | .held _ => 1
def uptoBulkAll {H : Type} : List (DataW H) → Nat
  | [] => 0
  | d :: r => uptoBulk d + uptoBulkAll r
def uptoBulkEntries {H : Type} : List (Lit × DataW H) → Nat
  | [] => 0
  | x :: r => uptoBulkEntry x + uptoBulkEntries r
def uptoBulkEntry {H : Type} : Lit × DataW H → Nat
  | (.string bytes, d) => bytes.length + uptoBulk d + 1
  | (_, d) => uptoBulk d + 1
 end
def uptoSmall : (H : Type) → List (DataW H) → Bool := fun _ ds => decide (uptoBulkAll ds ≤ 1048576)
def OpenSpec.upto (s : _root_.Go.ChangeSpec) : _root_.Go.OpenSpec := { _root_.Go.OpenSpec.ofChange s with cond := some uptoSmall }

/-- 'laws.FnLasting', WHERE WHAT IT READS IS OF BULK AT MOST 1048576: true; the input reads as it did. -/
def fnLastingUptoRow : OpenClaim := { program := "ytonclmbihhdkpaagreat", sum := "c5b3308de3bf0a904082d6a0de940a6590ee4f237253cbfc97f66f6c4213cb16", func := "loop.example/g00277/laws.FnLasting", spec := "fnLasting", unfollowed := true, recurses := true, apart := false, narrowed := true }
def FnLastingUptoSaid : Prop := fnLastingUptoRow.holds Tryz.pinned (OpenSpec.upto fnLastingSpec)

/-- 'laws.FnBeats', WHERE WHAT IT READS IS OF BULK AT MOST 1048576: true; the input reads as it did. -/
def fnBeatsUptoRow : OpenClaim := { program := "ytonclmbihhdkpaagreat", sum := "c5b3308de3bf0a904082d6a0de940a6590ee4f237253cbfc97f66f6c4213cb16", func := "loop.example/g00277/laws.FnBeats", spec := "fnBeats", unfollowed := true, recurses := true, apart := false, narrowed := true }
def FnBeatsUptoSaid : Prop := fnBeatsUptoRow.holds Tryz.pinned (OpenSpec.upto fnBeatsSpec)

/-- 'laws.FnExactHearReplica', WHERE WHAT IT READS IS OF BULK AT MOST 1048576: true; the input reads as it did. -/
def fnExactHearReplicaUptoRow : OpenClaim := { program := "ytonclmbihhdkpaagreat", sum := "c5b3308de3bf0a904082d6a0de940a6590ee4f237253cbfc97f66f6c4213cb16", func := "loop.example/g00277/laws.FnExactHearReplica", spec := "fnExactHearReplica", unfollowed := true, recurses := true, apart := false, narrowed := true }
def FnExactHearReplicaUptoSaid : Prop := fnExactHearReplicaUptoRow.holds Tryz.pinned (OpenSpec.upto fnExactHearReplicaSpec)

/-- 'laws.FnExactDeliverMail', WHERE WHAT IT READS IS OF BULK AT MOST 1048576: true; the input reads as it did. -/
def fnExactDeliverMailUptoRow : OpenClaim := { program := "ytonclmbihhdkpaagreat", sum := "c5b3308de3bf0a904082d6a0de940a6590ee4f237253cbfc97f66f6c4213cb16", func := "loop.example/g00277/laws.FnExactDeliverMail", spec := "fnExactDeliverMail", unfollowed := true, recurses := true, apart := false, narrowed := true }
def FnExactDeliverMailUptoSaid : Prop := fnExactDeliverMailUptoRow.holds Tryz.pinned (OpenSpec.upto fnExactDeliverMailSpec)

/-- 'laws.FnHears', WHERE WHAT IT READS IS OF BULK AT MOST 1048576: true; the input reads as it did. -/
def fnHearsUptoRow : OpenClaim := { program := "ytonclmbihhdkpaagreat", sum := "c5b3308de3bf0a904082d6a0de940a6590ee4f237253cbfc97f66f6c4213cb16", func := "loop.example/g00277/laws.FnHears", spec := "fnHears", unfollowed := true, recurses := true, apart := false, narrowed := true }
def FnHearsUptoSaid : Prop := fnHearsUptoRow.holds Tryz.pinned (OpenSpec.upto fnHearsSpec)

end Rows
end Go.Proofs.YtonclmbihhdkpaaGreat
