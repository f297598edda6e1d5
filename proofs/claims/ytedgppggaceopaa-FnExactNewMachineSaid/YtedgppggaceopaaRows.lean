/-
  No cell of these rows narrows 'for every input' (looked for: loops, veiled, ifaces, maps, wideKeys, modest, calm, conditions, laid).
  DERIVED. THE GIVEN ROWS OF THIS SEAT. 4 by the template 'for every input the law returns true; each argument reads behind the call as it read before'; 0 by the template 'total and deterministic' (their statements: YtedgppggaceopaaTotals.lean).
  GIVEN WITH THE SEED: the statements are not yours to turn. If you find one false, say at which input.
  Laid BY PROGRAM, IN A SANDBOX (cutbox-rows.mjs): the forced cells as the released guide's own fill.sh prints them over the translation 689fb420d33a6bc4… (all of the seat's roots in one cut). By AI agents, Wed Nov 11 2026. No macro, syntax, notation, axiom, sorry.
-/
import Derived.Test.YtedgppggaceopaaChecked
import GoSem.Claim
import GoSem.ClaimJoined
import GoSem.ClaimMapViews
import Derived.JoinedTies
import Derived.KernelRfl
namespace Go.Proofs.Ytedgppggaceopaa
/- THE CELL 'sum', in the pinned program and in every row, IS THE sha256 OF THE DUMP (.gsa) THAT YtedgppggaceopaaProg.lean LOADS. Nothing in Lean hashes anything: it is a label: what it is worth is what the hold of that sum in a sandbox is worth. -/
noncomputable def Try.pinned : Pinned := { name := "ytedgppggaceopaa", sum := "689fb420d33a6bc4a255e35837e01bfa5cb7a0cf0b90593c8980776cf5fd5337", checked := Try.checked }
namespace Rows
def none {H : Type} : Left H := { results := [], args := [] }

/-- 'laws.FnExactMachineFault': WHATEVER THE INPUT: true; the input reads as it did. -/
def fnExactMachineFaultSpec : ChangeSpec := { name := "fnExactMachineFault", fn := fun _ => fun
  | [d] => { results := [.lit (.bool true)], args := [d] }
  | _ => none }
def fnExactMachineFaultRow : OpenClaim := { program := "ytedgppggaceopaa", sum := "689fb420d33a6bc4a255e35837e01bfa5cb7a0cf0b90593c8980776cf5fd5337", func := "loop.example/g00277/laws.FnExactMachineFault", spec := "fnExactMachineFault", apart := false }
def FnExactMachineFaultSaid : Prop := fnExactMachineFaultRow.holds Try.pinned (OpenSpec.ofChange fnExactMachineFaultSpec)

/-- ITS FALSE NEIGHBOUR: 'it returns false'. Refute it at one input. -/
def fnExactMachineFaultWrong : ChangeSpec := { name := "fnExactMachineFault", fn := fun _ => fun
  | [d] => { results := [.lit (.bool false)], args := [d] }
  | _ => none }
def FnExactMachineFaultWrongFalsely : Prop := fnExactMachineFaultRow.holds Try.pinned (OpenSpec.ofChange fnExactMachineFaultWrong)

/-- 'laws.FnExactNewMachine': WHATEVER THE INPUT: true; the input reads as it did. -/
def fnExactNewMachineSpec : ChangeSpec := { name := "fnExactNewMachine", fn := fun _ => fun
  | [d] => { results := [.lit (.bool true)], args := [d] }
  | _ => none }
def fnExactNewMachineRow : OpenClaim := { program := "ytedgppggaceopaa", sum := "689fb420d33a6bc4a255e35837e01bfa5cb7a0cf0b90593c8980776cf5fd5337", func := "loop.example/g00277/laws.FnExactNewMachine", spec := "fnExactNewMachine", apart := false }
def FnExactNewMachineSaid : Prop := fnExactNewMachineRow.holds Try.pinned (OpenSpec.ofChange fnExactNewMachineSpec)

/-- ITS FALSE NEIGHBOUR: 'it returns false'. Refute it at one input. -/
def fnExactNewMachineWrong : ChangeSpec := { name := "fnExactNewMachine", fn := fun _ => fun
  | [d] => { results := [.lit (.bool false)], args := [d] }
  | _ => none }
def FnExactNewMachineWrongFalsely : Prop := fnExactNewMachineRow.holds Try.pinned (OpenSpec.ofChange fnExactNewMachineWrong)

/-- 'laws.FnExactSessionOf': WHATEVER THE INPUT: true; the input reads as it did. -/
def fnExactSessionOfSpec : ChangeSpec := { name := "fnExactSessionOf", fn := fun _ => fun
  | [d1, d2] => { results := [.lit (.bool true)], args := [d1, d2] }
  | _ => none }
def fnExactSessionOfRow : OpenClaim := { program := "ytedgppggaceopaa", sum := "689fb420d33a6bc4a255e35837e01bfa5cb7a0cf0b90593c8980776cf5fd5337", func := "loop.example/g00277/laws.FnExactSessionOf", spec := "fnExactSessionOf", unfollowed := true, recurses := true, apart := false }
def FnExactSessionOfSaid : Prop := fnExactSessionOfRow.holds Try.pinned (OpenSpec.ofChange fnExactSessionOfSpec)

/-- ITS FALSE NEIGHBOUR: 'it returns false'. Refute it at one input. -/
def fnExactSessionOfWrong : ChangeSpec := { name := "fnExactSessionOf", fn := fun _ => fun
  | [d1, d2] => { results := [.lit (.bool false)], args := [d1, d2] }
  | _ => none }
def FnExactSessionOfWrongFalsely : Prop := fnExactSessionOfRow.holds Try.pinned (OpenSpec.ofChange fnExactSessionOfWrong)

/-- 'laws.FnExactSameMachines': WHATEVER THE INPUT: true; the input reads as it did. -/
def fnExactSameMachinesSpec : ChangeSpec := { name := "fnExactSameMachines", fn := fun _ => fun
  | [d1, d2] => { results := [.lit (.bool true)], args := [d1, d2] }
  | _ => none }
def fnExactSameMachinesRow : OpenClaim := { program := "ytedgppggaceopaa", sum := "689fb420d33a6bc4a255e35837e01bfa5cb7a0cf0b90593c8980776cf5fd5337", func := "loop.example/g00277/laws.FnExactSameMachines", spec := "fnExactSameMachines", unfollowed := true, recurses := true, apart := false }
def FnExactSameMachinesSaid : Prop := fnExactSameMachinesRow.holds Try.pinned (OpenSpec.ofChange fnExactSameMachinesSpec)

/-- ITS FALSE NEIGHBOUR: 'it returns false'. Refute it at one input. -/
def fnExactSameMachinesWrong : ChangeSpec := { name := "fnExactSameMachines", fn := fun _ => fun
  | [d1, d2] => { results := [.lit (.bool false)], args := [d1, d2] }
  | _ => none }
def FnExactSameMachinesWrongFalsely : Prop := fnExactSameMachinesRow.holds Try.pinned (OpenSpec.ofChange fnExactSameMachinesWrong)

/- THE SECOND FORM. 'bulk': how many values and letters a reading holds, each counted each time it is reached (what is shared counts as often as it is met; a slice's spare places count too). A statement '..UptoSaid' is the law's where the arguments, and the package variables that the reading takes, are together of bulk at most 1048576: NARROWER than '..Said'. Prove '..Said' where nothing that the law and all that it calls make is longer than what came in: it says more and counts as full. Else prove '..UptoSaid'. A law counts once. -/
mutual
def uptoBulk {H : Type} : DataW H → Nat
  | .lit (.string bytes) => bytes.length + 1
  | .lit _ => 1
  | .nil => 1
  | .ptr d => uptoBulk d + 1
  | .slice elems spare => uptoBulkAll elems + uptoBulkAll spare + 1
  | .agg parts => uptoBulkAll parts + 1
  | .iface _ d => uptoBulk d + 1
  | .map entries => uptoBulkEntries entries + 1
  | .held _ => 1
def uptoBulkAll {H : Type} : List (DataW H) → Nat
  | [] => 0
  | d :: r => uptoBulk d + uptoBulkAll r
def uptoBulkEntries {H : Type} : List (Lit × DataW H) → Nat
  | [] => 0
  | x :: r => uptoBulkEntry x + uptoBulkEntries r
def uptoBulkEntry {H : Type} : Lit × DataW H → Nat
  | (.string bytes, d) => bytes.length + uptoBulk d + 1
  | (_, d) => uptoBulk d + 1
 end
def uptoSmall : (H : Type) → List (DataW H) → Bool := fun _ ds => decide (uptoBulkAll ds ≤ 1048576)
def OpenSpec.upto (s : _root_.Go.ChangeSpec) : _root_.Go.OpenSpec := { _root_.Go.OpenSpec.ofChange s with cond := some uptoSmall }

/-- 'laws.FnExactMachineFault', WHERE WHAT IT READS IS OF BULK AT MOST 1048576: true; the input reads as it did. -/
def fnExactMachineFaultUptoRow : OpenClaim := { program := "ytedgppggaceopaa", sum := "689fb420d33a6bc4a255e35837e01bfa5cb7a0cf0b90593c8980776cf5fd5337", func := "loop.example/g00277/laws.FnExactMachineFault", spec := "fnExactMachineFault", apart := false, narrowed := true }
def FnExactMachineFaultUptoSaid : Prop := fnExactMachineFaultUptoRow.holds Try.pinned (OpenSpec.upto fnExactMachineFaultSpec)

/-- 'laws.FnExactNewMachine', WHERE WHAT IT READS IS OF BULK AT MOST 1048576: true; the input reads as it did. -/
def fnExactNewMachineUptoRow : OpenClaim := { program := "ytedgppggaceopaa", sum := "689fb420d33a6bc4a255e35837e01bfa5cb7a0cf0b90593c8980776cf5fd5337", func := "loop.example/g00277/laws.FnExactNewMachine", spec := "fnExactNewMachine", apart := false, narrowed := true }
def FnExactNewMachineUptoSaid : Prop := fnExactNewMachineUptoRow.holds Try.pinned (OpenSpec.upto fnExactNewMachineSpec)

/-- 'laws.FnExactSessionOf', WHERE WHAT IT READS IS OF BULK AT MOST 1048576: true; the input reads as it did. -/
def fnExactSessionOfUptoRow : OpenClaim := { program := "ytedgppggaceopaa", sum := "689fb420d33a6bc4a255e35837e01bfa5cb7a0cf0b90593c8980776cf5fd5337", func := "loop.example/g00277/laws.FnExactSessionOf", spec := "fnExactSessionOf", unfollowed := true, recurses := true, apart := false, narrowed := true }
def FnExactSessionOfUptoSaid : Prop := fnExactSessionOfUptoRow.holds Try.pinned (OpenSpec.upto fnExactSessionOfSpec)

/-- 'laws.FnExactSameMachines', WHERE WHAT IT READS IS OF BULK AT MOST 1048576: true; the input reads as it did. -/
def fnExactSameMachinesUptoRow : OpenClaim := { program := "ytedgppggaceopaa", sum := "689fb420d33a6bc4a255e35837e01bfa5cb7a0cf0b90593c8980776cf5fd5337", func := "loop.example/g00277/laws.FnExactSameMachines", spec := "fnExactSameMachines", unfollowed := true, recurses := true, apart := false, narrowed := true }
def FnExactSameMachinesUptoSaid : Prop := fnExactSameMachinesUptoRow.holds Try.pinned (OpenSpec.upto fnExactSameMachinesSpec)

end Rows
end Go.Proofs.Ytedgppggaceopaa
