/-
  No cell of these rows narrows 'for every input' (looked for: loops, veiled, ifaces, maps, wideKeys, modest, calm, conditions, laid).
  DERIVED. THE GIVEN ROWS OF THIS SEAT. 7 by the template 'for every input the law returns true; each argument reads behind the call as it read before'; 0 by the template 'total and deterministic' (their statements: YtikjndmgljkhhaaTotals.lean).
  GIVEN WITH THE SEED: the statements are not yours to turn. If you find one false, say at which input.
  Laid BY PROGRAM, IN A SANDBOX (cutbox-rows.mjs): the forced cells as the released guide's own fill.sh prints them over the translation 2251ceb53e25c3cc… (all of the seat's roots in one cut). By AI agents, Wed Nov 11 2026. No macro, syntax, notation, axiom, sorry.
-/
import Derived.Test.YtikjndmgljkhhaaChecked
import GoSem.Claim
import GoSem.ClaimJoined
import GoSem.ClaimMapViews
import Derived.JoinedTies
import Derived.KernelRfl
namespace Go.Proofs.Ytikjndmgljkhhaa
/- THE CELL 'sum', in the pinned program and in every row, IS THE sha256 OF THE DUMP (.gsa) THAT YtikjndmgljkhhaaProg.lean LOADS. Nothing in Lean hashes anything: it is a label: what it is worth is what the hold of that sum in a sandbox is worth. -/
noncomputable def Try.pinned : Pinned := { name := "ytikjndmgljkhhaa", sum := "2251ceb53e25c3cc302ef0735eafff5ca46bef278348607cb7e1756967038fa3", checked := Try.checked }
namespace Rows
def none {H : Type} : Left H := { results := [], args := [] }

/-- 'laws.FnFulls': WHATEVER THE INPUT: true; the input reads as it did. -/
def fnFullsSpec : ChangeSpec := { name := "fnFulls", fn := fun _ => fun
  | [d] => { results := [.lit (.bool true)], args := [d] }
  | _ => none }
def fnFullsRow : OpenClaim := { program := "ytikjndmgljkhhaa", sum := "2251ceb53e25c3cc302ef0735eafff5ca46bef278348607cb7e1756967038fa3", func := "loop.example/g00277/laws.FnFulls", spec := "fnFulls", inPlace := ["slices.overlaps[loop.example/g00277/impl.Vol]"], unfollowed := true, recurses := true, plainKeys := false, apart := false }
def FnFullsSaid : Prop := fnFullsRow.holds Try.pinned (OpenSpec.ofChange fnFullsSpec)

/-- ITS FALSE NEIGHBOUR: 'it returns false'. Refute it at one input. -/
def fnFullsWrong : ChangeSpec := { name := "fnFulls", fn := fun _ => fun
  | [d] => { results := [.lit (.bool false)], args := [d] }
  | _ => none }
def FnFullsWrongFalsely : Prop := fnFullsRow.holds Try.pinned (OpenSpec.ofChange fnFullsWrong)

/-- 'laws.FnQuotas': WHATEVER THE INPUT: true; the input reads as it did. -/
def fnQuotasSpec : ChangeSpec := { name := "fnQuotas", fn := fun _ => fun
  | [d] => { results := [.lit (.bool true)], args := [d] }
  | _ => none }
def fnQuotasRow : OpenClaim := { program := "ytikjndmgljkhhaa", sum := "2251ceb53e25c3cc302ef0735eafff5ca46bef278348607cb7e1756967038fa3", func := "loop.example/g00277/laws.FnQuotas", spec := "fnQuotas", inPlace := ["slices.overlaps[loop.example/g00277/impl.Vol]"], unfollowed := true, recurses := true, plainKeys := false, apart := false }
def FnQuotasSaid : Prop := fnQuotasRow.holds Try.pinned (OpenSpec.ofChange fnQuotasSpec)

/-- ITS FALSE NEIGHBOUR: 'it returns false'. Refute it at one input. -/
def fnQuotasWrong : ChangeSpec := { name := "fnQuotas", fn := fun _ => fun
  | [d] => { results := [.lit (.bool false)], args := [d] }
  | _ => none }
def FnQuotasWrongFalsely : Prop := fnQuotasRow.holds Try.pinned (OpenSpec.ofChange fnQuotasWrong)

/-- 'laws.FnExactPlainOf': WHATEVER THE INPUT: true; the input reads as it did. -/
def fnExactPlainOfSpec : ChangeSpec := { name := "fnExactPlainOf", fn := fun _ => fun
  | [d] => { results := [.lit (.bool true)], args := [d] }
  | _ => none }
def fnExactPlainOfRow : OpenClaim := { program := "ytikjndmgljkhhaa", sum := "2251ceb53e25c3cc302ef0735eafff5ca46bef278348607cb7e1756967038fa3", func := "loop.example/g00277/laws.FnExactPlainOf", spec := "fnExactPlainOf", plainKeys := false, apart := false }
def FnExactPlainOfSaid : Prop := fnExactPlainOfRow.holds Try.pinned (OpenSpec.ofChange fnExactPlainOfSpec)

/-- ITS FALSE NEIGHBOUR: 'it returns false'. Refute it at one input. -/
def fnExactPlainOfWrong : ChangeSpec := { name := "fnExactPlainOf", fn := fun _ => fun
  | [d] => { results := [.lit (.bool false)], args := [d] }
  | _ => none }
def FnExactPlainOfWrongFalsely : Prop := fnExactPlainOfRow.holds Try.pinned (OpenSpec.ofChange fnExactPlainOfWrong)

/-- 'laws.FnExactPlainFault': WHATEVER THE INPUT: true; the input reads as it did. -/
def fnExactPlainFaultSpec : ChangeSpec := { name := "fnExactPlainFault", fn := fun _ => fun
  | [d] => { results := [.lit (.bool true)], args := [d] }
  | _ => none }
def fnExactPlainFaultRow : OpenClaim := { program := "ytikjndmgljkhhaa", sum := "2251ceb53e25c3cc302ef0735eafff5ca46bef278348607cb7e1756967038fa3", func := "loop.example/g00277/laws.FnExactPlainFault", spec := "fnExactPlainFault", unfollowed := true, recurses := true, plainKeys := false, apart := false }
def FnExactPlainFaultSaid : Prop := fnExactPlainFaultRow.holds Try.pinned (OpenSpec.ofChange fnExactPlainFaultSpec)

/-- ITS FALSE NEIGHBOUR: 'it returns false'. Refute it at one input. -/
def fnExactPlainFaultWrong : ChangeSpec := { name := "fnExactPlainFault", fn := fun _ => fun
  | [d] => { results := [.lit (.bool false)], args := [d] }
  | _ => none }
def FnExactPlainFaultWrongFalsely : Prop := fnExactPlainFaultRow.holds Try.pinned (OpenSpec.ofChange fnExactPlainFaultWrong)

/-- 'laws.FnExactCellIn': WHATEVER THE INPUT: true; the input reads as it did. -/
def fnExactCellInSpec : ChangeSpec := { name := "fnExactCellIn", fn := fun _ => fun
  | [d1, d2, d3] => { results := [.lit (.bool true)], args := [d1, d2, d3] }
  | _ => none }
def fnExactCellInRow : OpenClaim := { program := "ytikjndmgljkhhaa", sum := "2251ceb53e25c3cc302ef0735eafff5ca46bef278348607cb7e1756967038fa3", func := "loop.example/g00277/laws.FnExactCellIn", spec := "fnExactCellIn", unfollowed := true, recurses := true, plainKeys := false, apart := false }
def FnExactCellInSaid : Prop := fnExactCellInRow.holds Try.pinned (OpenSpec.ofChange fnExactCellInSpec)

/-- ITS FALSE NEIGHBOUR: 'it returns false'. Refute it at one input. -/
def fnExactCellInWrong : ChangeSpec := { name := "fnExactCellIn", fn := fun _ => fun
  | [d1, d2, d3] => { results := [.lit (.bool false)], args := [d1, d2, d3] }
  | _ => none }
def FnExactCellInWrongFalsely : Prop := fnExactCellInRow.holds Try.pinned (OpenSpec.ofChange fnExactCellInWrong)

/-- 'laws.FnExactApplyPlain': WHATEVER THE INPUT: true; the input reads as it did. -/
def fnExactApplyPlainSpec : ChangeSpec := { name := "fnExactApplyPlain", fn := fun _ => fun
  | [d1, d2, d3] => { results := [.lit (.bool true)], args := [d1, d2, d3] }
  | _ => none }
def fnExactApplyPlainRow : OpenClaim := { program := "ytikjndmgljkhhaa", sum := "2251ceb53e25c3cc302ef0735eafff5ca46bef278348607cb7e1756967038fa3", func := "loop.example/g00277/laws.FnExactApplyPlain", spec := "fnExactApplyPlain", inPlace := ["slices.overlaps[loop.example/g00277/impl.Vol]"], unfollowed := true, recurses := true, plainKeys := false, apart := false }
def FnExactApplyPlainSaid : Prop := fnExactApplyPlainRow.holds Try.pinned (OpenSpec.ofChange fnExactApplyPlainSpec)

/-- ITS FALSE NEIGHBOUR: 'it returns false'. Refute it at one input. -/
def fnExactApplyPlainWrong : ChangeSpec := { name := "fnExactApplyPlain", fn := fun _ => fun
  | [d1, d2, d3] => { results := [.lit (.bool false)], args := [d1, d2, d3] }
  | _ => none }
def FnExactApplyPlainWrongFalsely : Prop := fnExactApplyPlainRow.holds Try.pinned (OpenSpec.ofChange fnExactApplyPlainWrong)

/-- 'laws.FnExactSamePlains': WHATEVER THE INPUT: true; the input reads as it did. -/
def fnExactSamePlainsSpec : ChangeSpec := { name := "fnExactSamePlains", fn := fun _ => fun
  | [d1, d2] => { results := [.lit (.bool true)], args := [d1, d2] }
  | _ => none }
def fnExactSamePlainsRow : OpenClaim := { program := "ytikjndmgljkhhaa", sum := "2251ceb53e25c3cc302ef0735eafff5ca46bef278348607cb7e1756967038fa3", func := "loop.example/g00277/laws.FnExactSamePlains", spec := "fnExactSamePlains", plainKeys := false, apart := false }
def FnExactSamePlainsSaid : Prop := fnExactSamePlainsRow.holds Try.pinned (OpenSpec.ofChange fnExactSamePlainsSpec)

/-- ITS FALSE NEIGHBOUR: 'it returns false'. Refute it at one input. -/
def fnExactSamePlainsWrong : ChangeSpec := { name := "fnExactSamePlains", fn := fun _ => fun
  | [d1, d2] => { results := [.lit (.bool false)], args := [d1, d2] }
  | _ => none }
def FnExactSamePlainsWrongFalsely : Prop := fnExactSamePlainsRow.holds Try.pinned (OpenSpec.ofChange fnExactSamePlainsWrong)

/- THE SECOND FORM. 'bulk': how many values and letters a reading holds, each counted each time it is reached (what is shared counts as often as it is met; a slice's spare places count too). A statement '..UptoSaid' is the law's where the arguments, and the package variables that the reading takes, are together of bulk at most 1048576: NARROWER than '..Said'. Prove '..Said' where nothing that the law and all that it calls make is longer than what came in: it says more and counts as full. Else prove '..UptoSaid'. A law counts once. -/
mutual
def uptoBulk {H : Type} : DataW H → Nat
  | .lit (.string bytes) => bytes.length + 1
  | .lit _ => 1
  | .nil => 1
  | .ptr d => uptoBulk d + 1
  | .slice elems spare => uptoBulkAll elems + uptoBulkAll spare + 1
  | .agg parts => uptoBulkAll parts + 1
  | .iface _ d => uptoBulk d + 1
  | .map entries => uptoBulkEntries entries + 1
  | .held _ => 1
def uptoBulkAll {H : Type} : List (DataW H) → Nat
  | [] => 0
  | d :: r => uptoBulk d + uptoBulkAll r
def uptoBulkEntries {H : Type} : List (Lit × DataW H) → Nat
  | [] => 0
  | x :: r => uptoBulkEntry x + uptoBulkEntries r
def uptoBulkEntry {H : Type} : Lit × DataW H → Nat
  | (.string bytes, d) => bytes.length + uptoBulk d + 1
  | (_, d) => uptoBulk d + 1
 end
def uptoSmall : (H : Type) → List (DataW H) → Bool := fun _ ds => decide (uptoBulkAll ds ≤ 1048576)
def OpenSpec.upto (s : _root_.Go.ChangeSpec) : _root_.Go.OpenSpec := { _root_.Go.OpenSpec.ofChange s with cond := some uptoSmall }

/-- 'laws.FnFulls', WHERE WHAT IT READS IS OF BULK AT MOST 1048576: true; the input reads as it did. -/
def fnFullsUptoRow : OpenClaim := { program := "ytikjndmgljkhhaa", sum := "2251ceb53e25c3cc302ef0735eafff5ca46bef278348607cb7e1756967038fa3", func := "loop.example/g00277/laws.FnFulls", spec := "fnFulls", inPlace := ["slices.overlaps[loop.example/g00277/impl.Vol]"], unfollowed := true, recurses := true, plainKeys := false, apart := false, narrowed := true }
def FnFullsUptoSaid : Prop := fnFullsUptoRow.holds Try.pinned (OpenSpec.upto fnFullsSpec)

/-- 'laws.FnQuotas', WHERE WHAT IT READS IS OF BULK AT MOST 1048576: true; the input reads as it did. -/
def fnQuotasUptoRow : OpenClaim := { program := "ytikjndmgljkhhaa", sum := "2251ceb53e25c3cc302ef0735eafff5ca46bef278348607cb7e1756967038fa3", func := "loop.example/g00277/laws.FnQuotas", spec := "fnQuotas", inPlace := ["slices.overlaps[loop.example/g00277/impl.Vol]"], unfollowed := true, recurses := true, plainKeys := false, apart := false, narrowed := true }
def FnQuotasUptoSaid : Prop := fnQuotasUptoRow.holds Try.pinned (OpenSpec.upto fnQuotasSpec)

/-- 'laws.FnExactPlainOf', WHERE WHAT IT READS IS OF BULK AT MOST 1048576: true; the input reads as it did. -/
def fnExactPlainOfUptoRow : OpenClaim := { program := "ytikjndmgljkhhaa", sum := "2251ceb53e25c3cc302ef0735eafff5ca46bef278348607cb7e1756967038fa3", func := "loop.example/g00277/laws.FnExactPlainOf", spec := "fnExactPlainOf", plainKeys := false, apart := false, narrowed := true }
def FnExactPlainOfUptoSaid : Prop := fnExactPlainOfUptoRow.holds Try.pinned (OpenSpec.upto fnExactPlainOfSpec)

/-- 'laws.FnExactPlainFault', WHERE WHAT IT READS IS OF BULK AT MOST 1048576: true; the input reads as it did. -/
def fnExactPlainFaultUptoRow : OpenClaim := { program := "ytikjndmgljkhhaa", sum := "2251ceb53e25c3cc302ef0735eafff5ca46bef278348607cb7e1756967038fa3", func := "loop.example/g00277/laws.FnExactPlainFault", spec := "fnExactPlainFault", unfollowed := true, recurses := true, plainKeys := false, apart := false, narrowed := true }
def FnExactPlainFaultUptoSaid : Prop := fnExactPlainFaultUptoRow.holds Try.pinned (OpenSpec.upto fnExactPlainFaultSpec)

/-- 'laws.FnExactCellIn', WHERE WHAT IT READS IS OF BULK AT MOST 1048576: true; the input reads as it did. -/
def fnExactCellInUptoRow : OpenClaim := { program := "ytikjndmgljkhhaa", sum := "2251ceb53e25c3cc302ef0735eafff5ca46bef278348607cb7e1756967038fa3", func := "loop.example/g00277/laws.FnExactCellIn", spec := "fnExactCellIn", unfollowed := true, recurses := true, plainKeys := false, apart := false, narrowed := true }
def FnExactCellInUptoSaid : Prop := fnExactCellInUptoRow.holds Try.pinned (OpenSpec.upto fnExactCellInSpec)

/-- 'laws.FnExactApplyPlain', WHERE WHAT IT READS IS OF BULK AT MOST 1048576: true; the input reads as it did. -/
def fnExactApplyPlainUptoRow : OpenClaim := { program := "ytikjndmgljkhhaa", sum := "2251ceb53e25c3cc302ef0735eafff5ca46bef278348607cb7e1756967038fa3", func := "loop.example/g00277/laws.FnExactApplyPlain", spec := "fnExactApplyPlain", inPlace := ["slices.overlaps[loop.example/g00277/impl.Vol]"], unfollowed := true, recurses := true, plainKeys := false, apart := false, narrowed := true }
def FnExactApplyPlainUptoSaid : Prop := fnExactApplyPlainUptoRow.holds Try.pinned (OpenSpec.upto fnExactApplyPlainSpec)

/-- 'laws.FnExactSamePlains', WHERE WHAT IT READS IS OF BULK AT MOST 1048576: true; the input reads as it did. -/
def fnExactSamePlainsUptoRow : OpenClaim := { program := "ytikjndmgljkhhaa", sum := "2251ceb53e25c3cc302ef0735eafff5ca46bef278348607cb7e1756967038fa3", func := "loop.example/g00277/laws.FnExactSamePlains", spec := "fnExactSamePlains", plainKeys := false, apart := false, narrowed := true }
def FnExactSamePlainsUptoSaid : Prop := fnExactSamePlainsUptoRow.holds Try.pinned (OpenSpec.upto fnExactSamePlainsSpec)

end Rows
end Go.Proofs.Ytikjndmgljkhhaa
