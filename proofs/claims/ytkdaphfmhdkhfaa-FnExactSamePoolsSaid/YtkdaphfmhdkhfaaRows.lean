/-
  No cell of these rows narrows 'for every input' (looked for: loops, veiled, ifaces, maps, wideKeys, modest, calm, conditions, laid).
  DERIVED. THE GIVEN ROWS OF THIS SEAT. 33 by the template 'for every input the law returns true; each argument reads behind the call as it read before'; 0 by the template 'total and deterministic' (their statements: YtkdaphfmhdkhfaaTotals.lean).
  GIVEN WITH THE SEED: the statements are not yours to turn. If you find one false, say at which input.
  Laid BY PROGRAM, IN A SANDBOX (cutbox-rows.mjs): the forced cells as the released guide's own fill.sh prints them over the translation e3b7d741f0b4afaa… (all of the seat's roots in one cut). By AI agents, Wed Nov 11 2026. No macro, syntax, notation, axiom, sorry.
-/
import Derived.Test.YtkdaphfmhdkhfaaChecked
import GoSem.Claim
import GoSem.ClaimJoined
import GoSem.ClaimMapViews
import Derived.JoinedTies
import Derived.KernelRfl
namespace Go.Proofs.Ytkdaphfmhdkhfaa
/- THE CELL 'sum', in the pinned program and in every row, IS THE sha256 OF THE DUMP (.gsa) THAT YtkdaphfmhdkhfaaProg.lean LOADS. Nothing in Lean hashes anything: it is a label: what it is worth is what the hold of that sum in a sandbox is worth. -/
noncomputable def Try.pinned : Pinned := { name := "ytkdaphfmhdkhfaa", sum := "e3b7d741f0b4afaa4d743a3a982883fa03a764c9d0eaad1be64d8074a9d5b3ee", checked := Try.checked }
namespace Rows
def none {H : Type} : Left H := { results := [], args := [] }

/-- 'laws.FnDisks': WHATEVER THE INPUT: true; the input reads as it did. -/
def fnDisksSpec : ChangeSpec := { name := "fnDisks", fn := fun _ => fun
  | [d] => { results := [.lit (.bool true)], args := [d] }
  | _ => none }
def fnDisksRow : OpenClaim := { program := "ytkdaphfmhdkhfaa", sum := "e3b7d741f0b4afaa4d743a3a982883fa03a764c9d0eaad1be64d8074a9d5b3ee", func := "loop.example/g00277/laws.FnDisks", spec := "fnDisks", apart := false }
def FnDisksSaid : Prop := fnDisksRow.holds Try.pinned (OpenSpec.ofChange fnDisksSpec)

/-- ITS FALSE NEIGHBOUR: 'it returns false'. Refute it at one input. -/
def fnDisksWrong : ChangeSpec := { name := "fnDisks", fn := fun _ => fun
  | [d] => { results := [.lit (.bool false)], args := [d] }
  | _ => none }
def FnDisksWrongFalsely : Prop := fnDisksRow.holds Try.pinned (OpenSpec.ofChange fnDisksWrong)

/-- 'laws.FnBlocks': WHATEVER THE INPUT: true; the input reads as it did. -/
def fnBlocksSpec : ChangeSpec := { name := "fnBlocks", fn := fun _ => fun
  | [d] => { results := [.lit (.bool true)], args := [d] }
  | _ => none }
def fnBlocksRow : OpenClaim := { program := "ytkdaphfmhdkhfaa", sum := "e3b7d741f0b4afaa4d743a3a982883fa03a764c9d0eaad1be64d8074a9d5b3ee", func := "loop.example/g00277/laws.FnBlocks", spec := "fnBlocks", apart := false }
def FnBlocksSaid : Prop := fnBlocksRow.holds Try.pinned (OpenSpec.ofChange fnBlocksSpec)

/-- ITS FALSE NEIGHBOUR: 'it returns false'. Refute it at one input. -/
def fnBlocksWrong : ChangeSpec := { name := "fnBlocks", fn := fun _ => fun
  | [d] => { results := [.lit (.bool false)], args := [d] }
  | _ => none }
def FnBlocksWrongFalsely : Prop := fnBlocksRow.holds Try.pinned (OpenSpec.ofChange fnBlocksWrong)

/-- 'laws.FnTrees': WHATEVER THE INPUT: true; the input reads as it did. -/
def fnTreesSpec : ChangeSpec := { name := "fnTrees", fn := fun _ => fun
  | [d] => { results := [.lit (.bool true)], args := [d] }
  | _ => none }
def fnTreesRow : OpenClaim := { program := "ytkdaphfmhdkhfaa", sum := "e3b7d741f0b4afaa4d743a3a982883fa03a764c9d0eaad1be64d8074a9d5b3ee", func := "loop.example/g00277/laws.FnTrees", spec := "fnTrees", recurses := true, apart := false }
def FnTreesSaid : Prop := fnTreesRow.holds Try.pinned (OpenSpec.ofChange fnTreesSpec)

/-- ITS FALSE NEIGHBOUR: 'it returns false'. Refute it at one input. -/
def fnTreesWrong : ChangeSpec := { name := "fnTrees", fn := fun _ => fun
  | [d] => { results := [.lit (.bool false)], args := [d] }
  | _ => none }
def FnTreesWrongFalsely : Prop := fnTreesRow.holds Try.pinned (OpenSpec.ofChange fnTreesWrong)

/-- 'laws.FnClears': WHATEVER THE INPUT: true; the input reads as it did. -/
def fnClearsSpec : ChangeSpec := { name := "fnClears", fn := fun _ => fun
  | [d] => { results := [.lit (.bool true)], args := [d] }
  | _ => none }
def fnClearsRow : OpenClaim := { program := "ytkdaphfmhdkhfaa", sum := "e3b7d741f0b4afaa4d743a3a982883fa03a764c9d0eaad1be64d8074a9d5b3ee", func := "loop.example/g00277/laws.FnClears", spec := "fnClears", recurses := true, apart := false }
def FnClearsSaid : Prop := fnClearsRow.holds Try.pinned (OpenSpec.ofChange fnClearsSpec)

/-- ITS FALSE NEIGHBOUR: 'it returns false'. Refute it at one input. -/
def fnClearsWrong : ChangeSpec := { name := "fnClears", fn := fun _ => fun
  | [d] => { results := [.lit (.bool false)], args := [d] }
  | _ => none }
def FnClearsWrongFalsely : Prop := fnClearsRow.holds Try.pinned (OpenSpec.ofChange fnClearsWrong)

/-- 'laws.FnFulls': WHATEVER THE INPUT: true; the input reads as it did. -/
def fnFullsSpec : ChangeSpec := { name := "fnFulls", fn := fun _ => fun
  | [d] => { results := [.lit (.bool true)], args := [d] }
  | _ => none }
def fnFullsRow : OpenClaim := { program := "ytkdaphfmhdkhfaa", sum := "e3b7d741f0b4afaa4d743a3a982883fa03a764c9d0eaad1be64d8074a9d5b3ee", func := "loop.example/g00277/laws.FnFulls", spec := "fnFulls", inPlace := ["slices.overlaps[loop.example/g00277/impl.Vol]"], unfollowed := true, recurses := true, apart := false }
def FnFullsSaid : Prop := fnFullsRow.holds Try.pinned (OpenSpec.ofChange fnFullsSpec)

/-- ITS FALSE NEIGHBOUR: 'it returns false'. Refute it at one input. -/
def fnFullsWrong : ChangeSpec := { name := "fnFulls", fn := fun _ => fun
  | [d] => { results := [.lit (.bool false)], args := [d] }
  | _ => none }
def FnFullsWrongFalsely : Prop := fnFullsRow.holds Try.pinned (OpenSpec.ofChange fnFullsWrong)

/-- 'laws.FnQuotas': WHATEVER THE INPUT: true; the input reads as it did. -/
def fnQuotasSpec : ChangeSpec := { name := "fnQuotas", fn := fun _ => fun
  | [d] => { results := [.lit (.bool true)], args := [d] }
  | _ => none }
def fnQuotasRow : OpenClaim := { program := "ytkdaphfmhdkhfaa", sum := "e3b7d741f0b4afaa4d743a3a982883fa03a764c9d0eaad1be64d8074a9d5b3ee", func := "loop.example/g00277/laws.FnQuotas", spec := "fnQuotas", inPlace := ["slices.overlaps[loop.example/g00277/impl.Vol]"], unfollowed := true, recurses := true, apart := false }
def FnQuotasSaid : Prop := fnQuotasRow.holds Try.pinned (OpenSpec.ofChange fnQuotasSpec)

/-- ITS FALSE NEIGHBOUR: 'it returns false'. Refute it at one input. -/
def fnQuotasWrong : ChangeSpec := { name := "fnQuotas", fn := fun _ => fun
  | [d] => { results := [.lit (.bool false)], args := [d] }
  | _ => none }
def FnQuotasWrongFalsely : Prop := fnQuotasRow.holds Try.pinned (OpenSpec.ofChange fnQuotasWrong)

/-- 'laws.FnExactDiskFault': WHATEVER THE INPUT: true; the input reads as it did. -/
def fnExactDiskFaultSpec : ChangeSpec := { name := "fnExactDiskFault", fn := fun _ => fun
  | [d] => { results := [.lit (.bool true)], args := [d] }
  | _ => none }
def fnExactDiskFaultRow : OpenClaim := { program := "ytkdaphfmhdkhfaa", sum := "e3b7d741f0b4afaa4d743a3a982883fa03a764c9d0eaad1be64d8074a9d5b3ee", func := "loop.example/g00277/laws.FnExactDiskFault", spec := "fnExactDiskFault", apart := false }
def FnExactDiskFaultSaid : Prop := fnExactDiskFaultRow.holds Try.pinned (OpenSpec.ofChange fnExactDiskFaultSpec)

/-- ITS FALSE NEIGHBOUR: 'it returns false'. Refute it at one input. -/
def fnExactDiskFaultWrong : ChangeSpec := { name := "fnExactDiskFault", fn := fun _ => fun
  | [d] => { results := [.lit (.bool false)], args := [d] }
  | _ => none }
def FnExactDiskFaultWrongFalsely : Prop := fnExactDiskFaultRow.holds Try.pinned (OpenSpec.ofChange fnExactDiskFaultWrong)

/-- 'laws.FnExactNewDisk': WHATEVER THE INPUT: true; the input reads as it did. -/
def fnExactNewDiskSpec : ChangeSpec := { name := "fnExactNewDisk", fn := fun _ => fun
  | [d] => { results := [.lit (.bool true)], args := [d] }
  | _ => none }
def fnExactNewDiskRow : OpenClaim := { program := "ytkdaphfmhdkhfaa", sum := "e3b7d741f0b4afaa4d743a3a982883fa03a764c9d0eaad1be64d8074a9d5b3ee", func := "loop.example/g00277/laws.FnExactNewDisk", spec := "fnExactNewDisk", apart := false }
def FnExactNewDiskSaid : Prop := fnExactNewDiskRow.holds Try.pinned (OpenSpec.ofChange fnExactNewDiskSpec)

/-- ITS FALSE NEIGHBOUR: 'it returns false'. Refute it at one input. -/
def fnExactNewDiskWrong : ChangeSpec := { name := "fnExactNewDisk", fn := fun _ => fun
  | [d] => { results := [.lit (.bool false)], args := [d] }
  | _ => none }
def FnExactNewDiskWrongFalsely : Prop := fnExactNewDiskRow.holds Try.pinned (OpenSpec.ofChange fnExactNewDiskWrong)

/-- 'laws.FnExactPutWord': WHATEVER THE INPUT: true; the input reads as it did. -/
def fnExactPutWordSpec : ChangeSpec := { name := "fnExactPutWord", fn := fun _ => fun
  | [d1, d2, d3] => { results := [.lit (.bool true)], args := [d1, d2, d3] }
  | _ => none }
def fnExactPutWordRow : OpenClaim := { program := "ytkdaphfmhdkhfaa", sum := "e3b7d741f0b4afaa4d743a3a982883fa03a764c9d0eaad1be64d8074a9d5b3ee", func := "loop.example/g00277/laws.FnExactPutWord", spec := "fnExactPutWord", apart := false }
def FnExactPutWordSaid : Prop := fnExactPutWordRow.holds Try.pinned (OpenSpec.ofChange fnExactPutWordSpec)

/-- ITS FALSE NEIGHBOUR: 'it returns false'. Refute it at one input. -/
def fnExactPutWordWrong : ChangeSpec := { name := "fnExactPutWord", fn := fun _ => fun
  | [d1, d2, d3] => { results := [.lit (.bool false)], args := [d1, d2, d3] }
  | _ => none }
def FnExactPutWordWrongFalsely : Prop := fnExactPutWordRow.holds Try.pinned (OpenSpec.ofChange fnExactPutWordWrong)

/-- 'laws.FnExactWordAt': WHATEVER THE INPUT: true; the input reads as it did. -/
def fnExactWordAtSpec : ChangeSpec := { name := "fnExactWordAt", fn := fun _ => fun
  | [d1, d2] => { results := [.lit (.bool true)], args := [d1, d2] }
  | _ => none }
def fnExactWordAtRow : OpenClaim := { program := "ytkdaphfmhdkhfaa", sum := "e3b7d741f0b4afaa4d743a3a982883fa03a764c9d0eaad1be64d8074a9d5b3ee", func := "loop.example/g00277/laws.FnExactWordAt", spec := "fnExactWordAt", apart := false }
def FnExactWordAtSaid : Prop := fnExactWordAtRow.holds Try.pinned (OpenSpec.ofChange fnExactWordAtSpec)

/-- ITS FALSE NEIGHBOUR: 'it returns false'. Refute it at one input. -/
def fnExactWordAtWrong : ChangeSpec := { name := "fnExactWordAt", fn := fun _ => fun
  | [d1, d2] => { results := [.lit (.bool false)], args := [d1, d2] }
  | _ => none }
def FnExactWordAtWrongFalsely : Prop := fnExactWordAtRow.holds Try.pinned (OpenSpec.ofChange fnExactWordAtWrong)

/-- 'laws.FnExactFlushDisk': WHATEVER THE INPUT: true; the input reads as it did. -/
def fnExactFlushDiskSpec : ChangeSpec := { name := "fnExactFlushDisk", fn := fun _ => fun
  | [d] => { results := [.lit (.bool true)], args := [d] }
  | _ => none }
def fnExactFlushDiskRow : OpenClaim := { program := "ytkdaphfmhdkhfaa", sum := "e3b7d741f0b4afaa4d743a3a982883fa03a764c9d0eaad1be64d8074a9d5b3ee", func := "loop.example/g00277/laws.FnExactFlushDisk", spec := "fnExactFlushDisk", apart := false }
def FnExactFlushDiskSaid : Prop := fnExactFlushDiskRow.holds Try.pinned (OpenSpec.ofChange fnExactFlushDiskSpec)

/-- ITS FALSE NEIGHBOUR: 'it returns false'. Refute it at one input. -/
def fnExactFlushDiskWrong : ChangeSpec := { name := "fnExactFlushDisk", fn := fun _ => fun
  | [d] => { results := [.lit (.bool false)], args := [d] }
  | _ => none }
def FnExactFlushDiskWrongFalsely : Prop := fnExactFlushDiskRow.holds Try.pinned (OpenSpec.ofChange fnExactFlushDiskWrong)

/-- 'laws.FnExactCrashDisk': WHATEVER THE INPUT: true; the input reads as it did. -/
def fnExactCrashDiskSpec : ChangeSpec := { name := "fnExactCrashDisk", fn := fun _ => fun
  | [d1, d2] => { results := [.lit (.bool true)], args := [d1, d2] }
  | _ => none }
def fnExactCrashDiskRow : OpenClaim := { program := "ytkdaphfmhdkhfaa", sum := "e3b7d741f0b4afaa4d743a3a982883fa03a764c9d0eaad1be64d8074a9d5b3ee", func := "loop.example/g00277/laws.FnExactCrashDisk", spec := "fnExactCrashDisk", apart := false }
def FnExactCrashDiskSaid : Prop := fnExactCrashDiskRow.holds Try.pinned (OpenSpec.ofChange fnExactCrashDiskSpec)

/-- ITS FALSE NEIGHBOUR: 'it returns false'. Refute it at one input. -/
def fnExactCrashDiskWrong : ChangeSpec := { name := "fnExactCrashDisk", fn := fun _ => fun
  | [d1, d2] => { results := [.lit (.bool false)], args := [d1, d2] }
  | _ => none }
def FnExactCrashDiskWrongFalsely : Prop := fnExactCrashDiskRow.holds Try.pinned (OpenSpec.ofChange fnExactCrashDiskWrong)

/-- 'laws.FnExactAllWords': WHATEVER THE INPUT: true; the input reads as it did. -/
def fnExactAllWordsSpec : ChangeSpec := { name := "fnExactAllWords", fn := fun _ => fun
  | [d] => { results := [.lit (.bool true)], args := [d] }
  | _ => none }
def fnExactAllWordsRow : OpenClaim := { program := "ytkdaphfmhdkhfaa", sum := "e3b7d741f0b4afaa4d743a3a982883fa03a764c9d0eaad1be64d8074a9d5b3ee", func := "loop.example/g00277/laws.FnExactAllWords", spec := "fnExactAllWords", apart := false }
def FnExactAllWordsSaid : Prop := fnExactAllWordsRow.holds Try.pinned (OpenSpec.ofChange fnExactAllWordsSpec)

/-- ITS FALSE NEIGHBOUR: 'it returns false'. Refute it at one input. -/
def fnExactAllWordsWrong : ChangeSpec := { name := "fnExactAllWords", fn := fun _ => fun
  | [d] => { results := [.lit (.bool false)], args := [d] }
  | _ => none }
def FnExactAllWordsWrongFalsely : Prop := fnExactAllWordsRow.holds Try.pinned (OpenSpec.ofChange fnExactAllWordsWrong)

/-- 'laws.FnExactBlocksFault': WHATEVER THE INPUT: true; the input reads as it did. -/
def fnExactBlocksFaultSpec : ChangeSpec := { name := "fnExactBlocksFault", fn := fun _ => fun
  | [d] => { results := [.lit (.bool true)], args := [d] }
  | _ => none }
def fnExactBlocksFaultRow : OpenClaim := { program := "ytkdaphfmhdkhfaa", sum := "e3b7d741f0b4afaa4d743a3a982883fa03a764c9d0eaad1be64d8074a9d5b3ee", func := "loop.example/g00277/laws.FnExactBlocksFault", spec := "fnExactBlocksFault", apart := false }
def FnExactBlocksFaultSaid : Prop := fnExactBlocksFaultRow.holds Try.pinned (OpenSpec.ofChange fnExactBlocksFaultSpec)

/-- ITS FALSE NEIGHBOUR: 'it returns false'. Refute it at one input. -/
def fnExactBlocksFaultWrong : ChangeSpec := { name := "fnExactBlocksFault", fn := fun _ => fun
  | [d] => { results := [.lit (.bool false)], args := [d] }
  | _ => none }
def FnExactBlocksFaultWrongFalsely : Prop := fnExactBlocksFaultRow.holds Try.pinned (OpenSpec.ofChange fnExactBlocksFaultWrong)

/-- 'laws.FnExactNewBlocks': WHATEVER THE INPUT: true; the input reads as it did. -/
def fnExactNewBlocksSpec : ChangeSpec := { name := "fnExactNewBlocks", fn := fun _ => fun
  | [d] => { results := [.lit (.bool true)], args := [d] }
  | _ => none }
def fnExactNewBlocksRow : OpenClaim := { program := "ytkdaphfmhdkhfaa", sum := "e3b7d741f0b4afaa4d743a3a982883fa03a764c9d0eaad1be64d8074a9d5b3ee", func := "loop.example/g00277/laws.FnExactNewBlocks", spec := "fnExactNewBlocks", apart := false }
def FnExactNewBlocksSaid : Prop := fnExactNewBlocksRow.holds Try.pinned (OpenSpec.ofChange fnExactNewBlocksSpec)

/-- ITS FALSE NEIGHBOUR: 'it returns false'. Refute it at one input. -/
def fnExactNewBlocksWrong : ChangeSpec := { name := "fnExactNewBlocks", fn := fun _ => fun
  | [d] => { results := [.lit (.bool false)], args := [d] }
  | _ => none }
def FnExactNewBlocksWrongFalsely : Prop := fnExactNewBlocksRow.holds Try.pinned (OpenSpec.ofChange fnExactNewBlocksWrong)

/-- 'laws.FnExactTakeBlock': WHATEVER THE INPUT: true; the input reads as it did. -/
def fnExactTakeBlockSpec : ChangeSpec := { name := "fnExactTakeBlock", fn := fun _ => fun
  | [d1, d2] => { results := [.lit (.bool true)], args := [d1, d2] }
  | _ => none }
def fnExactTakeBlockRow : OpenClaim := { program := "ytkdaphfmhdkhfaa", sum := "e3b7d741f0b4afaa4d743a3a982883fa03a764c9d0eaad1be64d8074a9d5b3ee", func := "loop.example/g00277/laws.FnExactTakeBlock", spec := "fnExactTakeBlock", apart := false }
def FnExactTakeBlockSaid : Prop := fnExactTakeBlockRow.holds Try.pinned (OpenSpec.ofChange fnExactTakeBlockSpec)

/-- ITS FALSE NEIGHBOUR: 'it returns false'. Refute it at one input. -/
def fnExactTakeBlockWrong : ChangeSpec := { name := "fnExactTakeBlock", fn := fun _ => fun
  | [d1, d2] => { results := [.lit (.bool false)], args := [d1, d2] }
  | _ => none }
def FnExactTakeBlockWrongFalsely : Prop := fnExactTakeBlockRow.holds Try.pinned (OpenSpec.ofChange fnExactTakeBlockWrong)

/-- 'laws.FnExactShareBlock': WHATEVER THE INPUT: true; the input reads as it did. -/
def fnExactShareBlockSpec : ChangeSpec := { name := "fnExactShareBlock", fn := fun _ => fun
  | [d1, d2] => { results := [.lit (.bool true)], args := [d1, d2] }
  | _ => none }
def fnExactShareBlockRow : OpenClaim := { program := "ytkdaphfmhdkhfaa", sum := "e3b7d741f0b4afaa4d743a3a982883fa03a764c9d0eaad1be64d8074a9d5b3ee", func := "loop.example/g00277/laws.FnExactShareBlock", spec := "fnExactShareBlock", apart := false }
def FnExactShareBlockSaid : Prop := fnExactShareBlockRow.holds Try.pinned (OpenSpec.ofChange fnExactShareBlockSpec)

/-- ITS FALSE NEIGHBOUR: 'it returns false'. Refute it at one input. -/
def fnExactShareBlockWrong : ChangeSpec := { name := "fnExactShareBlock", fn := fun _ => fun
  | [d1, d2] => { results := [.lit (.bool false)], args := [d1, d2] }
  | _ => none }
def FnExactShareBlockWrongFalsely : Prop := fnExactShareBlockRow.holds Try.pinned (OpenSpec.ofChange fnExactShareBlockWrong)

/-- 'laws.FnExactDropBlock': WHATEVER THE INPUT: true; the input reads as it did. -/
def fnExactDropBlockSpec : ChangeSpec := { name := "fnExactDropBlock", fn := fun _ => fun
  | [d1, d2] => { results := [.lit (.bool true)], args := [d1, d2] }
  | _ => none }
def fnExactDropBlockRow : OpenClaim := { program := "ytkdaphfmhdkhfaa", sum := "e3b7d741f0b4afaa4d743a3a982883fa03a764c9d0eaad1be64d8074a9d5b3ee", func := "loop.example/g00277/laws.FnExactDropBlock", spec := "fnExactDropBlock", apart := false }
def FnExactDropBlockSaid : Prop := fnExactDropBlockRow.holds Try.pinned (OpenSpec.ofChange fnExactDropBlockSpec)

/-- ITS FALSE NEIGHBOUR: 'it returns false'. Refute it at one input. -/
def fnExactDropBlockWrong : ChangeSpec := { name := "fnExactDropBlock", fn := fun _ => fun
  | [d1, d2] => { results := [.lit (.bool false)], args := [d1, d2] }
  | _ => none }
def FnExactDropBlockWrongFalsely : Prop := fnExactDropBlockRow.holds Try.pinned (OpenSpec.ofChange fnExactDropBlockWrong)

/-- 'laws.FnExactFreeOf': WHATEVER THE INPUT: true; the input reads as it did. -/
def fnExactFreeOfSpec : ChangeSpec := { name := "fnExactFreeOf", fn := fun _ => fun
  | [d] => { results := [.lit (.bool true)], args := [d] }
  | _ => none }
def fnExactFreeOfRow : OpenClaim := { program := "ytkdaphfmhdkhfaa", sum := "e3b7d741f0b4afaa4d743a3a982883fa03a764c9d0eaad1be64d8074a9d5b3ee", func := "loop.example/g00277/laws.FnExactFreeOf", spec := "fnExactFreeOf", apart := false }
def FnExactFreeOfSaid : Prop := fnExactFreeOfRow.holds Try.pinned (OpenSpec.ofChange fnExactFreeOfSpec)

/-- ITS FALSE NEIGHBOUR: 'it returns false'. Refute it at one input. -/
def fnExactFreeOfWrong : ChangeSpec := { name := "fnExactFreeOf", fn := fun _ => fun
  | [d] => { results := [.lit (.bool false)], args := [d] }
  | _ => none }
def FnExactFreeOfWrongFalsely : Prop := fnExactFreeOfRow.holds Try.pinned (OpenSpec.ofChange fnExactFreeOfWrong)

/-- 'laws.FnExactForestFault': WHATEVER THE INPUT: true; the input reads as it did. -/
def fnExactForestFaultSpec : ChangeSpec := { name := "fnExactForestFault", fn := fun _ => fun
  | [d] => { results := [.lit (.bool true)], args := [d] }
  | _ => none }
def fnExactForestFaultRow : OpenClaim := { program := "ytkdaphfmhdkhfaa", sum := "e3b7d741f0b4afaa4d743a3a982883fa03a764c9d0eaad1be64d8074a9d5b3ee", func := "loop.example/g00277/laws.FnExactForestFault", spec := "fnExactForestFault", apart := false }
def FnExactForestFaultSaid : Prop := fnExactForestFaultRow.holds Try.pinned (OpenSpec.ofChange fnExactForestFaultSpec)

/-- ITS FALSE NEIGHBOUR: 'it returns false'. Refute it at one input. -/
def fnExactForestFaultWrong : ChangeSpec := { name := "fnExactForestFault", fn := fun _ => fun
  | [d] => { results := [.lit (.bool false)], args := [d] }
  | _ => none }
def FnExactForestFaultWrongFalsely : Prop := fnExactForestFaultRow.holds Try.pinned (OpenSpec.ofChange fnExactForestFaultWrong)

/-- 'laws.FnExactNewForest': WHATEVER THE INPUT: true; the input reads as it did. -/
def fnExactNewForestSpec : ChangeSpec := { name := "fnExactNewForest", fn := fun _ => fun
  | [d] => { results := [.lit (.bool true)], args := [d] }
  | _ => none }
def fnExactNewForestRow : OpenClaim := { program := "ytkdaphfmhdkhfaa", sum := "e3b7d741f0b4afaa4d743a3a982883fa03a764c9d0eaad1be64d8074a9d5b3ee", func := "loop.example/g00277/laws.FnExactNewForest", spec := "fnExactNewForest", apart := false }
def FnExactNewForestSaid : Prop := fnExactNewForestRow.holds Try.pinned (OpenSpec.ofChange fnExactNewForestSpec)

/-- ITS FALSE NEIGHBOUR: 'it returns false'. Refute it at one input. -/
def fnExactNewForestWrong : ChangeSpec := { name := "fnExactNewForest", fn := fun _ => fun
  | [d] => { results := [.lit (.bool false)], args := [d] }
  | _ => none }
def FnExactNewForestWrongFalsely : Prop := fnExactNewForestRow.holds Try.pinned (OpenSpec.ofChange fnExactNewForestWrong)

/-- 'laws.FnExactLookTree': WHATEVER THE INPUT: true; the input reads as it did. -/
def fnExactLookTreeSpec : ChangeSpec := { name := "fnExactLookTree", fn := fun _ => fun
  | [d1, d2, d3] => { results := [.lit (.bool true)], args := [d1, d2, d3] }
  | _ => none }
def fnExactLookTreeRow : OpenClaim := { program := "ytkdaphfmhdkhfaa", sum := "e3b7d741f0b4afaa4d743a3a982883fa03a764c9d0eaad1be64d8074a9d5b3ee", func := "loop.example/g00277/laws.FnExactLookTree", spec := "fnExactLookTree", apart := false }
def FnExactLookTreeSaid : Prop := fnExactLookTreeRow.holds Try.pinned (OpenSpec.ofChange fnExactLookTreeSpec)

/-- ITS FALSE NEIGHBOUR: 'it returns false'. Refute it at one input. -/
def fnExactLookTreeWrong : ChangeSpec := { name := "fnExactLookTree", fn := fun _ => fun
  | [d1, d2, d3] => { results := [.lit (.bool false)], args := [d1, d2, d3] }
  | _ => none }
def FnExactLookTreeWrongFalsely : Prop := fnExactLookTreeRow.holds Try.pinned (OpenSpec.ofChange fnExactLookTreeWrong)

/-- 'laws.FnExactSetTree': WHATEVER THE INPUT: true; the input reads as it did. -/
def fnExactSetTreeSpec : ChangeSpec := { name := "fnExactSetTree", fn := fun _ => fun
  | [d1, d2, d3, d4] => { results := [.lit (.bool true)], args := [d1, d2, d3, d4] }
  | _ => none }
def fnExactSetTreeRow : OpenClaim := { program := "ytkdaphfmhdkhfaa", sum := "e3b7d741f0b4afaa4d743a3a982883fa03a764c9d0eaad1be64d8074a9d5b3ee", func := "loop.example/g00277/laws.FnExactSetTree", spec := "fnExactSetTree", recurses := true, apart := false }
def FnExactSetTreeSaid : Prop := fnExactSetTreeRow.holds Try.pinned (OpenSpec.ofChange fnExactSetTreeSpec)

/-- ITS FALSE NEIGHBOUR: 'it returns false'. Refute it at one input. -/
def fnExactSetTreeWrong : ChangeSpec := { name := "fnExactSetTree", fn := fun _ => fun
  | [d1, d2, d3, d4] => { results := [.lit (.bool false)], args := [d1, d2, d3, d4] }
  | _ => none }
def FnExactSetTreeWrongFalsely : Prop := fnExactSetTreeRow.holds Try.pinned (OpenSpec.ofChange fnExactSetTreeWrong)

/-- 'laws.FnExactClearTree': WHATEVER THE INPUT: true; the input reads as it did. -/
def fnExactClearTreeSpec : ChangeSpec := { name := "fnExactClearTree", fn := fun _ => fun
  | [d1, d2, d3] => { results := [.lit (.bool true)], args := [d1, d2, d3] }
  | _ => none }
def fnExactClearTreeRow : OpenClaim := { program := "ytkdaphfmhdkhfaa", sum := "e3b7d741f0b4afaa4d743a3a982883fa03a764c9d0eaad1be64d8074a9d5b3ee", func := "loop.example/g00277/laws.FnExactClearTree", spec := "fnExactClearTree", recurses := true, apart := false }
def FnExactClearTreeSaid : Prop := fnExactClearTreeRow.holds Try.pinned (OpenSpec.ofChange fnExactClearTreeSpec)

/-- ITS FALSE NEIGHBOUR: 'it returns false'. Refute it at one input. -/
def fnExactClearTreeWrong : ChangeSpec := { name := "fnExactClearTree", fn := fun _ => fun
  | [d1, d2, d3] => { results := [.lit (.bool false)], args := [d1, d2, d3] }
  | _ => none }
def FnExactClearTreeWrongFalsely : Prop := fnExactClearTreeRow.holds Try.pinned (OpenSpec.ofChange fnExactClearTreeWrong)

/-- 'laws.FnExactShareTree': WHATEVER THE INPUT: true; the input reads as it did. -/
def fnExactShareTreeSpec : ChangeSpec := { name := "fnExactShareTree", fn := fun _ => fun
  | [d1, d2] => { results := [.lit (.bool true)], args := [d1, d2] }
  | _ => none }
def fnExactShareTreeRow : OpenClaim := { program := "ytkdaphfmhdkhfaa", sum := "e3b7d741f0b4afaa4d743a3a982883fa03a764c9d0eaad1be64d8074a9d5b3ee", func := "loop.example/g00277/laws.FnExactShareTree", spec := "fnExactShareTree", apart := false }
def FnExactShareTreeSaid : Prop := fnExactShareTreeRow.holds Try.pinned (OpenSpec.ofChange fnExactShareTreeSpec)

/-- ITS FALSE NEIGHBOUR: 'it returns false'. Refute it at one input. -/
def fnExactShareTreeWrong : ChangeSpec := { name := "fnExactShareTree", fn := fun _ => fun
  | [d1, d2] => { results := [.lit (.bool false)], args := [d1, d2] }
  | _ => none }
def FnExactShareTreeWrongFalsely : Prop := fnExactShareTreeRow.holds Try.pinned (OpenSpec.ofChange fnExactShareTreeWrong)

/-- 'laws.FnExactDropTree': WHATEVER THE INPUT: true; the input reads as it did. -/
def fnExactDropTreeSpec : ChangeSpec := { name := "fnExactDropTree", fn := fun _ => fun
  | [d1, d2] => { results := [.lit (.bool true)], args := [d1, d2] }
  | _ => none }
def fnExactDropTreeRow : OpenClaim := { program := "ytkdaphfmhdkhfaa", sum := "e3b7d741f0b4afaa4d743a3a982883fa03a764c9d0eaad1be64d8074a9d5b3ee", func := "loop.example/g00277/laws.FnExactDropTree", spec := "fnExactDropTree", recurses := true, apart := false }
def FnExactDropTreeSaid : Prop := fnExactDropTreeRow.holds Try.pinned (OpenSpec.ofChange fnExactDropTreeSpec)

/-- ITS FALSE NEIGHBOUR: 'it returns false'. Refute it at one input. -/
def fnExactDropTreeWrong : ChangeSpec := { name := "fnExactDropTree", fn := fun _ => fun
  | [d1, d2] => { results := [.lit (.bool false)], args := [d1, d2] }
  | _ => none }
def FnExactDropTreeWrongFalsely : Prop := fnExactDropTreeRow.holds Try.pinned (OpenSpec.ofChange fnExactDropTreeWrong)

/-- 'laws.FnExactWalkTree': WHATEVER THE INPUT: true; the input reads as it did. -/
def fnExactWalkTreeSpec : ChangeSpec := { name := "fnExactWalkTree", fn := fun _ => fun
  | [d1, d2] => { results := [.lit (.bool true)], args := [d1, d2] }
  | _ => none }
def fnExactWalkTreeRow : OpenClaim := { program := "ytkdaphfmhdkhfaa", sum := "e3b7d741f0b4afaa4d743a3a982883fa03a764c9d0eaad1be64d8074a9d5b3ee", func := "loop.example/g00277/laws.FnExactWalkTree", spec := "fnExactWalkTree", apart := false }
def FnExactWalkTreeSaid : Prop := fnExactWalkTreeRow.holds Try.pinned (OpenSpec.ofChange fnExactWalkTreeSpec)

/-- ITS FALSE NEIGHBOUR: 'it returns false'. Refute it at one input. -/
def fnExactWalkTreeWrong : ChangeSpec := { name := "fnExactWalkTree", fn := fun _ => fun
  | [d1, d2] => { results := [.lit (.bool false)], args := [d1, d2] }
  | _ => none }
def FnExactWalkTreeWrongFalsely : Prop := fnExactWalkTreeRow.holds Try.pinned (OpenSpec.ofChange fnExactWalkTreeWrong)

/-- 'laws.FnExactOpFault': WHATEVER THE INPUT: true; the input reads as it did. -/
def fnExactOpFaultSpec : ChangeSpec := { name := "fnExactOpFault", fn := fun _ => fun
  | [d] => { results := [.lit (.bool true)], args := [d] }
  | _ => none }
def fnExactOpFaultRow : OpenClaim := { program := "ytkdaphfmhdkhfaa", sum := "e3b7d741f0b4afaa4d743a3a982883fa03a764c9d0eaad1be64d8074a9d5b3ee", func := "loop.example/g00277/laws.FnExactOpFault", spec := "fnExactOpFault", apart := false }
def FnExactOpFaultSaid : Prop := fnExactOpFaultRow.holds Try.pinned (OpenSpec.ofChange fnExactOpFaultSpec)

/-- ITS FALSE NEIGHBOUR: 'it returns false'. Refute it at one input. -/
def fnExactOpFaultWrong : ChangeSpec := { name := "fnExactOpFault", fn := fun _ => fun
  | [d] => { results := [.lit (.bool false)], args := [d] }
  | _ => none }
def FnExactOpFaultWrongFalsely : Prop := fnExactOpFaultRow.holds Try.pinned (OpenSpec.ofChange fnExactOpFaultWrong)

/-- 'laws.FnExactPoolFault': WHATEVER THE INPUT: true; the input reads as it did. -/
def fnExactPoolFaultSpec : ChangeSpec := { name := "fnExactPoolFault", fn := fun _ => fun
  | [d] => { results := [.lit (.bool true)], args := [d] }
  | _ => none }
def fnExactPoolFaultRow : OpenClaim := { program := "ytkdaphfmhdkhfaa", sum := "e3b7d741f0b4afaa4d743a3a982883fa03a764c9d0eaad1be64d8074a9d5b3ee", func := "loop.example/g00277/laws.FnExactPoolFault", spec := "fnExactPoolFault", apart := false }
def FnExactPoolFaultSaid : Prop := fnExactPoolFaultRow.holds Try.pinned (OpenSpec.ofChange fnExactPoolFaultSpec)

/-- ITS FALSE NEIGHBOUR: 'it returns false'. Refute it at one input. -/
def fnExactPoolFaultWrong : ChangeSpec := { name := "fnExactPoolFault", fn := fun _ => fun
  | [d] => { results := [.lit (.bool false)], args := [d] }
  | _ => none }
def FnExactPoolFaultWrongFalsely : Prop := fnExactPoolFaultRow.holds Try.pinned (OpenSpec.ofChange fnExactPoolFaultWrong)

/-- 'laws.FnExactNewPool': WHATEVER THE INPUT: true; the input reads as it did. -/
def fnExactNewPoolSpec : ChangeSpec := { name := "fnExactNewPool", fn := fun _ => fun
  | [d] => { results := [.lit (.bool true)], args := [d] }
  | _ => none }
def fnExactNewPoolRow : OpenClaim := { program := "ytkdaphfmhdkhfaa", sum := "e3b7d741f0b4afaa4d743a3a982883fa03a764c9d0eaad1be64d8074a9d5b3ee", func := "loop.example/g00277/laws.FnExactNewPool", spec := "fnExactNewPool", apart := false }
def FnExactNewPoolSaid : Prop := fnExactNewPoolRow.holds Try.pinned (OpenSpec.ofChange fnExactNewPoolSpec)

/-- ITS FALSE NEIGHBOUR: 'it returns false'. Refute it at one input. -/
def fnExactNewPoolWrong : ChangeSpec := { name := "fnExactNewPool", fn := fun _ => fun
  | [d] => { results := [.lit (.bool false)], args := [d] }
  | _ => none }
def FnExactNewPoolWrongFalsely : Prop := fnExactNewPoolRow.holds Try.pinned (OpenSpec.ofChange fnExactNewPoolWrong)

/-- 'laws.FnExactVolAt': WHATEVER THE INPUT: true; the input reads as it did. -/
def fnExactVolAtSpec : ChangeSpec := { name := "fnExactVolAt", fn := fun _ => fun
  | [d1, d2] => { results := [.lit (.bool true)], args := [d1, d2] }
  | _ => none }
def fnExactVolAtRow : OpenClaim := { program := "ytkdaphfmhdkhfaa", sum := "e3b7d741f0b4afaa4d743a3a982883fa03a764c9d0eaad1be64d8074a9d5b3ee", func := "loop.example/g00277/laws.FnExactVolAt", spec := "fnExactVolAt", unfollowed := true, recurses := true, apart := false }
def FnExactVolAtSaid : Prop := fnExactVolAtRow.holds Try.pinned (OpenSpec.ofChange fnExactVolAtSpec)

/-- ITS FALSE NEIGHBOUR: 'it returns false'. Refute it at one input. -/
def fnExactVolAtWrong : ChangeSpec := { name := "fnExactVolAt", fn := fun _ => fun
  | [d1, d2] => { results := [.lit (.bool false)], args := [d1, d2] }
  | _ => none }
def FnExactVolAtWrongFalsely : Prop := fnExactVolAtRow.holds Try.pinned (OpenSpec.ofChange fnExactVolAtWrong)

/-- 'laws.FnExactUsedOf': WHATEVER THE INPUT: true; the input reads as it did. -/
def fnExactUsedOfSpec : ChangeSpec := { name := "fnExactUsedOf", fn := fun _ => fun
  | [d1, d2] => { results := [.lit (.bool true)], args := [d1, d2] }
  | _ => none }
def fnExactUsedOfRow : OpenClaim := { program := "ytkdaphfmhdkhfaa", sum := "e3b7d741f0b4afaa4d743a3a982883fa03a764c9d0eaad1be64d8074a9d5b3ee", func := "loop.example/g00277/laws.FnExactUsedOf", spec := "fnExactUsedOf", unfollowed := true, recurses := true, apart := false }
def FnExactUsedOfSaid : Prop := fnExactUsedOfRow.holds Try.pinned (OpenSpec.ofChange fnExactUsedOfSpec)

/-- ITS FALSE NEIGHBOUR: 'it returns false'. Refute it at one input. -/
def fnExactUsedOfWrong : ChangeSpec := { name := "fnExactUsedOf", fn := fun _ => fun
  | [d1, d2] => { results := [.lit (.bool false)], args := [d1, d2] }
  | _ => none }
def FnExactUsedOfWrongFalsely : Prop := fnExactUsedOfRow.holds Try.pinned (OpenSpec.ofChange fnExactUsedOfWrong)

/-- 'laws.FnExactSamePools': WHATEVER THE INPUT: true; the input reads as it did. -/
def fnExactSamePoolsSpec : ChangeSpec := { name := "fnExactSamePools", fn := fun _ => fun
  | [d1, d2] => { results := [.lit (.bool true)], args := [d1, d2] }
  | _ => none }
def fnExactSamePoolsRow : OpenClaim := { program := "ytkdaphfmhdkhfaa", sum := "e3b7d741f0b4afaa4d743a3a982883fa03a764c9d0eaad1be64d8074a9d5b3ee", func := "loop.example/g00277/laws.FnExactSamePools", spec := "fnExactSamePools", unfollowed := true, recurses := true, apart := false }
def FnExactSamePoolsSaid : Prop := fnExactSamePoolsRow.holds Try.pinned (OpenSpec.ofChange fnExactSamePoolsSpec)

/-- ITS FALSE NEIGHBOUR: 'it returns false'. Refute it at one input. -/
def fnExactSamePoolsWrong : ChangeSpec := { name := "fnExactSamePools", fn := fun _ => fun
  | [d1, d2] => { results := [.lit (.bool false)], args := [d1, d2] }
  | _ => none }
def FnExactSamePoolsWrongFalsely : Prop := fnExactSamePoolsRow.holds Try.pinned (OpenSpec.ofChange fnExactSamePoolsWrong)

/- THE SECOND FORM. 'bulk': how many values and letters a reading holds, each counted each time it is reached (what is shared counts as often as it is met; a slice's spare places count too). A statement '..UptoSaid' is the law's where the arguments, and the package variables that the reading takes, are together of bulk at most 1048576: NARROWER than '..Said'. Prove '..Said' where nothing that the law and all that it calls make is longer than what came in: it says more and counts as full. Else prove '..UptoSaid'. A law counts once. -/
mutual
def uptoBulk {H : Type} : DataW H → Nat
  | .lit (.string bytes) => bytes.length + 1
  | .lit _ => 1
  | .nil => 1
  | .ptr d => uptoBulk d + 1
  | .slice elems spare => uptoBulkAll elems + uptoBulkAll spare + 1
  | .agg parts => uptoBulkAll parts + 1
  | .iface _ d => uptoBulk d + 1
  | .map entries => uptoBulkEntries entries + 1
  | .held _ => 1
def uptoBulkAll {H : Type} : List (DataW H) → Nat
  | [] => 0
  | d :: r => uptoBulk d + uptoBulkAll r
def uptoBulkEntries {H : Type} : List (Lit × DataW H) → Nat
  | [] => 0
  | x :: r => uptoBulkEntry x + uptoBulkEntries r
def uptoBulkEntry {H : Type} : Lit × DataW H → Nat
  | (.string bytes, d) => bytes.length + uptoBulk d + 1
  | (_, d) => uptoBulk d + 1
 end
def uptoSmall : (H : Type) → List (DataW H) → Bool := fun _ ds => decide (uptoBulkAll ds ≤ 1048576)
def OpenSpec.upto (s : _root_.Go.ChangeSpec) : _root_.Go.OpenSpec := { _root_.Go.OpenSpec.ofChange s with cond := some uptoSmall }

/-- 'laws.FnDisks', WHERE WHAT IT READS IS OF BULK AT MOST 1048576: true; the input reads as it did. -/
def fnDisksUptoRow : OpenClaim := { program := "ytkdaphfmhdkhfaa", sum := "e3b7d741f0b4afaa4d743a3a982883fa03a764c9d0eaad1be64d8074a9d5b3ee", func := "loop.example/g00277/laws.FnDisks", spec := "fnDisks", apart := false, narrowed := true }
def FnDisksUptoSaid : Prop := fnDisksUptoRow.holds Try.pinned (OpenSpec.upto fnDisksSpec)

/-- 'laws.FnBlocks', WHERE WHAT IT READS IS OF BULK AT MOST 1048576: true; the input reads as it did. -/
def fnBlocksUptoRow : OpenClaim := { program := "ytkdaphfmhdkhfaa", sum := "e3b7d741f0b4afaa4d743a3a982883fa03a764c9d0eaad1be64d8074a9d5b3ee", func := "loop.example/g00277/laws.FnBlocks", spec := "fnBlocks", apart := false, narrowed := true }
def FnBlocksUptoSaid : Prop := fnBlocksUptoRow.holds Try.pinned (OpenSpec.upto fnBlocksSpec)

/-- 'laws.FnTrees', WHERE WHAT IT READS IS OF BULK AT MOST 1048576: true; the input reads as it did. -/
def fnTreesUptoRow : OpenClaim := { program := "ytkdaphfmhdkhfaa", sum := "e3b7d741f0b4afaa4d743a3a982883fa03a764c9d0eaad1be64d8074a9d5b3ee", func := "loop.example/g00277/laws.FnTrees", spec := "fnTrees", recurses := true, apart := false, narrowed := true }
def FnTreesUptoSaid : Prop := fnTreesUptoRow.holds Try.pinned (OpenSpec.upto fnTreesSpec)

/-- 'laws.FnClears', WHERE WHAT IT READS IS OF BULK AT MOST 1048576: true; the input reads as it did. -/
def fnClearsUptoRow : OpenClaim := { program := "ytkdaphfmhdkhfaa", sum := "e3b7d741f0b4afaa4d743a3a982883fa03a764c9d0eaad1be64d8074a9d5b3ee", func := "loop.example/g00277/laws.FnClears", spec := "fnClears", recurses := true, apart := false, narrowed := true }
def FnClearsUptoSaid : Prop := fnClearsUptoRow.holds Try.pinned (OpenSpec.upto fnClearsSpec)

/-- 'laws.FnFulls', WHERE WHAT IT READS IS OF BULK AT MOST 1048576: true; the input reads as it did. -/
def fnFullsUptoRow : OpenClaim := { program := "ytkdaphfmhdkhfaa", sum := "e3b7d741f0b4afaa4d743a3a982883fa03a764c9d0eaad1be64d8074a9d5b3ee", func := "loop.example/g00277/laws.FnFulls", spec := "fnFulls", inPlace := ["slices.overlaps[loop.example/g00277/impl.Vol]"], unfollowed := true, recurses := true, apart := false, narrowed := true }
def FnFullsUptoSaid : Prop := fnFullsUptoRow.holds Try.pinned (OpenSpec.upto fnFullsSpec)

/-- 'laws.FnQuotas', WHERE WHAT IT READS IS OF BULK AT MOST 1048576: true; the input reads as it did. -/
def fnQuotasUptoRow : OpenClaim := { program := "ytkdaphfmhdkhfaa", sum := "e3b7d741f0b4afaa4d743a3a982883fa03a764c9d0eaad1be64d8074a9d5b3ee", func := "loop.example/g00277/laws.FnQuotas", spec := "fnQuotas", inPlace := ["slices.overlaps[loop.example/g00277/impl.Vol]"], unfollowed := true, recurses := true, apart := false, narrowed := true }
def FnQuotasUptoSaid : Prop := fnQuotasUptoRow.holds Try.pinned (OpenSpec.upto fnQuotasSpec)

/-- 'laws.FnExactDiskFault', WHERE WHAT IT READS IS OF BULK AT MOST 1048576: true; the input reads as it did. -/
def fnExactDiskFaultUptoRow : OpenClaim := { program := "ytkdaphfmhdkhfaa", sum := "e3b7d741f0b4afaa4d743a3a982883fa03a764c9d0eaad1be64d8074a9d5b3ee", func := "loop.example/g00277/laws.FnExactDiskFault", spec := "fnExactDiskFault", apart := false, narrowed := true }
def FnExactDiskFaultUptoSaid : Prop := fnExactDiskFaultUptoRow.holds Try.pinned (OpenSpec.upto fnExactDiskFaultSpec)

/-- 'laws.FnExactNewDisk', WHERE WHAT IT READS IS OF BULK AT MOST 1048576: true; the input reads as it did. -/
def fnExactNewDiskUptoRow : OpenClaim := { program := "ytkdaphfmhdkhfaa", sum := "e3b7d741f0b4afaa4d743a3a982883fa03a764c9d0eaad1be64d8074a9d5b3ee", func := "loop.example/g00277/laws.FnExactNewDisk", spec := "fnExactNewDisk", apart := false, narrowed := true }
def FnExactNewDiskUptoSaid : Prop := fnExactNewDiskUptoRow.holds Try.pinned (OpenSpec.upto fnExactNewDiskSpec)

/-- 'laws.FnExactPutWord', WHERE WHAT IT READS IS OF BULK AT MOST 1048576: true; the input reads as it did. -/
def fnExactPutWordUptoRow : OpenClaim := { program := "ytkdaphfmhdkhfaa", sum := "e3b7d741f0b4afaa4d743a3a982883fa03a764c9d0eaad1be64d8074a9d5b3ee", func := "loop.example/g00277/laws.FnExactPutWord", spec := "fnExactPutWord", apart := false, narrowed := true }
def FnExactPutWordUptoSaid : Prop := fnExactPutWordUptoRow.holds Try.pinned (OpenSpec.upto fnExactPutWordSpec)

/-- 'laws.FnExactWordAt', WHERE WHAT IT READS IS OF BULK AT MOST 1048576: true; the input reads as it did. -/
def fnExactWordAtUptoRow : OpenClaim := { program := "ytkdaphfmhdkhfaa", sum := "e3b7d741f0b4afaa4d743a3a982883fa03a764c9d0eaad1be64d8074a9d5b3ee", func := "loop.example/g00277/laws.FnExactWordAt", spec := "fnExactWordAt", apart := false, narrowed := true }
def FnExactWordAtUptoSaid : Prop := fnExactWordAtUptoRow.holds Try.pinned (OpenSpec.upto fnExactWordAtSpec)

/-- 'laws.FnExactFlushDisk', WHERE WHAT IT READS IS OF BULK AT MOST 1048576: true; the input reads as it did. -/
def fnExactFlushDiskUptoRow : OpenClaim := { program := "ytkdaphfmhdkhfaa", sum := "e3b7d741f0b4afaa4d743a3a982883fa03a764c9d0eaad1be64d8074a9d5b3ee", func := "loop.example/g00277/laws.FnExactFlushDisk", spec := "fnExactFlushDisk", apart := false, narrowed := true }
def FnExactFlushDiskUptoSaid : Prop := fnExactFlushDiskUptoRow.holds Try.pinned (OpenSpec.upto fnExactFlushDiskSpec)

/-- 'laws.FnExactCrashDisk', WHERE WHAT IT READS IS OF BULK AT MOST 1048576: true; the input reads as it did. -/
def fnExactCrashDiskUptoRow : OpenClaim := { program := "ytkdaphfmhdkhfaa", sum := "e3b7d741f0b4afaa4d743a3a982883fa03a764c9d0eaad1be64d8074a9d5b3ee", func := "loop.example/g00277/laws.FnExactCrashDisk", spec := "fnExactCrashDisk", apart := false, narrowed := true }
def FnExactCrashDiskUptoSaid : Prop := fnExactCrashDiskUptoRow.holds Try.pinned (OpenSpec.upto fnExactCrashDiskSpec)

/-- 'laws.FnExactAllWords', WHERE WHAT IT READS IS OF BULK AT MOST 1048576: true; the input reads as it did. -/
def fnExactAllWordsUptoRow : OpenClaim := { program := "ytkdaphfmhdkhfaa", sum := "e3b7d741f0b4afaa4d743a3a982883fa03a764c9d0eaad1be64d8074a9d5b3ee", func := "loop.example/g00277/laws.FnExactAllWords", spec := "fnExactAllWords", apart := false, narrowed := true }
def FnExactAllWordsUptoSaid : Prop := fnExactAllWordsUptoRow.holds Try.pinned (OpenSpec.upto fnExactAllWordsSpec)

/-- 'laws.FnExactBlocksFault', WHERE WHAT IT READS IS OF BULK AT MOST 1048576: true; the input reads as it did. -/
def fnExactBlocksFaultUptoRow : OpenClaim := { program := "ytkdaphfmhdkhfaa", sum := "e3b7d741f0b4afaa4d743a3a982883fa03a764c9d0eaad1be64d8074a9d5b3ee", func := "loop.example/g00277/laws.FnExactBlocksFault", spec := "fnExactBlocksFault", apart := false, narrowed := true }
def FnExactBlocksFaultUptoSaid : Prop := fnExactBlocksFaultUptoRow.holds Try.pinned (OpenSpec.upto fnExactBlocksFaultSpec)

/-- 'laws.FnExactNewBlocks', WHERE WHAT IT READS IS OF BULK AT MOST 1048576: true; the input reads as it did. -/
def fnExactNewBlocksUptoRow : OpenClaim := { program := "ytkdaphfmhdkhfaa", sum := "e3b7d741f0b4afaa4d743a3a982883fa03a764c9d0eaad1be64d8074a9d5b3ee", func := "loop.example/g00277/laws.FnExactNewBlocks", spec := "fnExactNewBlocks", apart := false, narrowed := true }
def FnExactNewBlocksUptoSaid : Prop := fnExactNewBlocksUptoRow.holds Try.pinned (OpenSpec.upto fnExactNewBlocksSpec)

/-- 'laws.FnExactTakeBlock', WHERE WHAT IT READS IS OF BULK AT MOST 1048576: true; the input reads as it did. -/
def fnExactTakeBlockUptoRow : OpenClaim := { program := "ytkdaphfmhdkhfaa", sum := "e3b7d741f0b4afaa4d743a3a982883fa03a764c9d0eaad1be64d8074a9d5b3ee", func := "loop.example/g00277/laws.FnExactTakeBlock", spec := "fnExactTakeBlock", apart := false, narrowed := true }
def FnExactTakeBlockUptoSaid : Prop := fnExactTakeBlockUptoRow.holds Try.pinned (OpenSpec.upto fnExactTakeBlockSpec)

/-- 'laws.FnExactShareBlock', WHERE WHAT IT READS IS OF BULK AT MOST 1048576: true; the input reads as it did. -/
def fnExactShareBlockUptoRow : OpenClaim := { program := "ytkdaphfmhdkhfaa", sum := "e3b7d741f0b4afaa4d743a3a982883fa03a764c9d0eaad1be64d8074a9d5b3ee", func := "loop.example/g00277/laws.FnExactShareBlock", spec := "fnExactShareBlock", apart := false, narrowed := true }
def FnExactShareBlockUptoSaid : Prop := fnExactShareBlockUptoRow.holds Try.pinned (OpenSpec.upto fnExactShareBlockSpec)

/-- 'laws.FnExactDropBlock', WHERE WHAT IT READS IS OF BULK AT MOST 1048576: true; the input reads as it did. -/
def fnExactDropBlockUptoRow : OpenClaim := { program := "ytkdaphfmhdkhfaa", sum := "e3b7d741f0b4afaa4d743a3a982883fa03a764c9d0eaad1be64d8074a9d5b3ee", func := "loop.example/g00277/laws.FnExactDropBlock", spec := "fnExactDropBlock", apart := false, narrowed := true }
def FnExactDropBlockUptoSaid : Prop := fnExactDropBlockUptoRow.holds Try.pinned (OpenSpec.upto fnExactDropBlockSpec)

/-- 'laws.FnExactFreeOf', WHERE WHAT IT READS IS OF BULK AT MOST 1048576: true; the input reads as it did. -/
def fnExactFreeOfUptoRow : OpenClaim := { program := "ytkdaphfmhdkhfaa", sum := "e3b7d741f0b4afaa4d743a3a982883fa03a764c9d0eaad1be64d8074a9d5b3ee", func := "loop.example/g00277/laws.FnExactFreeOf", spec := "fnExactFreeOf", apart := false, narrowed := true }
def FnExactFreeOfUptoSaid : Prop := fnExactFreeOfUptoRow.holds Try.pinned (OpenSpec.upto fnExactFreeOfSpec)

/-- 'laws.FnExactForestFault', WHERE WHAT IT READS IS OF BULK AT MOST 1048576: true; the input reads as it did. -/
def fnExactForestFaultUptoRow : OpenClaim := { program := "ytkdaphfmhdkhfaa", sum := "e3b7d741f0b4afaa4d743a3a982883fa03a764c9d0eaad1be64d8074a9d5b3ee", func := "loop.example/g00277/laws.FnExactForestFault", spec := "fnExactForestFault", apart := false, narrowed := true }
def FnExactForestFaultUptoSaid : Prop := fnExactForestFaultUptoRow.holds Try.pinned (OpenSpec.upto fnExactForestFaultSpec)

/-- 'laws.FnExactNewForest', WHERE WHAT IT READS IS OF BULK AT MOST 1048576: true; the input reads as it did. -/
def fnExactNewForestUptoRow : OpenClaim := { program := "ytkdaphfmhdkhfaa", sum := "e3b7d741f0b4afaa4d743a3a982883fa03a764c9d0eaad1be64d8074a9d5b3ee", func := "loop.example/g00277/laws.FnExactNewForest", spec := "fnExactNewForest", apart := false, narrowed := true }
def FnExactNewForestUptoSaid : Prop := fnExactNewForestUptoRow.holds Try.pinned (OpenSpec.upto fnExactNewForestSpec)

/-- 'laws.FnExactLookTree', WHERE WHAT IT READS IS OF BULK AT MOST 1048576: true; the input reads as it did. -/
def fnExactLookTreeUptoRow : OpenClaim := { program := "ytkdaphfmhdkhfaa", sum := "e3b7d741f0b4afaa4d743a3a982883fa03a764c9d0eaad1be64d8074a9d5b3ee", func := "loop.example/g00277/laws.FnExactLookTree", spec := "fnExactLookTree", apart := false, narrowed := true }
def FnExactLookTreeUptoSaid : Prop := fnExactLookTreeUptoRow.holds Try.pinned (OpenSpec.upto fnExactLookTreeSpec)

/-- 'laws.FnExactSetTree', WHERE WHAT IT READS IS OF BULK AT MOST 1048576: true; the input reads as it did. -/
def fnExactSetTreeUptoRow : OpenClaim := { program := "ytkdaphfmhdkhfaa", sum := "e3b7d741f0b4afaa4d743a3a982883fa03a764c9d0eaad1be64d8074a9d5b3ee", func := "loop.example/g00277/laws.FnExactSetTree", spec := "fnExactSetTree", recurses := true, apart := false, narrowed := true }
def FnExactSetTreeUptoSaid : Prop := fnExactSetTreeUptoRow.holds Try.pinned (OpenSpec.upto fnExactSetTreeSpec)

/-- 'laws.FnExactClearTree', WHERE WHAT IT READS IS OF BULK AT MOST 1048576: true; the input reads as it did. -/
def fnExactClearTreeUptoRow : OpenClaim := { program := "ytkdaphfmhdkhfaa", sum := "e3b7d741f0b4afaa4d743a3a982883fa03a764c9d0eaad1be64d8074a9d5b3ee", func := "loop.example/g00277/laws.FnExactClearTree", spec := "fnExactClearTree", recurses := true, apart := false, narrowed := true }
def FnExactClearTreeUptoSaid : Prop := fnExactClearTreeUptoRow.holds Try.pinned (OpenSpec.upto fnExactClearTreeSpec)

/-- 'laws.FnExactShareTree', WHERE WHAT IT READS IS OF BULK AT MOST 1048576: true; the input reads as it did. -/
def fnExactShareTreeUptoRow : OpenClaim := { program := "ytkdaphfmhdkhfaa", sum := "e3b7d741f0b4afaa4d743a3a982883fa03a764c9d0eaad1be64d8074a9d5b3ee", func := "loop.example/g00277/laws.FnExactShareTree", spec := "fnExactShareTree", apart := false, narrowed := true }
def FnExactShareTreeUptoSaid : Prop := fnExactShareTreeUptoRow.holds Try.pinned (OpenSpec.upto fnExactShareTreeSpec)

/-- 'laws.FnExactDropTree', WHERE WHAT IT READS IS OF BULK AT MOST 1048576: true; the input reads as it did. -/
def fnExactDropTreeUptoRow : OpenClaim := { program := "ytkdaphfmhdkhfaa", sum := "e3b7d741f0b4afaa4d743a3a982883fa03a764c9d0eaad1be64d8074a9d5b3ee", func := "loop.example/g00277/laws.FnExactDropTree", spec := "fnExactDropTree", recurses := true, apart := false, narrowed := true }
def FnExactDropTreeUptoSaid : Prop := fnExactDropTreeUptoRow.holds Try.pinned (OpenSpec.upto fnExactDropTreeSpec)

/-- 'laws.FnExactWalkTree', WHERE WHAT IT READS IS OF BULK AT MOST 1048576: true; the input reads as it did. -/
def fnExactWalkTreeUptoRow : OpenClaim := { program := "ytkdaphfmhdkhfaa", sum := "e3b7d741f0b4afaa4d743a3a982883fa03a764c9d0eaad1be64d8074a9d5b3ee", func := "loop.example/g00277/laws.FnExactWalkTree", spec := "fnExactWalkTree", apart := false, narrowed := true }
def FnExactWalkTreeUptoSaid : Prop := fnExactWalkTreeUptoRow.holds Try.pinned (OpenSpec.upto fnExactWalkTreeSpec)

/-- 'laws.FnExactOpFault', WHERE WHAT IT READS IS OF BULK AT MOST 1048576: true; the input reads as it did. -/
def fnExactOpFaultUptoRow : OpenClaim := { program := "ytkdaphfmhdkhfaa", sum := "e3b7d741f0b4afaa4d743a3a982883fa03a764c9d0eaad1be64d8074a9d5b3ee", func := "loop.example/g00277/laws.FnExactOpFault", spec := "fnExactOpFault", apart := false, narrowed := true }
def FnExactOpFaultUptoSaid : Prop := fnExactOpFaultUptoRow.holds Try.pinned (OpenSpec.upto fnExactOpFaultSpec)

/-- 'laws.FnExactPoolFault', WHERE WHAT IT READS IS OF BULK AT MOST 1048576: true; the input reads as it did. -/
def fnExactPoolFaultUptoRow : OpenClaim := { program := "ytkdaphfmhdkhfaa", sum := "e3b7d741f0b4afaa4d743a3a982883fa03a764c9d0eaad1be64d8074a9d5b3ee", func := "loop.example/g00277/laws.FnExactPoolFault", spec := "fnExactPoolFault", apart := false, narrowed := true }
def FnExactPoolFaultUptoSaid : Prop := fnExactPoolFaultUptoRow.holds Try.pinned (OpenSpec.upto fnExactPoolFaultSpec)

/-- 'laws.FnExactNewPool', WHERE WHAT IT READS IS OF BULK AT MOST 1048576: true; the input reads as it did. -/
def fnExactNewPoolUptoRow : OpenClaim := { program := "ytkdaphfmhdkhfaa", sum := "e3b7d741f0b4afaa4d743a3a982883fa03a764c9d0eaad1be64d8074a9d5b3ee", func := "loop.example/g00277/laws.FnExactNewPool", spec := "fnExactNewPool", apart := false, narrowed := true }
def FnExactNewPoolUptoSaid : Prop := fnExactNewPoolUptoRow.holds Try.pinned (OpenSpec.upto fnExactNewPoolSpec)

/-- 'laws.FnExactVolAt', WHERE WHAT IT READS IS OF BULK AT MOST 1048576: true; the input reads as it did. -/
def fnExactVolAtUptoRow : OpenClaim := { program := "ytkdaphfmhdkhfaa", sum := "e3b7d741f0b4afaa4d743a3a982883fa03a764c9d0eaad1be64d8074a9d5b3ee", func := "loop.example/g00277/laws.FnExactVolAt", spec := "fnExactVolAt", unfollowed := true, recurses := true, apart := false, narrowed := true }
def FnExactVolAtUptoSaid : Prop := fnExactVolAtUptoRow.holds Try.pinned (OpenSpec.upto fnExactVolAtSpec)

/-- 'laws.FnExactUsedOf', WHERE WHAT IT READS IS OF BULK AT MOST 1048576: true; the input reads as it did. -/
def fnExactUsedOfUptoRow : OpenClaim := { program := "ytkdaphfmhdkhfaa", sum := "e3b7d741f0b4afaa4d743a3a982883fa03a764c9d0eaad1be64d8074a9d5b3ee", func := "loop.example/g00277/laws.FnExactUsedOf", spec := "fnExactUsedOf", unfollowed := true, recurses := true, apart := false, narrowed := true }
def FnExactUsedOfUptoSaid : Prop := fnExactUsedOfUptoRow.holds Try.pinned (OpenSpec.upto fnExactUsedOfSpec)

/-- 'laws.FnExactSamePools', WHERE WHAT IT READS IS OF BULK AT MOST 1048576: true; the input reads as it did. -/
def fnExactSamePoolsUptoRow : OpenClaim := { program := "ytkdaphfmhdkhfaa", sum := "e3b7d741f0b4afaa4d743a3a982883fa03a764c9d0eaad1be64d8074a9d5b3ee", func := "loop.example/g00277/laws.FnExactSamePools", spec := "fnExactSamePools", unfollowed := true, recurses := true, apart := false, narrowed := true }
def FnExactSamePoolsUptoSaid : Prop := fnExactSamePoolsUptoRow.holds Try.pinned (OpenSpec.upto fnExactSamePoolsSpec)

end Rows
end Go.Proofs.Ytkdaphfmhdkhfaa
