/-
  No cell of these rows narrows 'for every input' (looked for: loops, veiled, ifaces, maps, wideKeys, modest, calm, conditions, laid).
  DERIVED. THE GIVEN ROWS OF THIS SEAT. 12 by the template 'for every input the law returns true; each argument reads behind the call as it read before'; 0 by the template 'total and deterministic' (their statements: YtojcdmgcbgpdmaaTotals.lean).
  GIVEN WITH THE SEED: the statements are not yours to turn. If you find one false, say at which input.
  Laid BY PROGRAM, IN A SANDBOX (cutbox-rows.mjs): the forced cells as the released guide's own fill.sh prints them over the translation 81dc7f4d08512ca7… (all of the seat's roots in one cut). By AI agents, Wed Nov 11 2026. No macro, syntax, notation, axiom, sorry.
-/
import Derived.Test.YtojcdmgcbgpdmaaChecked
import GoSem.Claim
import GoSem.ClaimJoined
import GoSem.ClaimMapViews
import Derived.JoinedTies
import Derived.KernelRfl
namespace Go.Proofs.Ytojcdmgcbgpdmaa
/- THE CELL 'sum', in the pinned program and in every row, IS THE sha256 OF THE DUMP (.gsa) THAT YtojcdmgcbgpdmaaProg.lean LOADS. Nothing in Lean hashes anything: it is a label: what it is worth is what the hold of that sum in a sandbox is worth. -/
noncomputable def Try.pinned : Pinned := { name := "ytojcdmgcbgpdmaa", sum := "81dc7f4d08512ca7589d1c78491387b4c2208852c7653cd5d691f793a40ae19d", checked := Try.checked }
namespace Rows
def none {H : Type} : Left H := { results := [], args := [] }

/-- 'laws.FnStores': WHATEVER THE INPUT: true; the input reads as it did. -/
def fnStoresSpec : ChangeSpec := { name := "fnStores", fn := fun _ => fun
  | [d] => { results := [.lit (.bool true)], args := [d] }
  | _ => none }
def fnStoresRow : OpenClaim := { program := "ytojcdmgcbgpdmaa", sum := "81dc7f4d08512ca7589d1c78491387b4c2208852c7653cd5d691f793a40ae19d", func := "loop.example/g00583/laws.FnStores", spec := "fnStores", inPlace := ["internal/bytealg.Compare", "internal/bytealg.abigen_runtime_cmpstring", "slices.overlaps[loop.example/g00583/impl.Item]"], unfollowed := true, recurses := true, apart := false }
def FnStoresSaid : Prop := fnStoresRow.holds Try.pinned (OpenSpec.ofChange fnStoresSpec)

/-- ITS FALSE NEIGHBOUR: 'it returns false'. Refute it at one input. -/
def fnStoresWrong : ChangeSpec := { name := "fnStores", fn := fun _ => fun
  | [d] => { results := [.lit (.bool false)], args := [d] }
  | _ => none }
def FnStoresWrongFalsely : Prop := fnStoresRow.holds Try.pinned (OpenSpec.ofChange fnStoresWrong)

/-- 'laws.FnDeletions': WHATEVER THE INPUT: true; the input reads as it did. -/
def fnDeletionsSpec : ChangeSpec := { name := "fnDeletions", fn := fun _ => fun
  | [d] => { results := [.lit (.bool true)], args := [d] }
  | _ => none }
def fnDeletionsRow : OpenClaim := { program := "ytojcdmgcbgpdmaa", sum := "81dc7f4d08512ca7589d1c78491387b4c2208852c7653cd5d691f793a40ae19d", func := "loop.example/g00583/laws.FnDeletions", spec := "fnDeletions", inPlace := ["internal/bytealg.Compare", "internal/bytealg.abigen_runtime_cmpstring"], unfollowed := true, recurses := true, apart := false }
def FnDeletionsSaid : Prop := fnDeletionsRow.holds Try.pinned (OpenSpec.ofChange fnDeletionsSpec)

/-- ITS FALSE NEIGHBOUR: 'it returns false'. Refute it at one input. -/
def fnDeletionsWrong : ChangeSpec := { name := "fnDeletions", fn := fun _ => fun
  | [d] => { results := [.lit (.bool false)], args := [d] }
  | _ => none }
def FnDeletionsWrongFalsely : Prop := fnDeletionsRow.holds Try.pinned (OpenSpec.ofChange fnDeletionsWrong)

/-- 'laws.FnExactPutItem': WHATEVER THE INPUT: true; the input reads as it did. -/
def fnExactPutItemSpec : ChangeSpec := { name := "fnExactPutItem", fn := fun _ => fun
  | [d1, d2, d3] => { results := [.lit (.bool true)], args := [d1, d2, d3] }
  | _ => none }
def fnExactPutItemRow : OpenClaim := { program := "ytojcdmgcbgpdmaa", sum := "81dc7f4d08512ca7589d1c78491387b4c2208852c7653cd5d691f793a40ae19d", func := "loop.example/g00583/laws.FnExactPutItem", spec := "fnExactPutItem", inPlace := ["internal/bytealg.Compare", "internal/bytealg.abigen_runtime_cmpstring", "slices.overlaps[loop.example/g00583/impl.Item]"], unfollowed := true, recurses := true, apart := false }
def FnExactPutItemSaid : Prop := fnExactPutItemRow.holds Try.pinned (OpenSpec.ofChange fnExactPutItemSpec)

/-- ITS FALSE NEIGHBOUR: 'it returns false'. Refute it at one input. -/
def fnExactPutItemWrong : ChangeSpec := { name := "fnExactPutItem", fn := fun _ => fun
  | [d1, d2, d3] => { results := [.lit (.bool false)], args := [d1, d2, d3] }
  | _ => none }
def FnExactPutItemWrongFalsely : Prop := fnExactPutItemRow.holds Try.pinned (OpenSpec.ofChange fnExactPutItemWrong)

/-- 'laws.FnExactAddItem': WHATEVER THE INPUT: true; the input reads as it did. -/
def fnExactAddItemSpec : ChangeSpec := { name := "fnExactAddItem", fn := fun _ => fun
  | [d1, d2, d3] => { results := [.lit (.bool true)], args := [d1, d2, d3] }
  | _ => none }
def fnExactAddItemRow : OpenClaim := { program := "ytojcdmgcbgpdmaa", sum := "81dc7f4d08512ca7589d1c78491387b4c2208852c7653cd5d691f793a40ae19d", func := "loop.example/g00583/laws.FnExactAddItem", spec := "fnExactAddItem", inPlace := ["internal/bytealg.Compare", "internal/bytealg.abigen_runtime_cmpstring", "slices.overlaps[loop.example/g00583/impl.Item]"], unfollowed := true, recurses := true, apart := false }
def FnExactAddItemSaid : Prop := fnExactAddItemRow.holds Try.pinned (OpenSpec.ofChange fnExactAddItemSpec)

/-- ITS FALSE NEIGHBOUR: 'it returns false'. Refute it at one input. -/
def fnExactAddItemWrong : ChangeSpec := { name := "fnExactAddItem", fn := fun _ => fun
  | [d1, d2, d3] => { results := [.lit (.bool false)], args := [d1, d2, d3] }
  | _ => none }
def FnExactAddItemWrongFalsely : Prop := fnExactAddItemRow.holds Try.pinned (OpenSpec.ofChange fnExactAddItemWrong)

/-- 'laws.FnExactAutoItem': WHATEVER THE INPUT: true; the input reads as it did. -/
def fnExactAutoItemSpec : ChangeSpec := { name := "fnExactAutoItem", fn := fun _ => fun
  | [d1, d2] => { results := [.lit (.bool true)], args := [d1, d2] }
  | _ => none }
def fnExactAutoItemRow : OpenClaim := { program := "ytojcdmgcbgpdmaa", sum := "81dc7f4d08512ca7589d1c78491387b4c2208852c7653cd5d691f793a40ae19d", func := "loop.example/g00583/laws.FnExactAutoItem", spec := "fnExactAutoItem", inPlace := ["internal/bytealg.Compare", "internal/bytealg.abigen_runtime_cmpstring", "slices.overlaps[loop.example/g00583/impl.Item]"], unfollowed := true, recurses := true, apart := false }
def FnExactAutoItemSaid : Prop := fnExactAutoItemRow.holds Try.pinned (OpenSpec.ofChange fnExactAutoItemSpec)

/-- ITS FALSE NEIGHBOUR: 'it returns false'. Refute it at one input. -/
def fnExactAutoItemWrong : ChangeSpec := { name := "fnExactAutoItem", fn := fun _ => fun
  | [d1, d2] => { results := [.lit (.bool false)], args := [d1, d2] }
  | _ => none }
def FnExactAutoItemWrongFalsely : Prop := fnExactAutoItemRow.holds Try.pinned (OpenSpec.ofChange fnExactAutoItemWrong)

/-- 'laws.FnExactDeleteItems': WHATEVER THE INPUT: true; the input reads as it did. -/
def fnExactDeleteItemsSpec : ChangeSpec := { name := "fnExactDeleteItems", fn := fun _ => fun
  | [d1, d2] => { results := [.lit (.bool true)], args := [d1, d2] }
  | _ => none }
def fnExactDeleteItemsRow : OpenClaim := { program := "ytojcdmgcbgpdmaa", sum := "81dc7f4d08512ca7589d1c78491387b4c2208852c7653cd5d691f793a40ae19d", func := "loop.example/g00583/laws.FnExactDeleteItems", spec := "fnExactDeleteItems", inPlace := ["internal/bytealg.Compare", "internal/bytealg.abigen_runtime_cmpstring"], unfollowed := true, recurses := true, apart := false }
def FnExactDeleteItemsSaid : Prop := fnExactDeleteItemsRow.holds Try.pinned (OpenSpec.ofChange fnExactDeleteItemsSpec)

/-- ITS FALSE NEIGHBOUR: 'it returns false'. Refute it at one input. -/
def fnExactDeleteItemsWrong : ChangeSpec := { name := "fnExactDeleteItems", fn := fun _ => fun
  | [d1, d2] => { results := [.lit (.bool false)], args := [d1, d2] }
  | _ => none }
def FnExactDeleteItemsWrongFalsely : Prop := fnExactDeleteItemsRow.holds Try.pinned (OpenSpec.ofChange fnExactDeleteItemsWrong)

/-- 'laws.FnExactScopeOf': WHATEVER THE INPUT: true; the input reads as it did. -/
def fnExactScopeOfSpec : ChangeSpec := { name := "fnExactScopeOf", fn := fun _ => fun
  | [d] => { results := [.lit (.bool true)], args := [d] }
  | _ => none }
def fnExactScopeOfRow : OpenClaim := { program := "ytojcdmgcbgpdmaa", sum := "81dc7f4d08512ca7589d1c78491387b4c2208852c7653cd5d691f793a40ae19d", func := "loop.example/g00583/laws.FnExactScopeOf", spec := "fnExactScopeOf", recurses := true, apart := false }
def FnExactScopeOfSaid : Prop := fnExactScopeOfRow.holds Try.pinned (OpenSpec.ofChange fnExactScopeOfSpec)

/-- ITS FALSE NEIGHBOUR: 'it returns false'. Refute it at one input. -/
def fnExactScopeOfWrong : ChangeSpec := { name := "fnExactScopeOf", fn := fun _ => fun
  | [d] => { results := [.lit (.bool false)], args := [d] }
  | _ => none }
def FnExactScopeOfWrongFalsely : Prop := fnExactScopeOfRow.holds Try.pinned (OpenSpec.ofChange fnExactScopeOfWrong)

/-- 'laws.FnExactEncodeOps': WHATEVER THE INPUT: true; the input reads as it did. -/
def fnExactEncodeOpsSpec : ChangeSpec := { name := "fnExactEncodeOps", fn := fun _ => fun
  | [d] => { results := [.lit (.bool true)], args := [d] }
  | _ => none }
def fnExactEncodeOpsRow : OpenClaim := { program := "ytojcdmgcbgpdmaa", sum := "81dc7f4d08512ca7589d1c78491387b4c2208852c7653cd5d691f793a40ae19d", func := "loop.example/g00583/laws.FnExactEncodeOps", spec := "fnExactEncodeOps", unfollowed := true, recurses := true, apart := false }
def FnExactEncodeOpsSaid : Prop := fnExactEncodeOpsRow.holds Try.pinned (OpenSpec.ofChange fnExactEncodeOpsSpec)

/-- ITS FALSE NEIGHBOUR: 'it returns false'. Refute it at one input. -/
def fnExactEncodeOpsWrong : ChangeSpec := { name := "fnExactEncodeOps", fn := fun _ => fun
  | [d] => { results := [.lit (.bool false)], args := [d] }
  | _ => none }
def FnExactEncodeOpsWrongFalsely : Prop := fnExactEncodeOpsRow.holds Try.pinned (OpenSpec.ofChange fnExactEncodeOpsWrong)

/-- 'laws.FnExactNewTx': WHATEVER THE INPUT: true; the input reads as it did. -/
def fnExactNewTxSpec : ChangeSpec := { name := "fnExactNewTx", fn := fun _ => fun
  | [d1, d2] => { results := [.lit (.bool true)], args := [d1, d2] }
  | _ => none }
def fnExactNewTxRow : OpenClaim := { program := "ytojcdmgcbgpdmaa", sum := "81dc7f4d08512ca7589d1c78491387b4c2208852c7653cd5d691f793a40ae19d", func := "loop.example/g00583/laws.FnExactNewTx", spec := "fnExactNewTx", unfollowed := true, recurses := true, apart := false }
def FnExactNewTxSaid : Prop := fnExactNewTxRow.holds Try.pinned (OpenSpec.ofChange fnExactNewTxSpec)

/-- ITS FALSE NEIGHBOUR: 'it returns false'. Refute it at one input. -/
def fnExactNewTxWrong : ChangeSpec := { name := "fnExactNewTx", fn := fun _ => fun
  | [d1, d2] => { results := [.lit (.bool false)], args := [d1, d2] }
  | _ => none }
def FnExactNewTxWrongFalsely : Prop := fnExactNewTxRow.holds Try.pinned (OpenSpec.ofChange fnExactNewTxWrong)

/-- 'laws.FnExactConflicts': WHATEVER THE INPUT: true; the input reads as it did. -/
def fnExactConflictsSpec : ChangeSpec := { name := "fnExactConflicts", fn := fun _ => fun
  | [d1, d2] => { results := [.lit (.bool true)], args := [d1, d2] }
  | _ => none }
def fnExactConflictsRow : OpenClaim := { program := "ytojcdmgcbgpdmaa", sum := "81dc7f4d08512ca7589d1c78491387b4c2208852c7653cd5d691f793a40ae19d", func := "loop.example/g00583/laws.FnExactConflicts", spec := "fnExactConflicts", unfollowed := true, recurses := true, apart := false }
def FnExactConflictsSaid : Prop := fnExactConflictsRow.holds Try.pinned (OpenSpec.ofChange fnExactConflictsSpec)

/-- ITS FALSE NEIGHBOUR: 'it returns false'. Refute it at one input. -/
def fnExactConflictsWrong : ChangeSpec := { name := "fnExactConflicts", fn := fun _ => fun
  | [d1, d2] => { results := [.lit (.bool false)], args := [d1, d2] }
  | _ => none }
def FnExactConflictsWrongFalsely : Prop := fnExactConflictsRow.holds Try.pinned (OpenSpec.ofChange fnExactConflictsWrong)

/-- 'laws.FnExactCanStart': WHATEVER THE INPUT: true; the input reads as it did. -/
def fnExactCanStartSpec : ChangeSpec := { name := "fnExactCanStart", fn := fun _ => fun
  | [d1, d2] => { results := [.lit (.bool true)], args := [d1, d2] }
  | _ => none }
def fnExactCanStartRow : OpenClaim := { program := "ytojcdmgcbgpdmaa", sum := "81dc7f4d08512ca7589d1c78491387b4c2208852c7653cd5d691f793a40ae19d", func := "loop.example/g00583/laws.FnExactCanStart", spec := "fnExactCanStart", unfollowed := true, recurses := true, apart := false }
def FnExactCanStartSaid : Prop := fnExactCanStartRow.holds Try.pinned (OpenSpec.ofChange fnExactCanStartSpec)

/-- ITS FALSE NEIGHBOUR: 'it returns false'. Refute it at one input. -/
def fnExactCanStartWrong : ChangeSpec := { name := "fnExactCanStart", fn := fun _ => fun
  | [d1, d2] => { results := [.lit (.bool false)], args := [d1, d2] }
  | _ => none }
def FnExactCanStartWrongFalsely : Prop := fnExactCanStartRow.holds Try.pinned (OpenSpec.ofChange fnExactCanStartWrong)

/-- 'laws.FnExactEqualQueues': WHATEVER THE INPUT: true; the input reads as it did. -/
def fnExactEqualQueuesSpec : ChangeSpec := { name := "fnExactEqualQueues", fn := fun _ => fun
  | [d1, d2] => { results := [.lit (.bool true)], args := [d1, d2] }
  | _ => none }
def fnExactEqualQueuesRow : OpenClaim := { program := "ytojcdmgcbgpdmaa", sum := "81dc7f4d08512ca7589d1c78491387b4c2208852c7653cd5d691f793a40ae19d", func := "loop.example/g00583/laws.FnExactEqualQueues", spec := "fnExactEqualQueues", unfollowed := true, recurses := true, apart := false }
def FnExactEqualQueuesSaid : Prop := fnExactEqualQueuesRow.holds Try.pinned (OpenSpec.ofChange fnExactEqualQueuesSpec)

/-- ITS FALSE NEIGHBOUR: 'it returns false'. Refute it at one input. -/
def fnExactEqualQueuesWrong : ChangeSpec := { name := "fnExactEqualQueues", fn := fun _ => fun
  | [d1, d2] => { results := [.lit (.bool false)], args := [d1, d2] }
  | _ => none }
def FnExactEqualQueuesWrongFalsely : Prop := fnExactEqualQueuesRow.holds Try.pinned (OpenSpec.ofChange fnExactEqualQueuesWrong)

/- THE SECOND FORM. 'bulk': how many values and letters a reading holds, each counted each time it is reached (what is shared counts as often as it is met; a slice's spare places count too). A statement '..UptoSaid' is the law's where the arguments, and the package variables that the reading takes, are together of bulk at most 1048576: NARROWER than '..Said'. Prove '..Said' where nothing that the law and all that it calls make is longer than what came in: it says more and counts as full. Else prove '..UptoSaid'. A law counts once. -/
mutual
def uptoBulk {H : Type} : DataW H → Nat
  | .lit (.string bytes) => bytes.length + 1
  | .lit _ => 1
  | .nil => 1
  | .ptr d => uptoBulk d + 1
  | .slice elems spare => uptoBulkAll elems + uptoBulkAll spare + 1
  | .agg parts => uptoBulkAll parts + 1
  | .iface _ d => uptoBulk d + 1
  | .map entries => uptoBulkEntries entries + 1
  | .held _ => 1
def uptoBulkAll {H : Type} : List (DataW H) → Nat
  | [] => 0
  | d :: r => uptoBulk d + uptoBulkAll r
def uptoBulkEntries {H : Type} : List (Lit × DataW H) → Nat
  | [] => 0
  | x :: r => uptoBulkEntry x + uptoBulkEntries r
def uptoBulkEntry {H : Type} : Lit × DataW H → Nat
  | (.string bytes, d) => bytes.length + uptoBulk d + 1
  | (_, d) => uptoBulk d + 1
 end
def uptoSmall : (H : Type) → List (DataW H) → Bool := fun _ ds => decide (uptoBulkAll ds ≤ 1048576)
def OpenSpec.upto (s : _root_.Go.ChangeSpec) : _root_.Go.OpenSpec := { _root_.Go.OpenSpec.ofChange s with cond := some uptoSmall }

/-- 'laws.FnStores', WHERE WHAT IT READS IS OF BULK AT MOST 1048576: true; the input reads as it did. -/
def fnStoresUptoRow : OpenClaim := { program := "ytojcdmgcbgpdmaa", sum := "81dc7f4d08512ca7589d1c78491387b4c2208852c7653cd5d691f793a40ae19d", func := "loop.example/g00583/laws.FnStores", spec := "fnStores", inPlace := ["internal/bytealg.Compare", "internal/bytealg.abigen_runtime_cmpstring", "slices.overlaps[loop.example/g00583/impl.Item]"], unfollowed := true, recurses := true, apart := false, narrowed := true }
def FnStoresUptoSaid : Prop := fnStoresUptoRow.holds Try.pinned (OpenSpec.upto fnStoresSpec)

/-- 'laws.FnDeletions', WHERE WHAT IT READS IS OF BULK AT MOST 1048576: true; the input reads as it did. -/
def fnDeletionsUptoRow : OpenClaim := { program := "ytojcdmgcbgpdmaa", sum := "81dc7f4d08512ca7589d1c78491387b4c2208852c7653cd5d691f793a40ae19d", func := "loop.example/g00583/laws.FnDeletions", spec := "fnDeletions", inPlace := ["internal/bytealg.Compare", "internal/bytealg.abigen_runtime_cmpstring"], unfollowed := true, recurses := true, apart := false, narrowed := true }
def FnDeletionsUptoSaid : Prop := fnDeletionsUptoRow.holds Try.pinned (OpenSpec.upto fnDeletionsSpec)

/-- 'laws.FnExactPutItem', WHERE WHAT IT READS IS OF BULK AT MOST 1048576: true; the input reads as it did. -/
def fnExactPutItemUptoRow : OpenClaim := { program := "ytojcdmgcbgpdmaa", sum := "81dc7f4d08512ca7589d1c78491387b4c2208852c7653cd5d691f793a40ae19d", func := "loop.example/g00583/laws.FnExactPutItem", spec := "fnExactPutItem", inPlace := ["internal/bytealg.Compare", "internal/bytealg.abigen_runtime_cmpstring", "slices.overlaps[loop.example/g00583/impl.Item]"], unfollowed := true, recurses := true, apart := false, narrowed := true }
def FnExactPutItemUptoSaid : Prop := fnExactPutItemUptoRow.holds Try.pinned (OpenSpec.upto fnExactPutItemSpec)

/-- 'laws.FnExactAddItem', WHERE WHAT IT READS IS OF BULK AT MOST 1048576: true; the input reads as it did. -/
def fnExactAddItemUptoRow : OpenClaim := { program := "ytojcdmgcbgpdmaa", sum := "81dc7f4d08512ca7589d1c78491387b4c2208852c7653cd5d691f793a40ae19d", func := "loop.example/g00583/laws.FnExactAddItem", spec := "fnExactAddItem", inPlace := ["internal/bytealg.Compare", "internal/bytealg.abigen_runtime_cmpstring", "slices.overlaps[loop.example/g00583/impl.Item]"], unfollowed := true, recurses := true, apart := false, narrowed := true }
def FnExactAddItemUptoSaid : Prop := fnExactAddItemUptoRow.holds Try.pinned (OpenSpec.upto fnExactAddItemSpec)

/-- 'laws.FnExactAutoItem', WHERE WHAT IT READS IS OF BULK AT MOST 1048576: true; the input reads as it did. -/
def fnExactAutoItemUptoRow : OpenClaim := { program := "ytojcdmgcbgpdmaa", sum := "81dc7f4d08512ca7589d1c78491387b4c2208852c7653cd5d691f793a40ae19d", func := "loop.example/g00583/laws.FnExactAutoItem", spec := "fnExactAutoItem", inPlace := ["internal/bytealg.Compare", "internal/bytealg.abigen_runtime_cmpstring", "slices.overlaps[loop.example/g00583/impl.Item]"], unfollowed := true, recurses := true, apart := false, narrowed := true }
def FnExactAutoItemUptoSaid : Prop := fnExactAutoItemUptoRow.holds Try.pinned (OpenSpec.upto fnExactAutoItemSpec)

/-- 'laws.FnExactDeleteItems', WHERE WHAT IT READS IS OF BULK AT MOST 1048576: true; the input reads as it did. -/
def fnExactDeleteItemsUptoRow : OpenClaim := { program := "ytojcdmgcbgpdmaa", sum := "81dc7f4d08512ca7589d1c78491387b4c2208852c7653cd5d691f793a40ae19d", func := "loop.example/g00583/laws.FnExactDeleteItems", spec := "fnExactDeleteItems", inPlace := ["internal/bytealg.Compare", "internal/bytealg.abigen_runtime_cmpstring"], unfollowed := true, recurses := true, apart := false, narrowed := true }
def FnExactDeleteItemsUptoSaid : Prop := fnExactDeleteItemsUptoRow.holds Try.pinned (OpenSpec.upto fnExactDeleteItemsSpec)

/-- 'laws.FnExactScopeOf', WHERE WHAT IT READS IS OF BULK AT MOST 1048576: true; the input reads as it did. -/
def fnExactScopeOfUptoRow : OpenClaim := { program := "ytojcdmgcbgpdmaa", sum := "81dc7f4d08512ca7589d1c78491387b4c2208852c7653cd5d691f793a40ae19d", func := "loop.example/g00583/laws.FnExactScopeOf", spec := "fnExactScopeOf", recurses := true, apart := false, narrowed := true }
def FnExactScopeOfUptoSaid : Prop := fnExactScopeOfUptoRow.holds Try.pinned (OpenSpec.upto fnExactScopeOfSpec)

/-- 'laws.FnExactEncodeOps', WHERE WHAT IT READS IS OF BULK AT MOST 1048576: true; the input reads as it did. -/
def fnExactEncodeOpsUptoRow : OpenClaim := { program := "ytojcdmgcbgpdmaa", sum := "81dc7f4d08512ca7589d1c78491387b4c2208852c7653cd5d691f793a40ae19d", func := "loop.example/g00583/laws.FnExactEncodeOps", spec := "fnExactEncodeOps", unfollowed := true, recurses := true, apart := false, narrowed := true }
def FnExactEncodeOpsUptoSaid : Prop := fnExactEncodeOpsUptoRow.holds Try.pinned (OpenSpec.upto fnExactEncodeOpsSpec)

/-- 'laws.FnExactNewTx', WHERE WHAT IT READS IS OF BULK AT MOST 1048576: true; the input reads as it did. -/
def fnExactNewTxUptoRow : OpenClaim := { program := "ytojcdmgcbgpdmaa", sum := "81dc7f4d08512ca7589d1c78491387b4c2208852c7653cd5d691f793a40ae19d", func := "loop.example/g00583/laws.FnExactNewTx", spec := "fnExactNewTx", unfollowed := true, recurses := true, apart := false, narrowed := true }
def FnExactNewTxUptoSaid : Prop := fnExactNewTxUptoRow.holds Try.pinned (OpenSpec.upto fnExactNewTxSpec)

/-- 'laws.FnExactConflicts', WHERE WHAT IT READS IS OF BULK AT MOST 1048576: true; the input reads as it did. -/
def fnExactConflictsUptoRow : OpenClaim := { program := "ytojcdmgcbgpdmaa", sum := "81dc7f4d08512ca7589d1c78491387b4c2208852c7653cd5d691f793a40ae19d", func := "loop.example/g00583/laws.FnExactConflicts", spec := "fnExactConflicts", unfollowed := true, recurses := true, apart := false, narrowed := true }
def FnExactConflictsUptoSaid : Prop := fnExactConflictsUptoRow.holds Try.pinned (OpenSpec.upto fnExactConflictsSpec)

/-- 'laws.FnExactCanStart', WHERE WHAT IT READS IS OF BULK AT MOST 1048576: true; the input reads as it did. -/
def fnExactCanStartUptoRow : OpenClaim := { program := "ytojcdmgcbgpdmaa", sum := "81dc7f4d08512ca7589d1c78491387b4c2208852c7653cd5d691f793a40ae19d", func := "loop.example/g00583/laws.FnExactCanStart", spec := "fnExactCanStart", unfollowed := true, recurses := true, apart := false, narrowed := true }
def FnExactCanStartUptoSaid : Prop := fnExactCanStartUptoRow.holds Try.pinned (OpenSpec.upto fnExactCanStartSpec)

/-- 'laws.FnExactEqualQueues', WHERE WHAT IT READS IS OF BULK AT MOST 1048576: true; the input reads as it did. -/
def fnExactEqualQueuesUptoRow : OpenClaim := { program := "ytojcdmgcbgpdmaa", sum := "81dc7f4d08512ca7589d1c78491387b4c2208852c7653cd5d691f793a40ae19d", func := "loop.example/g00583/laws.FnExactEqualQueues", spec := "fnExactEqualQueues", unfollowed := true, recurses := true, apart := false, narrowed := true }
def FnExactEqualQueuesUptoSaid : Prop := fnExactEqualQueuesUptoRow.holds Try.pinned (OpenSpec.upto fnExactEqualQueuesSpec)

end Rows
end Go.Proofs.Ytojcdmgcbgpdmaa
