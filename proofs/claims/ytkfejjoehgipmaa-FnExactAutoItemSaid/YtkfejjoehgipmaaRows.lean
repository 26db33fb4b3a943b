/-
  No cell of these rows narrows 'for every input' (looked for: loops, veiled, ifaces, maps, wideKeys, modest, calm, conditions, laid).
  DERIVED. THE GIVEN ROWS OF THIS SEAT. 11 by the template 'for every input the law returns true; each argument reads behind the call as it read before'; 0 by the template 'total and deterministic' (their statements: YtkfejjoehgipmaaTotals.lean).
  GIVEN WITH THE SEED: the statements are not yours to turn. If you find one false, say at which input.
  Laid BY PROGRAM, IN A SANDBOX (cutbox-rows.mjs): the forced cells as the released guide's own fill.sh prints them over the translation 138a0e67b06607aa… (all of the seat's roots in one cut). By AI agents, Wed Nov 11 2026. No macro, syntax, notation, axiom, sorry.
-/
import Derived.Test.YtkfejjoehgipmaaChecked
import GoSem.Claim
import GoSem.ClaimJoined
import GoSem.ClaimMapViews
import Derived.JoinedTies
import Derived.KernelRfl
namespace Go.Proofs.Ytkfejjoehgipmaa
/- THE CELL 'sum', in the pinned program and in every row, IS THE sha256 OF THE DUMP (.gsa) THAT YtkfejjoehgipmaaProg.lean LOADS. Nothing in Lean hashes anything: it is a label: what it is worth is what the hold of that sum in a sandbox is worth. -/
noncomputable def Try.pinned : Pinned := { name := "ytkfejjoehgipmaa", sum := "138a0e67b06607aaf438a773ba50e5fba7aaa314842cc3fdac53fdd20a90fca4", checked := Try.checked }
namespace Rows
def none {H : Type} : Left H := { results := [], args := [] }

/-- 'laws.FnStores': WHATEVER THE INPUT: true; the input reads as it did. -/
def fnStoresSpec : ChangeSpec := { name := "fnStores", fn := fun _ => fun
  | [d] => { results := [.lit (.bool true)], args := [d] }
  | _ => none }
def fnStoresRow : OpenClaim := { program := "ytkfejjoehgipmaa", sum := "138a0e67b06607aaf438a773ba50e5fba7aaa314842cc3fdac53fdd20a90fca4", func := "loop.example/g00583/laws.FnStores", spec := "fnStores", inPlace := ["internal/bytealg.Compare", "internal/bytealg.abigen_runtime_cmpstring", "slices.overlaps[loop.example/g00583/impl.Item]"], unfollowed := true, recurses := true, apart := false }
def FnStoresSaid : Prop := fnStoresRow.holds Try.pinned (OpenSpec.ofChange fnStoresSpec)

/-- ITS FALSE NEIGHBOUR: 'it returns false'. Refute it at one input. -/
def fnStoresWrong : ChangeSpec := { name := "fnStores", fn := fun _ => fun
  | [d] => { results := [.lit (.bool false)], args := [d] }
  | _ => none }
def FnStoresWrongFalsely : Prop := fnStoresRow.holds Try.pinned (OpenSpec.ofChange fnStoresWrong)

/-- 'laws.FnDeletions': WHATEVER THE INPUT: true; the input reads as it did. -/
def fnDeletionsSpec : ChangeSpec := { name := "fnDeletions", fn := fun _ => fun
  | [d] => { results := [.lit (.bool true)], args := [d] }
  | _ => none }
def fnDeletionsRow : OpenClaim := { program := "ytkfejjoehgipmaa", sum := "138a0e67b06607aaf438a773ba50e5fba7aaa314842cc3fdac53fdd20a90fca4", func := "loop.example/g00583/laws.FnDeletions", spec := "fnDeletions", inPlace := ["internal/bytealg.Compare", "internal/bytealg.abigen_runtime_cmpstring"], unfollowed := true, recurses := true, apart := false }
def FnDeletionsSaid : Prop := fnDeletionsRow.holds Try.pinned (OpenSpec.ofChange fnDeletionsSpec)

/-- ITS FALSE NEIGHBOUR: 'it returns false'. Refute it at one input. -/
def fnDeletionsWrong : ChangeSpec := { name := "fnDeletions", fn := fun _ => fun
  | [d] => { results := [.lit (.bool false)], args := [d] }
  | _ => none }
def FnDeletionsWrongFalsely : Prop := fnDeletionsRow.holds Try.pinned (OpenSpec.ofChange fnDeletionsWrong)

/-- 'laws.FnExactIsStore': WHATEVER THE INPUT: true; the input reads as it did. -/
def fnExactIsStoreSpec : ChangeSpec := { name := "fnExactIsStore", fn := fun _ => fun
  | [d] => { results := [.lit (.bool true)], args := [d] }
  | _ => none }
def fnExactIsStoreRow : OpenClaim := { program := "ytkfejjoehgipmaa", sum := "138a0e67b06607aaf438a773ba50e5fba7aaa314842cc3fdac53fdd20a90fca4", func := "loop.example/g00583/laws.FnExactIsStore", spec := "fnExactIsStore", inPlace := ["internal/bytealg.Compare", "internal/bytealg.abigen_runtime_cmpstring"], apart := false }
def FnExactIsStoreSaid : Prop := fnExactIsStoreRow.holds Try.pinned (OpenSpec.ofChange fnExactIsStoreSpec)

/-- ITS FALSE NEIGHBOUR: 'it returns false'. Refute it at one input. -/
def fnExactIsStoreWrong : ChangeSpec := { name := "fnExactIsStore", fn := fun _ => fun
  | [d] => { results := [.lit (.bool false)], args := [d] }
  | _ => none }
def FnExactIsStoreWrongFalsely : Prop := fnExactIsStoreRow.holds Try.pinned (OpenSpec.ofChange fnExactIsStoreWrong)

/-- 'laws.FnExactFindItem': WHATEVER THE INPUT: true; the input reads as it did. -/
def fnExactFindItemSpec : ChangeSpec := { name := "fnExactFindItem", fn := fun _ => fun
  | [d1, d2] => { results := [.lit (.bool true)], args := [d1, d2] }
  | _ => none }
def fnExactFindItemRow : OpenClaim := { program := "ytkfejjoehgipmaa", sum := "138a0e67b06607aaf438a773ba50e5fba7aaa314842cc3fdac53fdd20a90fca4", func := "loop.example/g00583/laws.FnExactFindItem", spec := "fnExactFindItem", unfollowed := true, recurses := true, apart := false }
def FnExactFindItemSaid : Prop := fnExactFindItemRow.holds Try.pinned (OpenSpec.ofChange fnExactFindItemSpec)

/-- ITS FALSE NEIGHBOUR: 'it returns false'. Refute it at one input. -/
def fnExactFindItemWrong : ChangeSpec := { name := "fnExactFindItem", fn := fun _ => fun
  | [d1, d2] => { results := [.lit (.bool false)], args := [d1, d2] }
  | _ => none }
def FnExactFindItemWrongFalsely : Prop := fnExactFindItemRow.holds Try.pinned (OpenSpec.ofChange fnExactFindItemWrong)

/-- 'laws.FnExactPutItem': WHATEVER THE INPUT: true; the input reads as it did. -/
def fnExactPutItemSpec : ChangeSpec := { name := "fnExactPutItem", fn := fun _ => fun
  | [d1, d2, d3] => { results := [.lit (.bool true)], args := [d1, d2, d3] }
  | _ => none }
def fnExactPutItemRow : OpenClaim := { program := "ytkfejjoehgipmaa", sum := "138a0e67b06607aaf438a773ba50e5fba7aaa314842cc3fdac53fdd20a90fca4", func := "loop.example/g00583/laws.FnExactPutItem", spec := "fnExactPutItem", inPlace := ["internal/bytealg.Compare", "internal/bytealg.abigen_runtime_cmpstring", "slices.overlaps[loop.example/g00583/impl.Item]"], unfollowed := true, recurses := true, apart := false }
def FnExactPutItemSaid : Prop := fnExactPutItemRow.holds Try.pinned (OpenSpec.ofChange fnExactPutItemSpec)

/-- ITS FALSE NEIGHBOUR: 'it returns false'. Refute it at one input. -/
def fnExactPutItemWrong : ChangeSpec := { name := "fnExactPutItem", fn := fun _ => fun
  | [d1, d2, d3] => { results := [.lit (.bool false)], args := [d1, d2, d3] }
  | _ => none }
def FnExactPutItemWrongFalsely : Prop := fnExactPutItemRow.holds Try.pinned (OpenSpec.ofChange fnExactPutItemWrong)

/-- 'laws.FnExactAddItem': WHATEVER THE INPUT: true; the input reads as it did. -/
def fnExactAddItemSpec : ChangeSpec := { name := "fnExactAddItem", fn := fun _ => fun
  | [d1, d2, d3] => { results := [.lit (.bool true)], args := [d1, d2, d3] }
  | _ => none }
def fnExactAddItemRow : OpenClaim := { program := "ytkfejjoehgipmaa", sum := "138a0e67b06607aaf438a773ba50e5fba7aaa314842cc3fdac53fdd20a90fca4", func := "loop.example/g00583/laws.FnExactAddItem", spec := "fnExactAddItem", inPlace := ["internal/bytealg.Compare", "internal/bytealg.abigen_runtime_cmpstring", "slices.overlaps[loop.example/g00583/impl.Item]"], unfollowed := true, recurses := true, apart := false }
def FnExactAddItemSaid : Prop := fnExactAddItemRow.holds Try.pinned (OpenSpec.ofChange fnExactAddItemSpec)

/-- ITS FALSE NEIGHBOUR: 'it returns false'. Refute it at one input. -/
def fnExactAddItemWrong : ChangeSpec := { name := "fnExactAddItem", fn := fun _ => fun
  | [d1, d2, d3] => { results := [.lit (.bool false)], args := [d1, d2, d3] }
  | _ => none }
def FnExactAddItemWrongFalsely : Prop := fnExactAddItemRow.holds Try.pinned (OpenSpec.ofChange fnExactAddItemWrong)

/-- 'laws.FnExactAutoItem': WHATEVER THE INPUT: true; the input reads as it did. -/
def fnExactAutoItemSpec : ChangeSpec := { name := "fnExactAutoItem", fn := fun _ => fun
  | [d1, d2] => { results := [.lit (.bool true)], args := [d1, d2] }
  | _ => none }
def fnExactAutoItemRow : OpenClaim := { program := "ytkfejjoehgipmaa", sum := "138a0e67b06607aaf438a773ba50e5fba7aaa314842cc3fdac53fdd20a90fca4", func := "loop.example/g00583/laws.FnExactAutoItem", spec := "fnExactAutoItem", inPlace := ["internal/bytealg.Compare", "internal/bytealg.abigen_runtime_cmpstring", "slices.overlaps[loop.example/g00583/impl.Item]"], unfollowed := true, recurses := true, apart := false }
def FnExactAutoItemSaid : Prop := fnExactAutoItemRow.holds Try.pinned (OpenSpec.ofChange fnExactAutoItemSpec)

/-- ITS FALSE NEIGHBOUR: 'it returns false'. Refute it at one input. -/
def fnExactAutoItemWrong : ChangeSpec := { name := "fnExactAutoItem", fn := fun _ => fun
  | [d1, d2] => { results := [.lit (.bool false)], args := [d1, d2] }
  | _ => none }
def FnExactAutoItemWrongFalsely : Prop := fnExactAutoItemRow.holds Try.pinned (OpenSpec.ofChange fnExactAutoItemWrong)

/-- 'laws.FnExactDeleteItems': WHATEVER THE INPUT: true; the input reads as it did. -/
def fnExactDeleteItemsSpec : ChangeSpec := { name := "fnExactDeleteItems", fn := fun _ => fun
  | [d1, d2] => { results := [.lit (.bool true)], args := [d1, d2] }
  | _ => none }
def fnExactDeleteItemsRow : OpenClaim := { program := "ytkfejjoehgipmaa", sum := "138a0e67b06607aaf438a773ba50e5fba7aaa314842cc3fdac53fdd20a90fca4", func := "loop.example/g00583/laws.FnExactDeleteItems", spec := "fnExactDeleteItems", inPlace := ["internal/bytealg.Compare", "internal/bytealg.abigen_runtime_cmpstring"], unfollowed := true, recurses := true, apart := false }
def FnExactDeleteItemsSaid : Prop := fnExactDeleteItemsRow.holds Try.pinned (OpenSpec.ofChange fnExactDeleteItemsSpec)

/-- ITS FALSE NEIGHBOUR: 'it returns false'. Refute it at one input. -/
def fnExactDeleteItemsWrong : ChangeSpec := { name := "fnExactDeleteItems", fn := fun _ => fun
  | [d1, d2] => { results := [.lit (.bool false)], args := [d1, d2] }
  | _ => none }
def FnExactDeleteItemsWrongFalsely : Prop := fnExactDeleteItemsRow.holds Try.pinned (OpenSpec.ofChange fnExactDeleteItemsWrong)

/-- 'laws.FnExactItemsIn': WHATEVER THE INPUT: true; the input reads as it did. -/
def fnExactItemsInSpec : ChangeSpec := { name := "fnExactItemsIn", fn := fun _ => fun
  | [d1, d2] => { results := [.lit (.bool true)], args := [d1, d2] }
  | _ => none }
def fnExactItemsInRow : OpenClaim := { program := "ytkfejjoehgipmaa", sum := "138a0e67b06607aaf438a773ba50e5fba7aaa314842cc3fdac53fdd20a90fca4", func := "loop.example/g00583/laws.FnExactItemsIn", spec := "fnExactItemsIn", inPlace := ["internal/bytealg.Compare", "internal/bytealg.abigen_runtime_cmpstring"], apart := false }
def FnExactItemsInSaid : Prop := fnExactItemsInRow.holds Try.pinned (OpenSpec.ofChange fnExactItemsInSpec)

/-- ITS FALSE NEIGHBOUR: 'it returns false'. Refute it at one input. -/
def fnExactItemsInWrong : ChangeSpec := { name := "fnExactItemsIn", fn := fun _ => fun
  | [d1, d2] => { results := [.lit (.bool false)], args := [d1, d2] }
  | _ => none }
def FnExactItemsInWrongFalsely : Prop := fnExactItemsInRow.holds Try.pinned (OpenSpec.ofChange fnExactItemsInWrong)

/-- 'laws.FnExactSizeStore': WHATEVER THE INPUT: true; the input reads as it did. -/
def fnExactSizeStoreSpec : ChangeSpec := { name := "fnExactSizeStore", fn := fun _ => fun
  | [d] => { results := [.lit (.bool true)], args := [d] }
  | _ => none }
def fnExactSizeStoreRow : OpenClaim := { program := "ytkfejjoehgipmaa", sum := "138a0e67b06607aaf438a773ba50e5fba7aaa314842cc3fdac53fdd20a90fca4", func := "loop.example/g00583/laws.FnExactSizeStore", spec := "fnExactSizeStore", apart := false }
def FnExactSizeStoreSaid : Prop := fnExactSizeStoreRow.holds Try.pinned (OpenSpec.ofChange fnExactSizeStoreSpec)

/-- ITS FALSE NEIGHBOUR: 'it returns false'. Refute it at one input. -/
def fnExactSizeStoreWrong : ChangeSpec := { name := "fnExactSizeStore", fn := fun _ => fun
  | [d] => { results := [.lit (.bool false)], args := [d] }
  | _ => none }
def FnExactSizeStoreWrongFalsely : Prop := fnExactSizeStoreRow.holds Try.pinned (OpenSpec.ofChange fnExactSizeStoreWrong)

/-- 'laws.FnExactEqualStores': WHATEVER THE INPUT: true; the input reads as it did. -/
def fnExactEqualStoresSpec : ChangeSpec := { name := "fnExactEqualStores", fn := fun _ => fun
  | [d1, d2] => { results := [.lit (.bool true)], args := [d1, d2] }
  | _ => none }
def fnExactEqualStoresRow : OpenClaim := { program := "ytkfejjoehgipmaa", sum := "138a0e67b06607aaf438a773ba50e5fba7aaa314842cc3fdac53fdd20a90fca4", func := "loop.example/g00583/laws.FnExactEqualStores", spec := "fnExactEqualStores", unfollowed := true, recurses := true, apart := false }
def FnExactEqualStoresSaid : Prop := fnExactEqualStoresRow.holds Try.pinned (OpenSpec.ofChange fnExactEqualStoresSpec)

/-- ITS FALSE NEIGHBOUR: 'it returns false'. Refute it at one input. -/
def fnExactEqualStoresWrong : ChangeSpec := { name := "fnExactEqualStores", fn := fun _ => fun
  | [d1, d2] => { results := [.lit (.bool false)], args := [d1, d2] }
  | _ => none }
def FnExactEqualStoresWrongFalsely : Prop := fnExactEqualStoresRow.holds Try.pinned (OpenSpec.ofChange fnExactEqualStoresWrong)

/- THE SECOND FORM. 'bulk': how many values and letters a reading holds, each counted each time it is reached (what is shared counts as often as it is met; a slice's spare places count too). A statement '..UptoSaid' is the law's where the arguments, and the package variables that the reading takes, are together of bulk at most 1048576: NARROWER than '..Said'. Prove '..Said' where nothing that the law and all that it calls make is longer than what came in: it says more and counts as full. Else prove '..UptoSaid'. A law counts once. -/
mutual
def uptoBulk {H : Type} : DataW H → Nat
  | .lit (.string bytes) => bytes.length + 1
  | .lit _ => 1
  | .nil => 1
  | .ptr d => uptoBulk d + 1
  | .slice elems spare => uptoBulkAll elems + uptoBulkAll spare + 1
  | .agg parts => uptoBulkAll parts + 1
  | .iface _ d => uptoBulk d + 1
  | .map entries => uptoBulkEntries entries + 1
  | .held _ => 1
def uptoBulkAll {H : Type} : List (DataW H) → Nat
  | [] => 0
  | d :: r => uptoBulk d + uptoBulkAll r
def uptoBulkEntries {H : Type} : List (Lit × DataW H) → Nat
  | [] => 0
  | x :: r => uptoBulkEntry x + uptoBulkEntries r
def uptoBulkEntry {H : Type} : Lit × DataW H → Nat
  | (.string bytes, d) => bytes.length + uptoBulk d + 1
  | (_, d) => uptoBulk d + 1
 end
def uptoSmall : (H : Type) → List (DataW H) → Bool := fun _ ds => decide (uptoBulkAll ds ≤ 1048576)
def OpenSpec.upto (s : _root_.Go.ChangeSpec) : _root_.Go.OpenSpec := { _root_.Go.OpenSpec.ofChange s with cond := some uptoSmall }

/-- 'laws.FnStores', WHERE WHAT IT READS IS OF BULK AT MOST 1048576: true; the input reads as it did. -/
def fnStoresUptoRow : OpenClaim := { program := "ytkfejjoehgipmaa", sum := "138a0e67b06607aaf438a773ba50e5fba7aaa314842cc3fdac53fdd20a90fca4", func := "loop.example/g00583/laws.FnStores", spec := "fnStores", inPlace := ["internal/bytealg.Compare", "internal/bytealg.abigen_runtime_cmpstring", "slices.overlaps[loop.example/g00583/impl.Item]"], unfollowed := true, recurses := true, apart := false, narrowed := true }
def FnStoresUptoSaid : Prop := fnStoresUptoRow.holds Try.pinned (OpenSpec.upto fnStoresSpec)

/-- 'laws.FnDeletions', WHERE WHAT IT READS IS OF BULK AT MOST 1048576: true; the input reads as it did. -/
def fnDeletionsUptoRow : OpenClaim := { program := "ytkfejjoehgipmaa", sum := "138a0e67b06607aaf438a773ba50e5fba7aaa314842cc3fdac53fdd20a90fca4", func := "loop.example/g00583/laws.FnDeletions", spec := "fnDeletions", inPlace := ["internal/bytealg.Compare", "internal/bytealg.abigen_runtime_cmpstring"], unfollowed := true, recurses := true, apart := false, narrowed := true }
def FnDeletionsUptoSaid : Prop := fnDeletionsUptoRow.holds Try.pinned (OpenSpec.upto fnDeletionsSpec)

/-- 'laws.FnExactIsStore', WHERE WHAT IT READS IS OF BULK AT MOST 1048576: true; the input reads as it did. -/
def fnExactIsStoreUptoRow : OpenClaim := { program := "ytkfejjoehgipmaa", sum := "138a0e67b06607aaf438a773ba50e5fba7aaa314842cc3fdac53fdd20a90fca4", func := "loop.example/g00583/laws.FnExactIsStore", spec := "fnExactIsStore", inPlace := ["internal/bytealg.Compare", "internal/bytealg.abigen_runtime_cmpstring"], apart := false, narrowed := true }
def FnExactIsStoreUptoSaid : Prop := fnExactIsStoreUptoRow.holds Try.pinned (OpenSpec.upto fnExactIsStoreSpec)

/-- 'laws.FnExactFindItem', WHERE WHAT IT READS IS OF BULK AT MOST 1048576: true; the input reads as it did. -/
def fnExactFindItemUptoRow : OpenClaim := { program := "ytkfejjoehgipmaa", sum := "138a0e67b06607aaf438a773ba50e5fba7aaa314842cc3fdac53fdd20a90fca4", func := "loop.example/g00583/laws.FnExactFindItem", spec := "fnExactFindItem", unfollowed := true, recurses := true, apart := false, narrowed := true }
def FnExactFindItemUptoSaid : Prop := fnExactFindItemUptoRow.holds Try.pinned (OpenSpec.upto fnExactFindItemSpec)

/-- 'laws.FnExactPutItem', WHERE WHAT IT READS IS OF BULK AT MOST 1048576: true; the input reads as it did. -/
def fnExactPutItemUptoRow : OpenClaim := { program := "ytkfejjoehgipmaa", sum := "138a0e67b06607aaf438a773ba50e5fba7aaa314842cc3fdac53fdd20a90fca4", func := "loop.example/g00583/laws.FnExactPutItem", spec := "fnExactPutItem", inPlace := ["internal/bytealg.Compare", "internal/bytealg.abigen_runtime_cmpstring", "slices.overlaps[loop.example/g00583/impl.Item]"], unfollowed := true, recurses := true, apart := false, narrowed := true }
def FnExactPutItemUptoSaid : Prop := fnExactPutItemUptoRow.holds Try.pinned (OpenSpec.upto fnExactPutItemSpec)

/-- 'laws.FnExactAddItem', WHERE WHAT IT READS IS OF BULK AT MOST 1048576: true; the input reads as it did. -/
def fnExactAddItemUptoRow : OpenClaim := { program := "ytkfejjoehgipmaa", sum := "138a0e67b06607aaf438a773ba50e5fba7aaa314842cc3fdac53fdd20a90fca4", func := "loop.example/g00583/laws.FnExactAddItem", spec := "fnExactAddItem", inPlace := ["internal/bytealg.Compare", "internal/bytealg.abigen_runtime_cmpstring", "slices.overlaps[loop.example/g00583/impl.Item]"], unfollowed := true, recurses := true, apart := false, narrowed := true }
def FnExactAddItemUptoSaid : Prop := fnExactAddItemUptoRow.holds Try.pinned (OpenSpec.upto fnExactAddItemSpec)

/-- 'laws.FnExactAutoItem', WHERE WHAT IT READS IS OF BULK AT MOST 1048576: true; the input reads as it did. -/
def fnExactAutoItemUptoRow : OpenClaim := { program := "ytkfejjoehgipmaa", sum := "138a0e67b06607aaf438a773ba50e5fba7aaa314842cc3fdac53fdd20a90fca4", func := "loop.example/g00583/laws.FnExactAutoItem", spec := "fnExactAutoItem", inPlace := ["internal/bytealg.Compare", "internal/bytealg.abigen_runtime_cmpstring", "slices.overlaps[loop.example/g00583/impl.Item]"], unfollowed := true, recurses := true, apart := false, narrowed := true }
def FnExactAutoItemUptoSaid : Prop := fnExactAutoItemUptoRow.holds Try.pinned (OpenSpec.upto fnExactAutoItemSpec)

/-- 'laws.FnExactDeleteItems', WHERE WHAT IT READS IS OF BULK AT MOST 1048576: true; the input reads as it did. -/
def fnExactDeleteItemsUptoRow : OpenClaim := { program := "ytkfejjoehgipmaa", sum := "138a0e67b06607aaf438a773ba50e5fba7aaa314842cc3fdac53fdd20a90fca4", func := "loop.example/g00583/laws.FnExactDeleteItems", spec := "fnExactDeleteItems", inPlace := ["internal/bytealg.Compare", "internal/bytealg.abigen_runtime_cmpstring"], unfollowed := true, recurses := true, apart := false, narrowed := true }
def FnExactDeleteItemsUptoSaid : Prop := fnExactDeleteItemsUptoRow.holds Try.pinned (OpenSpec.upto fnExactDeleteItemsSpec)

/-- 'laws.FnExactItemsIn', WHERE WHAT IT READS IS OF BULK AT MOST 1048576: true; the input reads as it did. -/
def fnExactItemsInUptoRow : OpenClaim := { program := "ytkfejjoehgipmaa", sum := "138a0e67b06607aaf438a773ba50e5fba7aaa314842cc3fdac53fdd20a90fca4", func := "loop.example/g00583/laws.FnExactItemsIn", spec := "fnExactItemsIn", inPlace := ["internal/bytealg.Compare", "internal/bytealg.abigen_runtime_cmpstring"], apart := false, narrowed := true }
def FnExactItemsInUptoSaid : Prop := fnExactItemsInUptoRow.holds Try.pinned (OpenSpec.upto fnExactItemsInSpec)

/-- 'laws.FnExactSizeStore', WHERE WHAT IT READS IS OF BULK AT MOST 1048576: true; the input reads as it did. -/
def fnExactSizeStoreUptoRow : OpenClaim := { program := "ytkfejjoehgipmaa", sum := "138a0e67b06607aaf438a773ba50e5fba7aaa314842cc3fdac53fdd20a90fca4", func := "loop.example/g00583/laws.FnExactSizeStore", spec := "fnExactSizeStore", apart := false, narrowed := true }
def FnExactSizeStoreUptoSaid : Prop := fnExactSizeStoreUptoRow.holds Try.pinned (OpenSpec.upto fnExactSizeStoreSpec)

/-- 'laws.FnExactEqualStores', WHERE WHAT IT READS IS OF BULK AT MOST 1048576: true; the input reads as it did. -/
def fnExactEqualStoresUptoRow : OpenClaim := { program := "ytkfejjoehgipmaa", sum := "138a0e67b06607aaf438a773ba50e5fba7aaa314842cc3fdac53fdd20a90fca4", func := "loop.example/g00583/laws.FnExactEqualStores", spec := "fnExactEqualStores", unfollowed := true, recurses := true, apart := false, narrowed := true }
def FnExactEqualStoresUptoSaid : Prop := fnExactEqualStoresUptoRow.holds Try.pinned (OpenSpec.upto fnExactEqualStoresSpec)

end Rows
end Go.Proofs.Ytkfejjoehgipmaa
