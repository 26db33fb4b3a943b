/-
  No cell of these rows narrows 'for every input' (looked for: loops, veiled, ifaces, maps, wideKeys, modest, calm, conditions, laid).
  DERIVED. THE GIVEN ROWS OF THIS SEAT. 10 by the template 'for every input the law returns true; each argument reads behind the call as it read before'; 0 by the template 'total and deterministic' (their statements: YtmnedjhfibmcnaaTotals.lean).
  GIVEN WITH THE SEED: the statements are not yours to turn. If you find one false, say at which input.
  Laid BY PROGRAM, IN A SANDBOX (cutbox-rows.mjs): the forced cells as the released guide's own fill.sh prints them over the translation 22e709de6504bf99… (all of the seat's roots in one cut). By AI agents, Wed Nov 11 2026. No macro, syntax, notation, axiom, sorry.
-/
import Derived.Test.YtmnedjhfibmcnaaChecked
import GoSem.Claim
import GoSem.ClaimJoined
import GoSem.ClaimMapViews
import Derived.JoinedTies
import Derived.KernelRfl
namespace Go.Proofs.Ytmnedjhfibmcnaa
/- THE CELL 'sum', in the pinned program and in every row, IS THE sha256 OF THE DUMP (.gsa) THAT YtmnedjhfibmcnaaProg.lean LOADS. Nothing in Lean hashes anything: it is a label: what it is worth is what the hold of that sum in a sandbox is worth. -/
noncomputable def Try.pinned : Pinned := { name := "ytmnedjhfibmcnaa", sum := "22e709de6504bf994a8e95ed9c46eade8852867c24474f5af094727792036d18", checked := Try.checked }
namespace Rows
def none {H : Type} : Left H := { results := [], args := [] }

/-- 'laws.FnDeletions': WHATEVER THE INPUT: true; the input reads as it did. -/
def fnDeletionsSpec : ChangeSpec := { name := "fnDeletions", fn := fun _ => fun
  | [d] => { results := [.lit (.bool true)], args := [d] }
  | _ => none }
def fnDeletionsRow : OpenClaim := { program := "ytmnedjhfibmcnaa", sum := "22e709de6504bf994a8e95ed9c46eade8852867c24474f5af094727792036d18", func := "loop.example/g00583/laws.FnDeletions", spec := "fnDeletions", inPlace := ["internal/bytealg.Compare", "internal/bytealg.abigen_runtime_cmpstring"], unfollowed := true, recurses := true, apart := false }
def FnDeletionsSaid : Prop := fnDeletionsRow.holds Try.pinned (OpenSpec.ofChange fnDeletionsSpec)

/-- ITS FALSE NEIGHBOUR: 'it returns false'. Refute it at one input. -/
def fnDeletionsWrong : ChangeSpec := { name := "fnDeletions", fn := fun _ => fun
  | [d] => { results := [.lit (.bool false)], args := [d] }
  | _ => none }
def FnDeletionsWrongFalsely : Prop := fnDeletionsRow.holds Try.pinned (OpenSpec.ofChange fnDeletionsWrong)

/-- 'laws.FnIndexes': WHATEVER THE INPUT: true; the input reads as it did. -/
def fnIndexesSpec : ChangeSpec := { name := "fnIndexes", fn := fun _ => fun
  | [d] => { results := [.lit (.bool true)], args := [d] }
  | _ => none }
def fnIndexesRow : OpenClaim := { program := "ytmnedjhfibmcnaa", sum := "22e709de6504bf994a8e95ed9c46eade8852867c24474f5af094727792036d18", func := "loop.example/g00583/laws.FnIndexes", spec := "fnIndexes", inPlace := ["internal/bytealg.Compare", "internal/bytealg.abigen_runtime_cmpstring"], unfollowed := true, recurses := true, apart := false }
def FnIndexesSaid : Prop := fnIndexesRow.holds Try.pinned (OpenSpec.ofChange fnIndexesSpec)

/-- ITS FALSE NEIGHBOUR: 'it returns false'. Refute it at one input. -/
def fnIndexesWrong : ChangeSpec := { name := "fnIndexes", fn := fun _ => fun
  | [d] => { results := [.lit (.bool false)], args := [d] }
  | _ => none }
def FnIndexesWrongFalsely : Prop := fnIndexesRow.holds Try.pinned (OpenSpec.ofChange fnIndexesWrong)

/-- 'laws.FnCursors': WHATEVER THE INPUT: true; the input reads as it did. -/
def fnCursorsSpec : ChangeSpec := { name := "fnCursors", fn := fun _ => fun
  | [d] => { results := [.lit (.bool true)], args := [d] }
  | _ => none }
def fnCursorsRow : OpenClaim := { program := "ytmnedjhfibmcnaa", sum := "22e709de6504bf994a8e95ed9c46eade8852867c24474f5af094727792036d18", func := "loop.example/g00583/laws.FnCursors", spec := "fnCursors", inPlace := ["internal/bytealg.Compare", "internal/bytealg.abigen_runtime_cmpstring"], apart := false }
def FnCursorsSaid : Prop := fnCursorsRow.holds Try.pinned (OpenSpec.ofChange fnCursorsSpec)

/-- ITS FALSE NEIGHBOUR: 'it returns false'. Refute it at one input. -/
def fnCursorsWrong : ChangeSpec := { name := "fnCursors", fn := fun _ => fun
  | [d] => { results := [.lit (.bool false)], args := [d] }
  | _ => none }
def FnCursorsWrongFalsely : Prop := fnCursorsRow.holds Try.pinned (OpenSpec.ofChange fnCursorsWrong)

/-- 'laws.FnExactItemsIn': WHATEVER THE INPUT: true; the input reads as it did. -/
def fnExactItemsInSpec : ChangeSpec := { name := "fnExactItemsIn", fn := fun _ => fun
  | [d1, d2] => { results := [.lit (.bool true)], args := [d1, d2] }
  | _ => none }
def fnExactItemsInRow : OpenClaim := { program := "ytmnedjhfibmcnaa", sum := "22e709de6504bf994a8e95ed9c46eade8852867c24474f5af094727792036d18", func := "loop.example/g00583/laws.FnExactItemsIn", spec := "fnExactItemsIn", inPlace := ["internal/bytealg.Compare", "internal/bytealg.abigen_runtime_cmpstring"], unfollowed := true, recurses := true, apart := false }
def FnExactItemsInSaid : Prop := fnExactItemsInRow.holds Try.pinned (OpenSpec.ofChange fnExactItemsInSpec)

/-- ITS FALSE NEIGHBOUR: 'it returns false'. Refute it at one input. -/
def fnExactItemsInWrong : ChangeSpec := { name := "fnExactItemsIn", fn := fun _ => fun
  | [d1, d2] => { results := [.lit (.bool false)], args := [d1, d2] }
  | _ => none }
def FnExactItemsInWrongFalsely : Prop := fnExactItemsInRow.holds Try.pinned (OpenSpec.ofChange fnExactItemsInWrong)

/-- 'laws.FnExactIndexOn': WHATEVER THE INPUT: true; the input reads as it did. -/
def fnExactIndexOnSpec : ChangeSpec := { name := "fnExactIndexOn", fn := fun _ => fun
  | [d1, d2] => { results := [.lit (.bool true)], args := [d1, d2] }
  | _ => none }
def fnExactIndexOnRow : OpenClaim := { program := "ytmnedjhfibmcnaa", sum := "22e709de6504bf994a8e95ed9c46eade8852867c24474f5af094727792036d18", func := "loop.example/g00583/laws.FnExactIndexOn", spec := "fnExactIndexOn", inPlace := ["internal/bytealg.Compare", "internal/bytealg.abigen_runtime_cmpstring"], unfollowed := true, recurses := true, apart := false }
def FnExactIndexOnSaid : Prop := fnExactIndexOnRow.holds Try.pinned (OpenSpec.ofChange fnExactIndexOnSpec)

/-- ITS FALSE NEIGHBOUR: 'it returns false'. Refute it at one input. -/
def fnExactIndexOnWrong : ChangeSpec := { name := "fnExactIndexOn", fn := fun _ => fun
  | [d1, d2] => { results := [.lit (.bool false)], args := [d1, d2] }
  | _ => none }
def FnExactIndexOnWrongFalsely : Prop := fnExactIndexOnRow.holds Try.pinned (OpenSpec.ofChange fnExactIndexOnWrong)

/-- 'laws.FnExactItemsWith': WHATEVER THE INPUT: true; the input reads as it did. -/
def fnExactItemsWithSpec : ChangeSpec := { name := "fnExactItemsWith", fn := fun _ => fun
  | [d1, d2, d3] => { results := [.lit (.bool true)], args := [d1, d2, d3] }
  | _ => none }
def fnExactItemsWithRow : OpenClaim := { program := "ytmnedjhfibmcnaa", sum := "22e709de6504bf994a8e95ed9c46eade8852867c24474f5af094727792036d18", func := "loop.example/g00583/laws.FnExactItemsWith", spec := "fnExactItemsWith", unfollowed := true, recurses := true, apart := false }
def FnExactItemsWithSaid : Prop := fnExactItemsWithRow.holds Try.pinned (OpenSpec.ofChange fnExactItemsWithSpec)

/-- ITS FALSE NEIGHBOUR: 'it returns false'. Refute it at one input. -/
def fnExactItemsWithWrong : ChangeSpec := { name := "fnExactItemsWith", fn := fun _ => fun
  | [d1, d2, d3] => { results := [.lit (.bool false)], args := [d1, d2, d3] }
  | _ => none }
def FnExactItemsWithWrongFalsely : Prop := fnExactItemsWithRow.holds Try.pinned (OpenSpec.ofChange fnExactItemsWithWrong)

/-- 'laws.FnExactUniqueFault': WHATEVER THE INPUT: true; the input reads as it did. -/
def fnExactUniqueFaultSpec : ChangeSpec := { name := "fnExactUniqueFault", fn := fun _ => fun
  | [d1, d2] => { results := [.lit (.bool true)], args := [d1, d2] }
  | _ => none }
def fnExactUniqueFaultRow : OpenClaim := { program := "ytmnedjhfibmcnaa", sum := "22e709de6504bf994a8e95ed9c46eade8852867c24474f5af094727792036d18", func := "loop.example/g00583/laws.FnExactUniqueFault", spec := "fnExactUniqueFault", inPlace := ["internal/bytealg.Compare", "internal/bytealg.abigen_runtime_cmpstring"], unfollowed := true, recurses := true, apart := false }
def FnExactUniqueFaultSaid : Prop := fnExactUniqueFaultRow.holds Try.pinned (OpenSpec.ofChange fnExactUniqueFaultSpec)

/-- ITS FALSE NEIGHBOUR: 'it returns false'. Refute it at one input. -/
def fnExactUniqueFaultWrong : ChangeSpec := { name := "fnExactUniqueFault", fn := fun _ => fun
  | [d1, d2] => { results := [.lit (.bool false)], args := [d1, d2] }
  | _ => none }
def FnExactUniqueFaultWrongFalsely : Prop := fnExactUniqueFaultRow.holds Try.pinned (OpenSpec.ofChange fnExactUniqueFaultWrong)

/-- 'laws.FnExactCursorNext': WHATEVER THE INPUT: true; the input reads as it did. -/
def fnExactCursorNextSpec : ChangeSpec := { name := "fnExactCursorNext", fn := fun _ => fun
  | [d1, d2] => { results := [.lit (.bool true)], args := [d1, d2] }
  | _ => none }
def fnExactCursorNextRow : OpenClaim := { program := "ytmnedjhfibmcnaa", sum := "22e709de6504bf994a8e95ed9c46eade8852867c24474f5af094727792036d18", func := "loop.example/g00583/laws.FnExactCursorNext", spec := "fnExactCursorNext", inPlace := ["internal/bytealg.Compare", "internal/bytealg.abigen_runtime_cmpstring"], apart := false }
def FnExactCursorNextSaid : Prop := fnExactCursorNextRow.holds Try.pinned (OpenSpec.ofChange fnExactCursorNextSpec)

/-- ITS FALSE NEIGHBOUR: 'it returns false'. Refute it at one input. -/
def fnExactCursorNextWrong : ChangeSpec := { name := "fnExactCursorNext", fn := fun _ => fun
  | [d1, d2] => { results := [.lit (.bool false)], args := [d1, d2] }
  | _ => none }
def FnExactCursorNextWrongFalsely : Prop := fnExactCursorNextRow.holds Try.pinned (OpenSpec.ofChange fnExactCursorNextWrong)

/-- 'laws.FnExactWalkStore': WHATEVER THE INPUT: true; the input reads as it did. -/
def fnExactWalkStoreSpec : ChangeSpec := { name := "fnExactWalkStore", fn := fun _ => fun
  | [d1, d2] => { results := [.lit (.bool true)], args := [d1, d2] }
  | _ => none }
def fnExactWalkStoreRow : OpenClaim := { program := "ytmnedjhfibmcnaa", sum := "22e709de6504bf994a8e95ed9c46eade8852867c24474f5af094727792036d18", func := "loop.example/g00583/laws.FnExactWalkStore", spec := "fnExactWalkStore", inPlace := ["internal/bytealg.Compare", "internal/bytealg.abigen_runtime_cmpstring"], apart := false }
def FnExactWalkStoreSaid : Prop := fnExactWalkStoreRow.holds Try.pinned (OpenSpec.ofChange fnExactWalkStoreSpec)

/-- ITS FALSE NEIGHBOUR: 'it returns false'. Refute it at one input. -/
def fnExactWalkStoreWrong : ChangeSpec := { name := "fnExactWalkStore", fn := fun _ => fun
  | [d1, d2] => { results := [.lit (.bool false)], args := [d1, d2] }
  | _ => none }
def FnExactWalkStoreWrongFalsely : Prop := fnExactWalkStoreRow.holds Try.pinned (OpenSpec.ofChange fnExactWalkStoreWrong)

/-- 'laws.FnExactCountWith': WHATEVER THE INPUT: true; the input reads as it did. -/
def fnExactCountWithSpec : ChangeSpec := { name := "fnExactCountWith", fn := fun _ => fun
  | [d1, d2, d3] => { results := [.lit (.bool true)], args := [d1, d2, d3] }
  | _ => none }
def fnExactCountWithRow : OpenClaim := { program := "ytmnedjhfibmcnaa", sum := "22e709de6504bf994a8e95ed9c46eade8852867c24474f5af094727792036d18", func := "loop.example/g00583/laws.FnExactCountWith", spec := "fnExactCountWith", unfollowed := true, recurses := true, apart := false }
def FnExactCountWithSaid : Prop := fnExactCountWithRow.holds Try.pinned (OpenSpec.ofChange fnExactCountWithSpec)

/-- ITS FALSE NEIGHBOUR: 'it returns false'. Refute it at one input. -/
def fnExactCountWithWrong : ChangeSpec := { name := "fnExactCountWith", fn := fun _ => fun
  | [d1, d2, d3] => { results := [.lit (.bool false)], args := [d1, d2, d3] }
  | _ => none }
def FnExactCountWithWrongFalsely : Prop := fnExactCountWithRow.holds Try.pinned (OpenSpec.ofChange fnExactCountWithWrong)

/- THE SECOND FORM. 'bulk': how many values and letters a reading holds, each counted each time it is reached (what is shared counts as often as it is met; a slice's spare places count too). A statement '..UptoSaid' is the law's where the arguments, and the package variables that the reading takes, are together of bulk at most 1048576: NARROWER than '..Said'. Prove '..Said' where nothing that the law and all that it calls make is longer than what came in: it says more and counts as full. Else prove '..UptoSaid'. A law counts once. -/
mutual
def uptoBulk {H : Type} : DataW H → Nat
  | .lit (.string bytes) => bytes.length + 1
  | .lit _ => 1
  | .nil => 1
  | .ptr d => uptoBulk d + 1
  | .slice elems spare => uptoBulkAll elems + uptoBulkAll spare + 1
  | .agg parts => uptoBulkAll parts + 1
  | .iface _ d => uptoBulk d + 1
  | .map entries => uptoBulkEntries entries + 1
  | .held _ => 1
def uptoBulkAll {H : Type} : List (DataW H) → Nat
  | [] => 0
  | d :: r => uptoBulk d + uptoBulkAll r
def uptoBulkEntries {H : Type} : List (Lit × DataW H) → Nat
  | [] => 0
  | x :: r => uptoBulkEntry x + uptoBulkEntries r
def uptoBulkEntry {H : Type} : Lit × DataW H → Nat
  | (.string bytes, d) => bytes.length + uptoBulk d + 1
  | (_, d) => uptoBulk d + 1
 end
def uptoSmall : (H : Type) → List (DataW H) → Bool := fun _ ds => decide (uptoBulkAll ds ≤ 1048576)
def OpenSpec.upto (s : _root_.Go.ChangeSpec) : _root_.Go.OpenSpec := { _root_.Go.OpenSpec.ofChange s with cond := some uptoSmall }

/-- 'laws.FnDeletions', WHERE WHAT IT READS IS OF BULK AT MOST 1048576: true; the input reads as it did. -/
def fnDeletionsUptoRow : OpenClaim := { program := "ytmnedjhfibmcnaa", sum := "22e709de6504bf994a8e95ed9c46eade8852867c24474f5af094727792036d18", func := "loop.example/g00583/laws.FnDeletions", spec := "fnDeletions", inPlace := ["internal/bytealg.Compare", "internal/bytealg.abigen_runtime_cmpstring"], unfollowed := true, recurses := true, apart := false, narrowed := true }
def FnDeletionsUptoSaid : Prop := fnDeletionsUptoRow.holds Try.pinned (OpenSpec.upto fnDeletionsSpec)

/-- 'laws.FnIndexes', WHERE WHAT IT READS IS OF BULK AT MOST 1048576: true; the input reads as it did. -/
def fnIndexesUptoRow : OpenClaim := { program := "ytmnedjhfibmcnaa", sum := "22e709de6504bf994a8e95ed9c46eade8852867c24474f5af094727792036d18", func := "loop.example/g00583/laws.FnIndexes", spec := "fnIndexes", inPlace := ["internal/bytealg.Compare", "internal/bytealg.abigen_runtime_cmpstring"], unfollowed := true, recurses := true, apart := false, narrowed := true }
def FnIndexesUptoSaid : Prop := fnIndexesUptoRow.holds Try.pinned (OpenSpec.upto fnIndexesSpec)

/-- 'laws.FnCursors', WHERE WHAT IT READS IS OF BULK AT MOST 1048576: true; the input reads as it did. -/
def fnCursorsUptoRow : OpenClaim := { program := "ytmnedjhfibmcnaa", sum := "22e709de6504bf994a8e95ed9c46eade8852867c24474f5af094727792036d18", func := "loop.example/g00583/laws.FnCursors", spec := "fnCursors", inPlace := ["internal/bytealg.Compare", "internal/bytealg.abigen_runtime_cmpstring"], apart := false, narrowed := true }
def FnCursorsUptoSaid : Prop := fnCursorsUptoRow.holds Try.pinned (OpenSpec.upto fnCursorsSpec)

/-- 'laws.FnExactItemsIn', WHERE WHAT IT READS IS OF BULK AT MOST 1048576: true; the input reads as it did. -/
def fnExactItemsInUptoRow : OpenClaim := { program := "ytmnedjhfibmcnaa", sum := "22e709de6504bf994a8e95ed9c46eade8852867c24474f5af094727792036d18", func := "loop.example/g00583/laws.FnExactItemsIn", spec := "fnExactItemsIn", inPlace := ["internal/bytealg.Compare", "internal/bytealg.abigen_runtime_cmpstring"], unfollowed := true, recurses := true, apart := false, narrowed := true }
def FnExactItemsInUptoSaid : Prop := fnExactItemsInUptoRow.holds Try.pinned (OpenSpec.upto fnExactItemsInSpec)

/-- 'laws.FnExactIndexOn', WHERE WHAT IT READS IS OF BULK AT MOST 1048576: true; the input reads as it did. -/
def fnExactIndexOnUptoRow : OpenClaim := { program := "ytmnedjhfibmcnaa", sum := "22e709de6504bf994a8e95ed9c46eade8852867c24474f5af094727792036d18", func := "loop.example/g00583/laws.FnExactIndexOn", spec := "fnExactIndexOn", inPlace := ["internal/bytealg.Compare", "internal/bytealg.abigen_runtime_cmpstring"], unfollowed := true, recurses := true, apart := false, narrowed := true }
def FnExactIndexOnUptoSaid : Prop := fnExactIndexOnUptoRow.holds Try.pinned (OpenSpec.upto fnExactIndexOnSpec)

/-- 'laws.FnExactItemsWith', WHERE WHAT IT READS IS OF BULK AT MOST 1048576: true; the input reads as it did. -/
def fnExactItemsWithUptoRow : OpenClaim := { program := "ytmnedjhfibmcnaa", sum := "22e709de6504bf994a8e95ed9c46eade8852867c24474f5af094727792036d18", func := "loop.example/g00583/laws.FnExactItemsWith", spec := "fnExactItemsWith", unfollowed := true, recurses := true, apart := false, narrowed := true }
def FnExactItemsWithUptoSaid : Prop := fnExactItemsWithUptoRow.holds Try.pinned (OpenSpec.upto fnExactItemsWithSpec)

/-- 'laws.FnExactUniqueFault', WHERE WHAT IT READS IS OF BULK AT MOST 1048576: true; the input reads as it did. -/
def fnExactUniqueFaultUptoRow : OpenClaim := { program := "ytmnedjhfibmcnaa", sum := "22e709de6504bf994a8e95ed9c46eade8852867c24474f5af094727792036d18", func := "loop.example/g00583/laws.FnExactUniqueFault", spec := "fnExactUniqueFault", inPlace := ["internal/bytealg.Compare", "internal/bytealg.abigen_runtime_cmpstring"], unfollowed := true, recurses := true, apart := false, narrowed := true }
def FnExactUniqueFaultUptoSaid : Prop := fnExactUniqueFaultUptoRow.holds Try.pinned (OpenSpec.upto fnExactUniqueFaultSpec)

/-- 'laws.FnExactCursorNext', WHERE WHAT IT READS IS OF BULK AT MOST 1048576: true; the input reads as it did. -/
def fnExactCursorNextUptoRow : OpenClaim := { program := "ytmnedjhfibmcnaa", sum := "22e709de6504bf994a8e95ed9c46eade8852867c24474f5af094727792036d18", func := "loop.example/g00583/laws.FnExactCursorNext", spec := "fnExactCursorNext", inPlace := ["internal/bytealg.Compare", "internal/bytealg.abigen_runtime_cmpstring"], apart := false, narrowed := true }
def FnExactCursorNextUptoSaid : Prop := fnExactCursorNextUptoRow.holds Try.pinned (OpenSpec.upto fnExactCursorNextSpec)

/-- 'laws.FnExactWalkStore', WHERE WHAT IT READS IS OF BULK AT MOST 1048576: true; the input reads as it did. -/
def fnExactWalkStoreUptoRow : OpenClaim := { program := "ytmnedjhfibmcnaa", sum := "22e709de6504bf994a8e95ed9c46eade8852867c24474f5af094727792036d18", func := "loop.example/g00583/laws.FnExactWalkStore", spec := "fnExactWalkStore", inPlace := ["internal/bytealg.Compare", "internal/bytealg.abigen_runtime_cmpstring"], apart := false, narrowed := true }
def FnExactWalkStoreUptoSaid : Prop := fnExactWalkStoreUptoRow.holds Try.pinned (OpenSpec.upto fnExactWalkStoreSpec)

/-- 'laws.FnExactCountWith', WHERE WHAT IT READS IS OF BULK AT MOST 1048576: true; the input reads as it did. -/
def fnExactCountWithUptoRow : OpenClaim := { program := "ytmnedjhfibmcnaa", sum := "22e709de6504bf994a8e95ed9c46eade8852867c24474f5af094727792036d18", func := "loop.example/g00583/laws.FnExactCountWith", spec := "fnExactCountWith", unfollowed := true, recurses := true, apart := false, narrowed := true }
def FnExactCountWithUptoSaid : Prop := fnExactCountWithUptoRow.holds Try.pinned (OpenSpec.upto fnExactCountWithSpec)

end Rows
end Go.Proofs.Ytmnedjhfibmcnaa
