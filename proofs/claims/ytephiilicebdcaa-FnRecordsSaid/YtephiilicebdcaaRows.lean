/-
  No cell of these rows narrows 'for every input' (looked for: loops, veiled, ifaces, maps, wideKeys, modest, calm, conditions, laid).
  DERIVED. THE GIVEN ROWS OF THIS SEAT. 5 by the template 'for every input the law returns true; each argument reads behind the call as it read before'; 0 by the template 'total and deterministic' (their statements: YtephiilicebdcaaTotals.lean).
  GIVEN WITH THE SEED: the statements are not yours to turn. If you find one false, say at which input.
  Laid BY PROGRAM, IN A SANDBOX (cutbox-rows.mjs): the forced cells as the released guide's own fill.sh prints them over the translation fe2955f26473e52d… (all of the seat's roots in one cut). By AI agents, Wed Nov 11 2026. No macro, syntax, notation, axiom, sorry.
-/
import Derived.Test.YtephiilicebdcaaChecked
import GoSem.Claim
import GoSem.ClaimJoined
import GoSem.ClaimMapViews
import Derived.JoinedTies
import Derived.KernelRfl
namespace Go.Proofs.Ytephiilicebdcaa
/- THE CELL 'sum', in the pinned program and in every row, IS THE sha256 OF THE DUMP (.gsa) THAT YtephiilicebdcaaProg.lean LOADS. Nothing in Lean hashes anything: it is a label: what it is worth is what the hold of that sum in a sandbox is worth. -/
noncomputable def Try.pinned : Pinned := { name := "ytephiilicebdcaa", sum := "fe2955f26473e52ddfe1d843f1625ae321acb9bdae7598e9f1c43e84e72a7676", checked := Try.checked }
namespace Rows
def none {H : Type} : Left H := { results := [], args := [] }

/-- 'laws.FnRecords': WHATEVER THE INPUT: true; the input reads as it did. -/
def fnRecordsSpec : ChangeSpec := { name := "fnRecords", fn := fun _ => fun
  | [d] => { results := [.lit (.bool true)], args := [d] }
  | _ => none }
def fnRecordsRow : OpenClaim := { program := "ytephiilicebdcaa", sum := "fe2955f26473e52ddfe1d843f1625ae321acb9bdae7598e9f1c43e84e72a7676", func := "loop.example/g00583/laws.FnRecords", spec := "fnRecords", unfollowed := true, recurses := true, apart := false }
def FnRecordsSaid : Prop := fnRecordsRow.holds Try.pinned (OpenSpec.ofChange fnRecordsSpec)

/-- ITS FALSE NEIGHBOUR: 'it returns false'. Refute it at one input. -/
def fnRecordsWrong : ChangeSpec := { name := "fnRecords", fn := fun _ => fun
  | [d] => { results := [.lit (.bool false)], args := [d] }
  | _ => none }
def FnRecordsWrongFalsely : Prop := fnRecordsRow.holds Try.pinned (OpenSpec.ofChange fnRecordsWrong)

/-- 'laws.FnMerges': WHATEVER THE INPUT: true; the input reads as it did. -/
def fnMergesSpec : ChangeSpec := { name := "fnMerges", fn := fun _ => fun
  | [d] => { results := [.lit (.bool true)], args := [d] }
  | _ => none }
def fnMergesRow : OpenClaim := { program := "ytephiilicebdcaa", sum := "fe2955f26473e52ddfe1d843f1625ae321acb9bdae7598e9f1c43e84e72a7676", func := "loop.example/g00583/laws.FnMerges", spec := "fnMerges", unfollowed := true, recurses := true, apart := false }
def FnMergesSaid : Prop := fnMergesRow.holds Try.pinned (OpenSpec.ofChange fnMergesSpec)

/-- ITS FALSE NEIGHBOUR: 'it returns false'. Refute it at one input. -/
def fnMergesWrong : ChangeSpec := { name := "fnMerges", fn := fun _ => fun
  | [d] => { results := [.lit (.bool false)], args := [d] }
  | _ => none }
def FnMergesWrongFalsely : Prop := fnMergesRow.holds Try.pinned (OpenSpec.ofChange fnMergesWrong)

/-- 'laws.FnExactSetField': WHATEVER THE INPUT: true; the input reads as it did. -/
def fnExactSetFieldSpec : ChangeSpec := { name := "fnExactSetField", fn := fun _ => fun
  | [d1, d2, d3] => { results := [.lit (.bool true)], args := [d1, d2, d3] }
  | _ => none }
def fnExactSetFieldRow : OpenClaim := { program := "ytephiilicebdcaa", sum := "fe2955f26473e52ddfe1d843f1625ae321acb9bdae7598e9f1c43e84e72a7676", func := "loop.example/g00583/laws.FnExactSetField", spec := "fnExactSetField", unfollowed := true, recurses := true, apart := false }
def FnExactSetFieldSaid : Prop := fnExactSetFieldRow.holds Try.pinned (OpenSpec.ofChange fnExactSetFieldSpec)

/-- ITS FALSE NEIGHBOUR: 'it returns false'. Refute it at one input. -/
def fnExactSetFieldWrong : ChangeSpec := { name := "fnExactSetField", fn := fun _ => fun
  | [d1, d2, d3] => { results := [.lit (.bool false)], args := [d1, d2, d3] }
  | _ => none }
def FnExactSetFieldWrongFalsely : Prop := fnExactSetFieldRow.holds Try.pinned (OpenSpec.ofChange fnExactSetFieldWrong)

/-- 'laws.FnExactRemoveField': WHATEVER THE INPUT: true; the input reads as it did. -/
def fnExactRemoveFieldSpec : ChangeSpec := { name := "fnExactRemoveField", fn := fun _ => fun
  | [d1, d2] => { results := [.lit (.bool true)], args := [d1, d2] }
  | _ => none }
def fnExactRemoveFieldRow : OpenClaim := { program := "ytephiilicebdcaa", sum := "fe2955f26473e52ddfe1d843f1625ae321acb9bdae7598e9f1c43e84e72a7676", func := "loop.example/g00583/laws.FnExactRemoveField", spec := "fnExactRemoveField", unfollowed := true, recurses := true, apart := false }
def FnExactRemoveFieldSaid : Prop := fnExactRemoveFieldRow.holds Try.pinned (OpenSpec.ofChange fnExactRemoveFieldSpec)

/-- ITS FALSE NEIGHBOUR: 'it returns false'. Refute it at one input. -/
def fnExactRemoveFieldWrong : ChangeSpec := { name := "fnExactRemoveField", fn := fun _ => fun
  | [d1, d2] => { results := [.lit (.bool false)], args := [d1, d2] }
  | _ => none }
def FnExactRemoveFieldWrongFalsely : Prop := fnExactRemoveFieldRow.holds Try.pinned (OpenSpec.ofChange fnExactRemoveFieldWrong)

/-- 'laws.FnExactMergeRecords': WHATEVER THE INPUT: true; the input reads as it did. -/
def fnExactMergeRecordsSpec : ChangeSpec := { name := "fnExactMergeRecords", fn := fun _ => fun
  | [d1, d2, d3] => { results := [.lit (.bool true)], args := [d1, d2, d3] }
  | _ => none }
def fnExactMergeRecordsRow : OpenClaim := { program := "ytephiilicebdcaa", sum := "fe2955f26473e52ddfe1d843f1625ae321acb9bdae7598e9f1c43e84e72a7676", func := "loop.example/g00583/laws.FnExactMergeRecords", spec := "fnExactMergeRecords", unfollowed := true, recurses := true, apart := false }
def FnExactMergeRecordsSaid : Prop := fnExactMergeRecordsRow.holds Try.pinned (OpenSpec.ofChange fnExactMergeRecordsSpec)

/-- ITS FALSE NEIGHBOUR: 'it returns false'. Refute it at one input. -/
def fnExactMergeRecordsWrong : ChangeSpec := { name := "fnExactMergeRecords", fn := fun _ => fun
  | [d1, d2, d3] => { results := [.lit (.bool false)], args := [d1, d2, d3] }
  | _ => none }
def FnExactMergeRecordsWrongFalsely : Prop := fnExactMergeRecordsRow.holds Try.pinned (OpenSpec.ofChange fnExactMergeRecordsWrong)

/- THE SECOND FORM. 'bulk': how many values and letters a reading holds, each counted each time it is reached (what is shared counts as often as it is met; a slice's spare places count too). A statement '..UptoSaid' is the law's where the arguments, and the package variables that the reading takes, are together of bulk at most 1048576: NARROWER than '..Said'. Prove '..Said' where nothing that the law and all that it calls make is longer than what came in: it says more and counts as full. Else prove '..UptoSaid'. A law counts once. -/
mutual
def uptoBulk {H : Type} : DataW H → Nat
  | .lit (.string bytes) => bytes.length + 1
  | .lit _ => 1
  | .nil => 1
  | .ptr d => uptoBulk d + 1
  | .slice elems spare => uptoBulkAll elems + uptoBulkAll spare + 1
  | .agg parts => uptoBulkAll parts + 1
  | .iface _ d => uptoBulk d + 1
  | .map entries => uptoBulkEntries entries + 1
  | .held _ => 1
def uptoBulkAll {H : Type} : List (DataW H) → Nat
  | [] => 0
  | d :: r => uptoBulk d + uptoBulkAll r
def uptoBulkEntries {H : Type} : List (Lit × DataW H) → Nat
  | [] => 0
  | x :: r => uptoBulkEntry x + uptoBulkEntries r
def uptoBulkEntry {H : Type} : Lit × DataW H → Nat
  | (.string bytes, d) => bytes.length + uptoBulk d + 1
  | (_, d) => uptoBulk d + 1
 end
def uptoSmall : (H : Type) → List (DataW H) → Bool := fun _ ds => decide (uptoBulkAll ds ≤ 1048576)
def OpenSpec.upto (s : _root_.Go.ChangeSpec) : _root_.Go.OpenSpec := { _root_.Go.OpenSpec.ofChange s with cond := some uptoSmall }

/-- 'laws.FnRecords', WHERE WHAT IT READS IS OF BULK AT MOST 1048576: true; the input reads as it did. -/
def fnRecordsUptoRow : OpenClaim := { program := "ytephiilicebdcaa", sum := "fe2955f26473e52ddfe1d843f1625ae321acb9bdae7598e9f1c43e84e72a7676", func := "loop.example/g00583/laws.FnRecords", spec := "fnRecords", unfollowed := true, recurses := true, apart := false, narrowed := true }
def FnRecordsUptoSaid : Prop := fnRecordsUptoRow.holds Try.pinned (OpenSpec.upto fnRecordsSpec)

/-- 'laws.FnMerges', WHERE WHAT IT READS IS OF BULK AT MOST 1048576: true; the input reads as it did. -/
def fnMergesUptoRow : OpenClaim := { program := "ytephiilicebdcaa", sum := "fe2955f26473e52ddfe1d843f1625ae321acb9bdae7598e9f1c43e84e72a7676", func := "loop.example/g00583/laws.FnMerges", spec := "fnMerges", unfollowed := true, recurses := true, apart := false, narrowed := true }
def FnMergesUptoSaid : Prop := fnMergesUptoRow.holds Try.pinned (OpenSpec.upto fnMergesSpec)

/-- 'laws.FnExactSetField', WHERE WHAT IT READS IS OF BULK AT MOST 1048576: true; the input reads as it did. -/
def fnExactSetFieldUptoRow : OpenClaim := { program := "ytephiilicebdcaa", sum := "fe2955f26473e52ddfe1d843f1625ae321acb9bdae7598e9f1c43e84e72a7676", func := "loop.example/g00583/laws.FnExactSetField", spec := "fnExactSetField", unfollowed := true, recurses := true, apart := false, narrowed := true }
def FnExactSetFieldUptoSaid : Prop := fnExactSetFieldUptoRow.holds Try.pinned (OpenSpec.upto fnExactSetFieldSpec)

/-- 'laws.FnExactRemoveField', WHERE WHAT IT READS IS OF BULK AT MOST 1048576: true; the input reads as it did. -/
def fnExactRemoveFieldUptoRow : OpenClaim := { program := "ytephiilicebdcaa", sum := "fe2955f26473e52ddfe1d843f1625ae321acb9bdae7598e9f1c43e84e72a7676", func := "loop.example/g00583/laws.FnExactRemoveField", spec := "fnExactRemoveField", unfollowed := true, recurses := true, apart := false, narrowed := true }
def FnExactRemoveFieldUptoSaid : Prop := fnExactRemoveFieldUptoRow.holds Try.pinned (OpenSpec.upto fnExactRemoveFieldSpec)

/-- 'laws.FnExactMergeRecords', WHERE WHAT IT READS IS OF BULK AT MOST 1048576: true; the input reads as it did. -/
def fnExactMergeRecordsUptoRow : OpenClaim := { program := "ytephiilicebdcaa", sum := "fe2955f26473e52ddfe1d843f1625ae321acb9bdae7598e9f1c43e84e72a7676", func := "loop.example/g00583/laws.FnExactMergeRecords", spec := "fnExactMergeRecords", unfollowed := true, recurses := true, apart := false, narrowed := true }
def FnExactMergeRecordsUptoSaid : Prop := fnExactMergeRecordsUptoRow.holds Try.pinned (OpenSpec.upto fnExactMergeRecordsSpec)

end Rows
end Go.Proofs.Ytephiilicebdcaa
