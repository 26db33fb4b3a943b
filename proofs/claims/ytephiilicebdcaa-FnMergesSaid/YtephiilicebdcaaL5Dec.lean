/-
  The contract of chapter 5's DecodeRecord of the specification. Condition: at most 2^40 bytes.
-/
import Derived.Test.YtephiilicebdcaaL5Rd2
namespace Go.Proofs.Ytephiilicebdcaa.L5
set_option maxRecDepth 100000
open L4 (boxR push_box box_at)
open Go.ChangeShapes Go.WideShapes Go.ChangeAt Go.RowKit Mem Sl Ex L2 Sv
set_option linter.unusedVariables false
set_option linter.unusedSimpArgs false

/-- What DecodeRecord answers: the record (none: no fields) and whether there is one. -/
def decL (l : List Int) : List F := (decR l).getD []
def decB (l : List Int) : Bool := (decR l).isSome
end Go.Proofs.Ytephiilicebdcaa.L5
