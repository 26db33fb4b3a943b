/-
  The contract of l5Read of the specification (chapter 5). Condition: at most 2^40 bytes.
-/
import Derived.Test.YtkfejjoehgipmaaL5Rd
import Derived.Test.YtkfejjoehgipmaaL5Set
namespace Go.Proofs.Ytkfejjoehgipmaa.L5
set_option maxRecDepth 100000
open L4 (boxR push_box box_at)
open Go.ChangeShapes Go.WideShapes Go.ChangeAt Go.RowKit Mem Sl Ex L2 Sv
set_option linter.unusedVariables false
set_option linter.unusedSimpArgs false
end Go.Proofs.Ytkfejjoehgipmaa.L5
