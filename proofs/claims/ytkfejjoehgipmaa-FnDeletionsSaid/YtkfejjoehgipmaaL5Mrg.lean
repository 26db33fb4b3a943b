/-
  The contract of l5Merge of the specification (chapter 5): the field of one name. Conditions: records of at most 2^40 fields.
-/
import Derived.Test.YtkfejjoehgipmaaPc
import Derived.Test.YtkfejjoehgipmaaPb
namespace Go.Proofs.Ytkfejjoehgipmaa.L5
set_option maxRecDepth 100000
open L4 (boxR push_box box_at)
open Go.ChangeShapes Go.WideShapes Go.ChangeAt Go.RowKit Mem Sl Ex L2 Sv
set_option linter.unusedVariables false
set_option linter.unusedSimpArgs false

end Go.Proofs.Ytkfejjoehgipmaa.L5
