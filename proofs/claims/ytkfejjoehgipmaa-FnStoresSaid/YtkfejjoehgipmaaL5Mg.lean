/-
  Plain mathematics of chapter 5's MergeRecords: two lists of fields merged by their names. No condition.
-/
import Derived.Test.YtkfejjoehgipmaaL5Mrg
namespace Go.Proofs.Ytkfejjoehgipmaa.L5
set_option maxRecDepth 100000
open Go.Op (bytesLess)
open L4 (less_irrefl less_total less_asymm less_trans)

end Go.Proofs.Ytkfejjoehgipmaa.L5
