/-
  The contract of l5Read of the specification (chapter 5). Condition: at most 2^40 bytes.
-/
import Derived.Test.YtephiilicebdcaaL5Rd
import Derived.Test.YtephiilicebdcaaL5Set
namespace Go.Proofs.Ytephiilicebdcaa.L5
set_option maxRecDepth 100000
open L4 (boxR push_box box_at)
open Go.ChangeShapes Go.WideShapes Go.ChangeAt Go.RowKit Mem Sl Ex L2 Sv
set_option linter.unusedVariables false
set_option linter.unusedSimpArgs false
theorem rbL_len (l : List Int) (o : Int) : (rbL l o 8).length ≤ l.length := by
  cases h : rbB l o 8 with
  | false => rw [(rb_no h).1]; simp
  | true => rw [(rb_yes h).1, List.length_take, List.length_drop]; omega
theorem strOfNums_size (l : List Int) : (strOfNums l).size = l.length := by
  show (strOfNums l).data.size = _
  rw [← Array.length_toList, strOfNums_data]
  simp
end Go.Proofs.Ytephiilicebdcaa.L5
