/-
  What a valid record gives: its fields' names and numbers. No condition.
-/
import Derived.Test.YtkfejjoehgipmaaL5Ib
import Derived.Test.YtkfejjoehgipmaaL5Rd
namespace Go.Proofs.Ytkfejjoehgipmaa.L5
set_option maxRecDepth 100000
open L4 (boxR push_box box_at)
open Go.ChangeShapes Go.WideShapes Go.ChangeAt Go.RowKit Mem Sl Ex L2 Sv
set_option linter.unusedVariables false
set_option linter.unusedSimpArgs false

theorem sep_two {W w : World} {r0 r1 : Res} {ts : List Res} (h : Sep W w (r0 :: r1 :: ts)) : Sep W w [r0, r1] :=
  sep_sub h (fun i => i) (fun i r hr => by
    match i, hr with
    | 0, hr => exact hr
    | 1, hr => exact hr
    | i + 2, hr => simp at hr) (fun i j _ _ e => e)
end Go.Proofs.Ytkfejjoehgipmaa.L5
