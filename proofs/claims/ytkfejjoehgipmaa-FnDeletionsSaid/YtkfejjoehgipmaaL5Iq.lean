/-
  Chapter 5: a list of short names stays one. No condition.
-/
import Derived.Test.YtkfejjoehgipmaaL5Is
import Derived.Test.YtkfejjoehgipmaaL5Set
import Derived.Test.YtkfejjoehgipmaaL5Gm
namespace Go.Proofs.Ytkfejjoehgipmaa.L5
set_option maxRecDepth 100000
open L4 (boxR push_box box_at)
open Go.ChangeShapes Go.WideShapes Go.ChangeAt Go.RowKit Mem Sl Ex L2 Sv
set_option linter.unusedVariables false
set_option linter.unusedSimpArgs false
theorem small_put {l : List F} {s : ByteArray} {x : Int} (h : Small l) (hs : s.size ≤ 281474976710656) : Small (putF l s x) := fun f hf => by
  rcases putF_mem f hf with h1 | rfl
  · exact h f h1
  · exact hs
end Go.Proofs.Ytkfejjoehgipmaa.L5
