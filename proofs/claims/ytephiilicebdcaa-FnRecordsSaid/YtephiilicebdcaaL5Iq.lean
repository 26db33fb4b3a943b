/-
  Chapter 5: a list of short names stays one. No condition.
-/
import Derived.Test.YtephiilicebdcaaL5Is
import Derived.Test.YtephiilicebdcaaL5Set
import Derived.Test.YtephiilicebdcaaL5Gm
namespace Go.Proofs.Ytephiilicebdcaa.L5
set_option maxRecDepth 100000
open L4 (boxR push_box box_at)
open Go.ChangeShapes Go.WideShapes Go.ChangeAt Go.RowKit Mem Sl Ex L2 Sv
set_option linter.unusedVariables false
set_option linter.unusedSimpArgs false
theorem small_put {l : List F} {s : ByteArray} {x : Int} (h : Small l) (hs : s.size ≤ 281474976710656) : Small (putF l s x) := fun f hf => by
  rcases putF_mem f hf with h1 | rfl
  · exact h f h1
  · exact hs
theorem small_rem {l : List F} {s : List UInt8} (h : Small l) : Small (remF l s) := fun f hf => h f (List.mem_filter.1 hf).1
end Go.Proofs.Ytephiilicebdcaa.L5
