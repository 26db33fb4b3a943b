/-
  The contracts of Min and Max, specification and program alike (the program's go through the variadic function extremes). No condition but that the integers fit 64 bits.
-/
import Derived.Test.YtenmdecooamaaaaL1Base
import Derived.Outline
namespace Go.Proofs.Ytenmdecooamaaaa.L1
open Go.ChangeShapes Go.WideShapes Go.ChangeAt Go.RowKit






end Go.Proofs.Ytenmdecooamaaaa.L1
