/-
  Closed facts of this program, by the kernel: what it may enter, what is lifted, how it was made. No condition. (By hand; each by itself, since all in one theorem want more than the memory there is.)
-/
import Derived.Test.YtejincmlblpaoaaChecked
import Derived.KernelRfl
import Derived.JoinedOf
namespace Go.Proofs.Ytejincmlblpaoaa.Closed
set_option maxRecDepth 100000
open Go
theorem mayIn : Try.checked.prog.mayEnter = true := by kernel_rfl
theorem liftsNone : Try.checked.prog.liftsFinal = false := by kernel_rfl
theorem makeIs : Try.checked.prog.make = some .cut := by kernel_rfl
end Go.Proofs.Ytejincmlblpaoaa.Closed
