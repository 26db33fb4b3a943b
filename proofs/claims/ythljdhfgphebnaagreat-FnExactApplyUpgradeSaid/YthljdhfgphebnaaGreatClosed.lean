/-
  Closed facts of this program, by the kernel: what it may enter, what is lifted, how it was made. No condition. (By hand; each by itself, since all in one theorem want more than the memory there is.)
-/
import Derived.Test.YthljdhfgphebnaaGreatChecked
import Derived.KernelRfl
import Derived.JoinedOf
namespace Go.Proofs.YthljdhfgphebnaaGreat.Closed
set_option maxRecDepth 100000
open Go
theorem mayIn : Tryz.checked.prog.mayEnter = true := by kernel_rfl
theorem liftsNone : Tryz.checked.prog.liftsFinal = false := by kernel_rfl
theorem makeIs : Tryz.checked.prog.make = some .cut := by kernel_rfl
end Go.Proofs.YthljdhfgphebnaaGreat.Closed
