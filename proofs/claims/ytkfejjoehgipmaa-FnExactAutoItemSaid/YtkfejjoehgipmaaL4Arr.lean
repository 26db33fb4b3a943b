/-
  Arrays of six bytes, compared. No condition.
-/
import Derived.Test.YtkfejjoehgipmaaPb
import Derived.ChangeKeysEq
namespace Go.Proofs.Ytkfejjoehgipmaa.L4
set_option maxRecDepth 100000
open Go.ChangeShapes Go.WideShapes Go.ChangeAt Go.RowKit Mem Sl Ex L2
set_option maxHeartbeats 2000000 in
theorem array_eq (x0 x1 x2 x3 x4 x5 y0 y1 y2 y3 y4 y5 : Int) (w : World) :
    (Op.equalIn 10000 132 (.agg #[.int .u8 x0, .int .u8 x1, .int .u8 x2, .int .u8 x3, .int .u8 x4, .int .u8 x5]) (.agg #[.int .u8 y0, .int .u8 y1, .int .u8 y2, .int .u8 y3, .int .u8 y4, .int .u8 y5])).run Try.prog w = .ok (decide ([x0, x1, x2, x3, x4, x5] = [y0, y1, y2, y3, y4, y5])) w := by
  obtain ⟨i0, hi, hz0, hz1, hz2⟩ := infoOf _ _ _ _ info8
  have hu : Try.prog.underlying 132 = some (.array 6 5) := Try.underlying132
  rw [show (10000 : Nat) = 9998 + 1 + 1 from rfl, run_equalIn_array w (9998 + 1) _ _ hu hi, show List.range 6 = [0, 1, 2, 3, 4, 5] from rfl, show Try.prog.cellsOf 5 = 1 by kernel_rfl]
  have he : ∀ (a b : Int) (w : World), (Op.equalIn (9998 + 1) 5 (.int .u8 a) (.int .u8 b)).run Try.prog w = .ok (a == b) w := fun a b w => run_equalIn_int w 9998 5 .u8 .u8 a b Try.underlying5
  simp [Op.eqItems, he, go_sem]
  (repeat' split) <;> simp_all
end Go.Proofs.Ytkfejjoehgipmaa.L4
