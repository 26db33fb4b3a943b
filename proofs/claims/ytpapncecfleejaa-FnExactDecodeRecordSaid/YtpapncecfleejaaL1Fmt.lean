/-
  The contract of the specification's FormatInt: the decimal numeral of n, for every int. New memory only.
-/
import Derived.Test.YtpapncecfleejaaL1Base
import Derived.Test.YtpapncecfleejaaL1Num
import Derived.Outline
import Derived.IntWalk
import Derived.WalkLawsBesides
import Derived.WalkSpells
namespace Go.Proofs.Ytpapncecfleejaa.L1
set_option maxRecDepth 100000
open Go.ChangeShapes Go.WideShapes Go.ChangeAt Go.RowKit

def FmtRel (n : Int) (s x : Value) (w w' : World) : Prop :=
  ∃ (y : Int) (l : List UInt8), x = .int .i64 y ∧ s = .string ⟨l.toArray⟩ ∧ digs y.natAbs ++ l = digs n.natAbs ∧ (0 ≤ n → 0 ≤ y) ∧ (n ≤ 0 → y ≤ 0) ∧ -9223372036854775808 ≤ y ∧ y ≤ 9223372036854775807 ∧ Below w.heap.size w w'

theorem tmod10_nat (y : Int) : (y.tmod 10).natAbs = y.natAbs % 10 := by
  rw [Int.natAbs_tmod]; rfl
theorem tdiv10_nat (y : Int) : (y.tdiv 10).natAbs = y.natAbs / 10 := by
  rw [Int.natAbs_tdiv]; rfl
theorem conv_one (w : World) (y d : Int) (h0 : 0 ≤ d) (h : d.natAbs = y.natAbs % 10) :
    (convert 22 9 (.slice (some ⟨w.heap.size, 0, none⟩) 1 1)).run Try.prog (w.alloc (.cells #[.int .u8 (48 + d)] 5)) = .ok (.string ⟨[UInt8.ofNat (48 + y.natAbs % 10)].toArray⟩) (w.alloc (.cells #[.int .u8 (48 + d)] 5)) :=
  run_convert_bytes_back (P := Try.prog) _ 22 9 5 ⟨w.heap.size, 0, none⟩ 1 [UInt8.ofNat (48 + y.natAbs % 10)] Try.underlying22 Try.underlying5 Try.underlying9 (fun j hj => by
    obtain rfl : j = 0 := by simp at hj; omega
    simp [go_sem]
    omega)

theorem fmt_next (n y : Int) (l : List UInt8) (w w' : World) (hy : y ≠ 0) (hd : digs y.natAbs ++ l = digs n.natAbs) (h : (0 ≤ n → 0 ≤ y) ∧ (n ≤ 0 → y ≤ 0)) (hy0 : -9223372036854775808 ≤ y) (hy1 : y ≤ 9223372036854775807) (hb : Below w.heap.size w w') :
    FmtRel n (.string (⟨#[48 + UInt8.ofNat (y.natAbs % 10)]⟩ ++ ⟨l.toArray⟩)) (.int .i64 (y.tdiv 10)) w w' ∧ (intOf (.int .i64 (y.tdiv 10))).natAbs < (intOf (.int .i64 y)).natAbs := by
  have hq := tdiv10_nat y
  have hs : 0 ≤ y → 0 ≤ y.tdiv 10 := fun h => Int.tdiv_nonneg h (by decide)
  have hs' : y ≤ 0 → y.tdiv 10 ≤ 0 := fun h => by
    have := Int.tdiv_nonneg (a := -y) (b := 10) (by omega) (by decide)
    rw [Int.neg_tdiv] at this
    omega
  refine ⟨⟨y.tdiv 10, (48 + UInt8.ofNat (y.natAbs % 10)) :: l, rfl, rfl, ?_, fun a => hs (h.1 a), fun a => hs' (h.2 a), by omega, by omega, hb⟩, by simp only [intOf]; omega⟩
  rw [hq, ← hd, digs_step (u := y.natAbs) (by omega), List.append_assoc, UInt8.ofNat_add]
  rfl


end Go.Proofs.Ytpapncecfleejaa.L1
