/-
  The contract of the specification's FormatInt: the decimal numeral of n, for every int. New memory only.
-/
import Derived.Test.YtenmdecooamaaaaDoorL1Base
import Derived.Test.YtenmdecooamaaaaDoorL1Num
import Derived.Outline
import Derived.IntWalk
import Derived.WalkLawsBesides
import Derived.WalkSpells
namespace Go.Proofs.YtenmdecooamaaaaDoor.L1
open Go.ChangeShapes Go.WideShapes Go.ChangeAt Go.RowKit

def FmtRel (n : Int) (s x : Value) (w w' : World) : Prop :=
  ∃ (y : Int) (l : List UInt8), x = .int .i64 y ∧ s = .string ⟨l.toArray⟩ ∧ digs y.natAbs ++ l = digs n.natAbs ∧ (0 ≤ n → 0 ≤ y) ∧ (n ≤ 0 → y ≤ 0) ∧ -9223372036854775808 ≤ y ∧ y ≤ 9223372036854775807 ∧ Below w.heap.size w w'

theorem tmod10_nat (y : Int) : (y.tmod 10).natAbs = y.natAbs % 10 := by
  rw [Int.natAbs_tmod]; rfl
theorem tdiv10_nat (y : Int) : (y.tdiv 10).natAbs = y.natAbs / 10 := by
  rw [Int.natAbs_tdiv]; rfl
theorem conv_one (w : World) (y d : Int) (h0 : 0 ≤ d) (h : d.natAbs = y.natAbs % 10) :
    (convert 22 9 (.slice (some ⟨w.heap.size, 0, none⟩) 1 1)).run Tryd.prog (w.alloc (.cells #[.int .u8 (48 + d)] 5)) = .ok (.string ⟨[UInt8.ofNat (48 + y.natAbs % 10)].toArray⟩) (w.alloc (.cells #[.int .u8 (48 + d)] 5)) :=
  run_convert_bytes_back (P := Tryd.prog) _ 22 9 5 ⟨w.heap.size, 0, none⟩ 1 [UInt8.ofNat (48 + y.natAbs % 10)] Tryd.underlying22 Tryd.underlying5 Tryd.underlying9 (fun j hj => by
    obtain rfl : j = 0 := by simp at hj; omega
    simp [go_sem]
    omega)

theorem fmt_next (n y : Int) (l : List UInt8) (w w' : World) (hy : y ≠ 0) (hd : digs y.natAbs ++ l = digs n.natAbs) (h : (0 ≤ n → 0 ≤ y) ∧ (n ≤ 0 → y ≤ 0)) (hy0 : -9223372036854775808 ≤ y) (hy1 : y ≤ 9223372036854775807) (hb : Below w.heap.size w w') :
    FmtRel n (.string (⟨#[48 + UInt8.ofNat (y.natAbs % 10)]⟩ ++ ⟨l.toArray⟩)) (.int .i64 (y.tdiv 10)) w w' ∧ (intOf (.int .i64 (y.tdiv 10))).natAbs < (intOf (.int .i64 y)).natAbs := by
  have hq := tdiv10_nat y
  have hs : 0 ≤ y → 0 ≤ y.tdiv 10 := fun h => Int.tdiv_nonneg h (by decide)
  have hs' : y ≤ 0 → y.tdiv 10 ≤ 0 := fun h => by
    have := Int.tdiv_nonneg (a := -y) (b := 10) (by omega) (by decide)
    rw [Int.neg_tdiv] at this
    omega
  refine ⟨⟨y.tdiv 10, (48 + UInt8.ofNat (y.natAbs % 10)) :: l, rfl, rfl, ?_, fun a => hs (h.1 a), fun a => hs' (h.2 a), by omega, by omega, hb⟩, by simp only [intOf]; omega⟩
  rw [hq, ← hd, digs_step (u := y.natAbs) (by omega), List.append_assoc, UInt8.ofNat_add]
  rfl

theorem specFormatInt_any (n : Int) (h0 : -9223372036854775808 ≤ n) (h1 : n ≤ 9223372036854775807) (w : World) :
    Calls Tryd.prog 39 #[.int .i64 n] w fun e w' => e = .returned (.string ⟨(Lib.itoa n).toArray⟩) ∧ Below w.heap.size w w' := by
  by_cases hz : n = 0
  · subst hz
    go_enter Tryd.func39, Tryd.ntmps39
    go_wp2
    go_ret
    exact ⟨by rw [itoa_zero]; rfl, Below.refl _ _⟩
  have hz' : (n == 0) = false := by simpa using hz
  have hlen : (digs n.natAbs).length ≤ 20 := Nat.le_trans (digs_length _) (Lib.nDigits_le20 _ (by omega))
  go_enter Tryd.func39, Tryd.ntmps39
  go_wp2
  go_loopw [3, 4] (fun s x wr => FmtRel n s x w wr) (fun _ x _ => (intOf x).natAbs)
  case atStart => exact ⟨n, [], rfl, rfl, by simp, fun h => h, fun h => h, h0, h1, Below.refl _ _⟩
  case round =>
    obtain ⟨y, l, rfl, rfl, hd, hp, hn, hy0, hy1, hb⟩ := hrel
    have hl : l.length ≤ 20 := by rw [← hd] at hlen; simp at hlen; omega
    have HD := Lib.hid hd
    have HP := Lib.hid (And.intro hp hn)
    clear hd hp hn hlen
    by_cases hy : y = 0
    · subst hy
      by_cases hneg : n < 0
      · go_wp2
        go_ret
        refine ⟨?_, hb⟩
        have hd := HD.out
        rw [itoa_neg hneg, ← hd, show (Int.natAbs 0) = 0 from rfl, digs_zero]
        rfl
      · go_wp2
        go_ret
        refine ⟨?_, hb⟩
        have hd := HD.out
        rw [itoa_pos (by omega), ← hd, show (Int.natAbs 0) = 0 from rfl, digs_zero]
        rfl
    · have hy' : (y == 0) = false := by simpa using hy
      have hy2 : (y != 0) = true := by simpa using hy
      have t1 := tmod10_nat y
      by_cases hs : y.tmod 10 < 0
      · have b1 : -9 ≤ y.tmod 10 := by omega
        have hcv := fun W : World => conv_one W y (-(y.tmod 10)) (by omega) (by omega)
        have T1 := Lib.hid t1
        clear t1
        go_wp2
        exact fmt_next n y l w _ hy HD.out HP.out hy0 hy1 (hb.alloc (hb.size) _)
      · have b1 : y.tmod 10 ≤ 9 := by omega
        have hs' : 0 ≤ y.tmod 10 := by omega
        have hcv := fun W : World => conv_one W y (y.tmod 10) (by omega) (by omega)
        have T1 := Lib.hid t1
        clear t1 hs
        go_wp2
        exact fmt_next n y l w _ hy HD.out HP.out hy0 hy1 (hb.alloc (hb.size) _)

end Go.Proofs.YtenmdecooamaaaaDoor.L1
