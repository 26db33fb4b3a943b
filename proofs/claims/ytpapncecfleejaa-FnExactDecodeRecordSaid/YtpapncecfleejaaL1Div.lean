/-
  The contracts of CeilDiv and Mod, specification and program alike. No condition but that the integers fit 64 bits.
-/
import Derived.Test.YtpapncecfleejaaL1Base
import Derived.Outline
import Derived.IntWalk
namespace Go.Proofs.Ytpapncecfleejaa.L1
set_option maxRecDepth 100000
open Go.ChangeShapes Go.WideShapes Go.ChangeAt Go.RowKit

def maxV : Int := 1000000000000
def ceilDiv (a b : Int) : Int := if inB a 0 1000000000000 && inB b 1 1000000000000 then (a + b - 1) / b else 0
def modV (p q : Int) : Int := if inB q 1 1000000000000 then p % q else 0



theorem emod_spec (p q : Int) (h1 : 1 ≤ q) : p.tmod q % q = p % q := by
  have hq : (q.natAbs : Int) = q := by omega
  rw [Int.tmod_eq_emod]
  split
  · simp
  · rw [hq]; simp
theorem emod_neg (p q : Int) (h1 : 1 ≤ q) (h : p.tmod q < 0) : p.tmod q + q = p % q := by
  have h2 := Int.emod_nonneg p (show q ≠ 0 by omega)
  have hq : (q.natAbs : Int) = q := by omega
  rw [Int.tmod_eq_emod] at h ⊢
  by_cases hc : 0 ≤ p ∨ q ∣ p
  · rw [if_pos hc] at h; omega
  · rw [if_neg hc] at h ⊢; omega
theorem emod_pos (p q : Int) (h1 : 1 ≤ q) (h : 0 ≤ p.tmod q) : p.tmod q = p % q := by
  have h2 := Int.emod_lt_of_pos p (show 0 < q by omega)
  have hq : (q.natAbs : Int) = q := by omega
  rw [Int.tmod_eq_emod] at h ⊢
  by_cases hc : 0 ≤ p ∨ q ∣ p
  · rw [if_pos hc]; simp
  · rw [if_neg hc] at h; omega



end Go.Proofs.Ytpapncecfleejaa.L1
