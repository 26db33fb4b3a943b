/-
  The contracts of CeilDiv and Mod, specification and program alike. No condition but that the integers fit 64 bits.
-/
import Derived.Test.YtkgmiaoecedjdaaL1Base
import Derived.Outline
import Derived.IntWalk
namespace Go.Proofs.Ytkgmiaoecedjdaa.L1
open Go.ChangeShapes Go.WideShapes Go.ChangeAt Go.RowKit

def maxV : Int := 1000000000000
def ceilDiv (a b : Int) : Int := if inB a 0 1000000000000 && inB b 1 1000000000000 then (a + b - 1) / b else 0
def modV (p q : Int) : Int := if inB q 1 1000000000000 then p % q else 0



theorem emod_spec (p q : Int) (h1 : 1 ≤ q) : p.tmod q % q = p % q := by
  have hq : (q.natAbs : Int) = q := by omega
  rw [Int.tmod_eq_emod]
  split
  · simp
  · rw [hq]; simp
theorem emod_neg (p q : Int) (h1 : 1 ≤ q) (h : p.tmod q < 0) : p.tmod q + q = p % q := by
  have h2 := Int.emod_nonneg p (show q ≠ 0 by omega)
  have hq : (q.natAbs : Int) = q := by omega
  rw [Int.tmod_eq_emod] at h ⊢
  by_cases hc : 0 ≤ p ∨ q ∣ p
  · rw [if_pos hc] at h; omega
  · rw [if_neg hc] at h ⊢; omega
theorem emod_pos (p q : Int) (h1 : 1 ≤ q) (h : 0 ≤ p.tmod q) : p.tmod q = p % q := by
  have h2 := Int.emod_lt_of_pos p (show 0 < q by omega)
  have hq : (q.natAbs : Int) = q := by omega
  rw [Int.tmod_eq_emod] at h ⊢
  by_cases hc : 0 ≤ p ∨ q ∣ p
  · rw [if_pos hc]; simp
  · rw [if_neg hc] at h; omega

theorem specMod_any (p q : Int) (w : World) :
    Calls Try.prog 22 #[.int .i64 p, .int .i64 q] w fun e w' => e = .returned (.int .i64 (modV p q)) ∧ w = w' := by
  cases hb : inB q 1 1000000000000
  case true =>
    obtain ⟨h3, h4⟩ := inB_true.mp hb
    have g1 := Int.lt_tmod_of_pos p (show 0 < q by omega)
    have g2 := Int.tmod_lt_of_pos p (show 0 < q by omega)
    go_enter Try.func22, Try.ntmps22
    go_wp2_with (go_at_call 51; refine (l1In_any _ _ _ _).mono ?_; rintro e w' ⟨rfl, rfl⟩)
    go_ret
    exact ⟨ret_int (by unfold modV; simp [hb]; exact emod_spec p q h3), rfl⟩
  case false =>
    go_enter Try.func22, Try.ntmps22
    go_wp2_with (go_at_call 51; refine (l1In_any _ _ _ _).mono ?_; rintro e w' ⟨rfl, rfl⟩)
    go_ret
    exact ⟨ret_int (by unfold modV; simp [hb]), rfl⟩

theorem implMod_any (p q : Int) (w : World) :
    Calls Try.prog 61 #[.int .i64 p, .int .i64 q] w fun e w' => e = .returned (.int .i64 (modV p q)) ∧ w = w' := by
  cases hb : inB q 1 1000000000000
  case true =>
    obtain ⟨h3, h4⟩ := inB_true.mp hb
    have g1 := Int.lt_tmod_of_pos p (show 0 < q by omega)
    have g2 := Int.tmod_lt_of_pos p (show 0 < q by omega)
    by_cases hs : p.tmod q < 0
    · go_enter Try.func61, Try.ntmps61
      go_wp2_with (go_at_call 53; refine (inRange_any _ _ _ _).mono ?_; rintro e w' ⟨rfl, rfl⟩)
      go_ret
      exact ⟨ret_int (by unfold modV; simp [hb]; exact emod_neg p q h3 hs), rfl⟩
    · replace hs : 0 ≤ p.tmod q := by omega
      go_enter Try.func61, Try.ntmps61
      go_wp2_with (go_at_call 53; refine (inRange_any _ _ _ _).mono ?_; rintro e w' ⟨rfl, rfl⟩)
      go_ret
      exact ⟨ret_int (by unfold modV; simp [hb]; exact emod_pos p q h3 hs), rfl⟩
  case false =>
    go_enter Try.func61, Try.ntmps61
    go_wp2_with (go_at_call 53; refine (inRange_any _ _ _ _).mono ?_; rintro e w' ⟨rfl, rfl⟩)
    go_ret
    exact ⟨ret_int (by unfold modV; simp [hb]), rfl⟩

end Go.Proofs.Ytkgmiaoecedjdaa.L1
