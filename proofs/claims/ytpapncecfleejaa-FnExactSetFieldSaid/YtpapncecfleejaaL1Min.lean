/-
  The contracts of Min and Max, specification and program alike (the program's go through the variadic function extremes). No condition but that the integers fit 64 bits.
-/
import Derived.Test.YtpapncecfleejaaL1Base
import Derived.Outline
namespace Go.Proofs.Ytpapncecfleejaa.L1
set_option maxRecDepth 100000
open Go.ChangeShapes Go.WideShapes Go.ChangeAt Go.RowKit


theorem specMax_any (a b : Int) (w : World) :
    Calls Try.prog 88 #[.int .i64 a, .int .i64 b] w fun e w' => e = .returned (.int .i64 (max a b)) ∧ w = w' := by
  by_cases h : a < b <;>
    (go_enter Try.func88, Try.ntmps88
     go_wp2
     go_ret
     exact ⟨ret_int (by omega), rfl⟩)

theorem extremes_one (a b : Int) (B : Nat) (w : World) (hc : w.cell? ⟨B, 0, none⟩ = some (.int .i64 b)) :
    Calls Try.prog 98 #[.int .i64 a, .slice (some ⟨B, 0, none⟩) 1 1] w fun e w' => e = .returned (.tuple #[.int .i64 (min a b), .int .i64 (max a b)]) ∧ w = w' := by
  go_enter Try.func98, Try.ntmps98
  go_wp2
  go_loop [14, 6, 7] (fun i l g => (i = .int .i64 0 ∧ l = .int .i64 a ∧ g = .int .i64 a) ∨ (i = .int .i64 1 ∧ l = .int .i64 (min a b) ∧ g = .int .i64 (max a b))) (fun i _ _ => 1 - (intOf i).toNat)
  case atStart => exact Or.inl ⟨rfl, rfl, rfl⟩
  case round =>
    rcases hrel with ⟨rfl, rfl, rfl⟩ | ⟨rfl, rfl, rfl⟩
    · by_cases h1 : b < a <;> by_cases h2 : b > a
      · omega
      all_goals
        go_wp2
        go_round
        case rel => exact Or.inr ⟨by go_num, by congr 1; omega, by congr 1; omega⟩
        case measure => simp [intOf]
    · go_wp2
      go_ret2
      exact ⟨rfl, rfl⟩

theorem min_any (a b : Int) (w : World) :
    Calls Try.prog 81 #[.int .i64 a, .int .i64 b] w fun e w' => e = .returned (.int .i64 (min a b)) ∧ Grown w w' := by
  have hc : (w.alloc (.cells #[.int .i64 b] 3)).cell? ⟨w.heap.size, 0, none⟩ = some (.int .i64 b) := by simp [go_sem]
  go_enter Try.func81, Try.ntmps81
  go_wp2_with (go_at_call 98; refine (extremes_one _ _ _ _ hc).mono ?_; rintro e w' ⟨rfl, rfl⟩)
  go_ret
  exact ⟨rfl, by repeat (first | exact Grown.refl _ | apply Grown.drew | apply Grown.alloc)⟩

theorem max_any (a b : Int) (w : World) :
    Calls Try.prog 87 #[.int .i64 a, .int .i64 b] w fun e w' => e = .returned (.int .i64 (max a b)) ∧ Grown w w' := by
  have hc : (w.alloc (.cells #[.int .i64 b] 3)).cell? ⟨w.heap.size, 0, none⟩ = some (.int .i64 b) := by simp [go_sem]
  go_enter Try.func87, Try.ntmps87
  go_wp2_with (go_at_call 98; refine (extremes_one _ _ _ _ hc).mono ?_; rintro e w' ⟨rfl, rfl⟩)
  go_ret
  exact ⟨rfl, by repeat (first | exact Grown.refl _ | apply Grown.drew | apply Grown.alloc)⟩

end Go.Proofs.Ytpapncecfleejaa.L1
