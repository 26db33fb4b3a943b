/-
  What the results of chapter 6's functions may hold, for the exact laws. No condition.
-/
import Derived.Test.YtkfejjoehgipmaaL6Pm
namespace Go.Proofs.Ytkfejjoehgipmaa.L6
set_option maxRecDepth 100000
open L4 (K isK cmpK R inR encU)
open L5 (F isR isN cellsF encR eqR Small)
set_option linter.unusedVariables false
theorem FitS_put {s : S6} {k : K} {l : List F} (h : FitS s) (hz : FitI ⟨k, l⟩) : FitS (putI s k l).1 := by
  obtain ⟨n, xs, u⟩ := s
  unfold putI
  split
  · rename_i hg
    split
    · exact h.set _ _ hz
    · split
      · exact h
      · rename_i h2
        exact h.ins _ _ hz (by dsimp only at h2; omega)
  · exact h
theorem FitS_add {s : S6} {k : K} {l : List F} (h : FitS s) (hz : FitI ⟨k, l⟩) : FitS (addI s k l).1 := by
  unfold addI
  split
  · exact h
  · exact FitS_put h hz
theorem FitS_auto {s : S6} {l : List F} (h : FitS s) (h1 : l.length ≤ 1048576) (h2 : Small l) : FitS (autoS s l) := by
  unfold autoS
  split
  · exact FitS_add h ⟨by show (0 : Nat) ≤ _; omega, h1, h2⟩
  · exact h
theorem FitI_in {xs : List It} {r : R} (h : ∀ x ∈ xs, FitI x) : ∀ x ∈ inI xs r, FitI x := fun x hx => h x ((List.mem_filter.1 hx).1)
theorem FitS_del {s : S6} {r : R} (h : FitS s) : FitS (delS s r) := by
  unfold delS
  split
  · exact ⟨h.name, Nat.le_trans (List.length_filter_le _ _) h.len, fun x hx => h.items x ((List.mem_filter.1 hx).1)⟩
  · exact h
theorem inI_len {xs : List It} {r : R} (h : xs.length ≤ 1048576) : (inI xs r).length ≤ 1048576 := Nat.le_trans (List.length_filter_le _ _) h
end Go.Proofs.Ytkfejjoehgipmaa.L6
