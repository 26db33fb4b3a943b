/-
  Chapter 6: what an encoding holds at most; sizes and choices item by item. No condition.
-/
import Derived.Test.YtkfejjoehgipmaaL6Num
import Derived.Test.YtkfejjoehgipmaaL5Dm
namespace Go.Proofs.Ytkfejjoehgipmaa.L6
set_option maxRecDepth 100000
open L4 (K isK cmpK R inR encU)
open L5 (F isR isN cellsF encR eqR Small)
open Go.ChangeShapes Go.WideShapes Go.ChangeAt Go.RowKit Mem Sl Ex L2 Sv Bag
set_option linter.unusedVariables false
set_option linter.unusedSimpArgs false

theorem encU_small (k : K) : (encU k).length ≤ 50 := by
  unfold encU
  split
  · rename_i h
    have h2 := h
    unfold isK at h2
    simp only [Bool.and_eq_true] at h2
    have h3 : k.t.length ≤ 12 := by
      have h4 := h2.1.2
      unfold L4.isT at h4
      simp only [Bool.and_eq_true, decide_eq_true_eq] at h4
      omega
    simp only [List.length_cons, List.length_append]
    have h5 : (L4.num6 k).length ≤ 6 := by unfold L4.num6; split <;> simp
    omega
  · simp
theorem encR_small (l : List F) : (encR l).length ≤ 1000 := by
  unfold encR
  split
  · rename_i h
    have h1 := L5.encB_len l (L5.isR_names h)
    have h2 := (L5.isR_iff.1 h).2
    have h3 := L2.enc_len (l.length : Int)
    rw [List.length_append]
    omega
  · simp
theorem szI_take {xs : List It} {k : Nat} {x : It} (h : xs[k]? = some x) : szI (xs.take (k + 1)) = szI (xs.take k) + ((encU x.k).length + (encR x.l).length) := by
  obtain ⟨hk, rfl⟩ := List.getElem?_eq_some_iff.1 h
  unfold szI
  rw [List.take_succ_eq_append_getElem hk, List.map_append, List.sum_append]
  simp
theorem inI_take {xs : List It} {k : Nat} {x : It} {r : R} (h : xs[k]? = some x) : inI (xs.take (k + 1)) r = inI (xs.take k) r ++ (if inR x.k r then [x] else []) := by
  obtain ⟨hk, rfl⟩ := List.getElem?_eq_some_iff.1 h
  unfold inI
  rw [List.take_succ_eq_append_getElem hk, List.filter_append]
  congr 1
  by_cases h1 : inR xs[k].k r = true
  · simp [h1]
  · simp [h1]
theorem outI_take {xs : List It} {k : Nat} {x : It} {r : R} (h : xs[k]? = some x) : outI (xs.take (k + 1)) r = outI (xs.take k) r ++ (if inR x.k r then [] else [x]) := by
  obtain ⟨hk, rfl⟩ := List.getElem?_eq_some_iff.1 h
  unfold outI
  rw [List.take_succ_eq_append_getElem hk, List.filter_append]
  congr 1
  by_cases h1 : inR xs[k].k r = true
  · simp [h1]
  · simp [h1]
theorem conI_snoc (ys : List LI) (x : LI) : conI (ys ++ [x]) = conI ys ++ [x.con] := List.map_append
end Go.Proofs.Ytkfejjoehgipmaa.L6
