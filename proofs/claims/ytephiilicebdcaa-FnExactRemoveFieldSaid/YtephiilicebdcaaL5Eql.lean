/-
  The contract of chapter 5's EqualRecords of the specification: the records have the same names and numbers in the same order. Conditions: at most 2^40 fields each.
-/
import Derived.Test.YtephiilicebdcaaPc
import Derived.Test.YtephiilicebdcaaPb
namespace Go.Proofs.Ytephiilicebdcaa.L5
set_option maxRecDepth 100000
open L4 (boxR push_box box_at)
open Go.ChangeShapes Go.WideShapes Go.ChangeAt Go.RowKit Mem Sl Ex L2 Sv
set_option linter.unusedVariables false
set_option linter.unusedSimpArgs false

/-- Two fields are the same. -/
def eqF (f g : F) : Bool := f.t == g.t && f.n == g.n
/-- Two records are the same. -/
def eqR (l m : List F) : Bool := l.length == m.length && (l.zip m).all fun p => eqF p.1 p.2
theorem eqF_iff {f g : F} : eqF f g = true ↔ f = g := by
  unfold eqF
  simp only [Bool.and_eq_true, beq_iff_eq]
  exact ⟨fun h => F.ext' h.1 h.2, fun h => by rw [h]; exact ⟨rfl, rfl⟩⟩
theorem eqR_len {l m : List F} (h : ¬ l.length = m.length) : eqR l m = false := by
  unfold eqR
  simp [h]
theorem eqR_all {l m : List F} (h : l.length = m.length) (ha : ∀ j (h1 : j < l.length) (h2 : j < m.length), eqF l[j] m[j] = true) : eqR l m = true := by
  unfold eqR
  simp only [h, beq_self_eq_true, Bool.true_and, List.all_eq_true]
  intro p hp
  obtain ⟨i, hi, rfl⟩ := List.getElem_of_mem hp
  have hi' := hi
  rw [List.length_zip] at hi'
  rw [List.getElem_zip]
  exact ha i (by omega) (by omega)
theorem eqR_no {l m : List F} (j : Nat) (h1 : j < l.length) (h2 : j < m.length) (h : eqF l[j] m[j] = false) : eqR l m = false := by
  unfold eqR
  rw [Bool.and_eq_false_iff]
  right
  rw [List.all_eq_false]
  exact ⟨(l[j], m[j]), List.mem_iff_getElem.2 ⟨j, by simp; omega, by rw [List.getElem_zip]⟩, by simp [h]⟩
theorem eqR_iff {l m : List F} : eqR l m = true ↔ l = m := by
  constructor
  · intro h
    unfold eqR at h
    simp only [Bool.and_eq_true, beq_iff_eq, List.all_eq_true] at h
    refine List.ext_getElem h.1 fun i h1 h2 => ?_
    exact eqF_iff.1 (h.2 (l[i], m[i]) (List.mem_iff_getElem.2 ⟨i, by simp; omega, by rw [List.getElem_zip]⟩))
  · rintro rfl
    exact eqR_all rfl fun j h1 h2 => eqF_iff.2 rfl
end Go.Proofs.Ytephiilicebdcaa.L5
