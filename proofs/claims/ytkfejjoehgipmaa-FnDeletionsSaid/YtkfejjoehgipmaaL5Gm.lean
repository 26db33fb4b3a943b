/-
  Plain mathematics of chapter 5: a record in ascending order of its names is what it holds at each name; what setting, removing and merging make of that. No condition.
-/
import Derived.Test.YtkfejjoehgipmaaL5Set
import Derived.Test.YtkfejjoehgipmaaL5Mg
namespace Go.Proofs.Ytkfejjoehgipmaa.L5
set_option maxRecDepth 100000
open Go.Op (bytesLess)
open L4 (less_irrefl less_total less_asymm less_trans)
set_option linter.unusedVariables false

/-! ### removing -/
/-! ### setting -/
theorem posF_cons (x : F) (l : List F) (s : ByteArray) : posF (x :: l) s = if bytesLess x.t s.data.toList then posF l s + 1 else 0 := by
  unfold posF
  rw [List.takeWhile_cons]
  split <;> simp
theorem putF_nil (s : ByteArray) (x : Int) : putF [] s x = [⟨s, x⟩] := rfl
theorem putF_cons (f : F) (l : List F) (s : ByteArray) (x : Int) : putF (f :: l) s x = if bytesLess f.t s.data.toList then f :: putF l s x else if f.t = s.data.toList then ⟨f.name, x⟩ :: l else ⟨s, x⟩ :: f :: l := by
  unfold putF
  rw [posF_cons]
  by_cases h : bytesLess f.t s.data.toList = true
  · rw [if_pos h, if_pos h, List.getElem?_cons_succ]
    cases h2 : l[posF l s]? with
    | none => simp
    | some g =>
      simp only
      by_cases h3 : g.t = s.data.toList
      · rw [if_pos h3, if_pos h3, List.set_cons_succ]
      · rw [if_neg h3, if_neg h3, List.take_succ_cons, List.drop_succ_cons]; rfl
  · rw [if_neg h, if_neg h, List.getElem?_cons_zero]
    simp only
    by_cases h3 : f.t = s.data.toList
    · rw [if_pos h3, if_pos h3, List.set_cons_zero]
    · rw [if_neg h3, if_neg h3, List.take_zero, List.drop_zero]; rfl
theorem name_of_bytes {f : F} {s : ByteArray} (h : f.t = s.data.toList) : f.name = s := by
  obtain ⟨⟨⟨t1⟩⟩, n1⟩ := f
  obtain ⟨⟨t2⟩⟩ := s
  simp only [F.t] at h
  subst h
  rfl
theorem putF_mem {l : List F} {s : ByteArray} {x : Int} : ∀ g ∈ putF l s x, g ∈ l ∨ g = ⟨s, x⟩ := by
  induction l with
  | nil => intro g hg; rw [putF_nil] at hg; simp at hg; exact .inr hg
  | cons f r ih =>
    intro g hg
    rw [putF_cons] at hg
    split at hg
    · rcases List.mem_cons.1 hg with rfl | hg
      · exact .inl (by simp)
      · rcases ih g hg with h | h
        · exact .inl (by simp [h])
        · exact .inr h
    · split at hg
      · rename_i h2
        rcases List.mem_cons.1 hg with rfl | hg
        · exact .inr (by rw [name_of_bytes h2])
        · exact .inl (by simp [hg])
      · rcases List.mem_cons.1 hg with rfl | hg
        · exact .inr rfl
        · exact .inl hg
theorem putF_len (l : List F) (s : ByteArray) (x : Int) : (putF l s x).length ≤ l.length + 1 := by
  induction l with
  | nil => rw [putF_nil]; simp
  | cons f r ih =>
    rw [putF_cons]
    split
    · simp; omega
    · split <;> simp

/-! ### merging -/
end Go.Proofs.Ytkfejjoehgipmaa.L5
