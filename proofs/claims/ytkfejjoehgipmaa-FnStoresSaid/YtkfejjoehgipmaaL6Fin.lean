/-
  The mathematics of chapter 6's two promises: an item that was put is found in its place, automatic keys are new, what is removed are the items of the range. No condition.
-/
import Derived.Test.YtkfejjoehgipmaaL6Lc
import Derived.Test.YtkfejjoehgipmaaL6Pm
import Derived.Test.YtkfejjoehgipmaaL6Sg
import Derived.Test.YtkfejjoehgipmaaL6Sx
namespace Go.Proofs.Ytkfejjoehgipmaa.L6
set_option maxRecDepth 100000
open L4 (K isK cmpK R inR encU)
open L5 (F isR isN cellsF encR eqR Small)
set_option linter.unusedVariables false

theorem fndI_lt {xs : List It} {k : K} : fndI xs k < 0 ↔ fndO xs k = none := by
  unfold fndI
  split
  · rename_i i h
    constructor
    · intro h1; omega
    · intro h1; rw [h] at h1; cases h1
  · rename_i h
    exact ⟨fun _ => h, fun _ => by omega⟩
theorem fndO_eqK {xs : List It} {k : K} : fndO xs k = none ↔ ∀ x ∈ xs, eqK x.k k = false := by
  unfold fndO
  rw [List.findIdx?_eq_none_iff]
theorem fndI_at {xs : List It} {k : K} {i : Nat} (h : fndO xs k = some i) : fndI xs k = i := by unfold fndI; rw [h]
theorem addI_two (s : S6) (k : K) (l : List F) : (addI s k l).2 = ((putI s k l).2 && decide (fndI s.items k < 0)) := by
  unfold addI
  by_cases h : 0 ≤ fndI s.items k
  · rw [if_pos h, decide_eq_false (show ¬ fndI s.items k < 0 by omega), Bool.and_false]
  · rw [if_neg h, decide_eq_true (show fndI s.items k < 0 by omega), Bool.and_true]
theorem addI_off {s : S6} {k : K} {l : List F} (h : (putI s k l).2 = false) : (addI s k l).1 = s := addI_false (by rw [addI_two, h]; rfl)
theorem putI_hyp {s : S6} {k : K} {l : List F} (h : (putI s k l).2 = true) : isS s = true := by
  unfold putI at h
  split at h
  · rename_i h1
    simp only [Bool.and_eq_true] at h1
    exact h1.1
  · cases h
theorem putI_found {s : S6} {k : K} {l : List F} (h : (putI s k l).2 = true) : isS (putI s k l).1 = true ∧ s.auto ≤ (putI s k l).1.auto ∧ ∃ (i : Nat) (x : It), fndO (putI s k l).1.items k = some i ∧ (putI s k l).1.items[i]? = some x ∧ x.l = l := by
  have hs := putI_hyp h
  obtain ⟨hv, -, -, h0, h1⟩ := isS_iff.1 hs
  refine ⟨putI_valid k l hs, ?_⟩
  have key : ∀ (ys : List It) (i : Nat), ys[i]? = some ⟨k, l⟩ → (∀ j (hj : j < ys.length), j < i → eqK ys[j].k k = false) → ∃ (i : Nat) (x : It), fndO ys k = some i ∧ ys[i]? = some x ∧ x.l = l := by
    intro ys i hi ha
    obtain ⟨hl, e⟩ := List.getElem?_eq_some_iff.1 hi
    exact ⟨i, ⟨k, l⟩, fndO_at i hl (by rw [e]; exact eqK_iff.2 rfl) ha, hi, rfl⟩
  unfold putI at h ⊢
  split
  · rename_i hg
    rw [if_pos hg] at h
    split
    · rename_i i hf
      refine ⟨Int.le_refl _, key _ i ?_ ?_⟩
      · obtain ⟨hi, -⟩ := fndO_some hf
        show (s.items.set i ⟨k, l⟩)[i]? = _
        rw [List.getElem?_set_self hi]
      · intro j hj hji
        have hj' : j < s.items.length := by simpa using hj
        have e : (s.items.set i ⟨k, l⟩)[j]'hj = s.items[j] := List.getElem_set_ne (by omega) _
        show eqK ((s.items.set i ⟨k, l⟩)[j]'hj).k k = false
        rw [e]
        have := (List.findIdx?_eq_some_iff_getElem.1 hf).2.2 j hji
        simpa using this
    · rename_i hf
      rw [hf] at h
      dsimp only at h
      split
      · rename_i hc
        rw [if_pos hc] at h
        cases h
      · refine ⟨(nextAuto_range k h0 h1).1, key _ (posI s.items k) ?_ ?_⟩
        · show (s.items.take (posI s.items k) ++ ⟨k, l⟩ :: s.items.drop (posI s.items k))[posI s.items k]? = _
          have hp := posI_le s.items k
          rw [List.getElem?_append_right (by rw [List.length_take]; omega), List.length_take, Nat.min_eq_left hp, Nat.sub_self]
          rfl
        · intro j hj hji
          have hp := posI_le s.items k
          have hj' : j < s.items.length := by omega
          have e : (s.items.take (posI s.items k) ++ ⟨k, l⟩ :: s.items.drop (posI s.items k))[j]'hj = s.items[j] := by
            rw [List.getElem_append_left (by rw [List.length_take]; omega), List.getElem_take]
          show eqK ((s.items.take (posI s.items k) ++ ⟨k, l⟩ :: s.items.drop (posI s.items k))[j]'hj).k k = false
          rw [e]
          exact fndO_eqK.1 hf _ (List.getElem_mem hj')
  · rename_i hg
    rw [if_neg hg] at h
    cases h
theorem auto_new {s : S6} {l : List F} (h : autoB s l = true) : autoR s l = autoK s ∧ fndI s.items (autoK s) < 0 ∧ ¬ fndI (autoS s l).items (autoK s) < 0 ∧ (autoS s l).items.length = s.items.length + 1 := by
  have hb := h
  unfold autoB at hb
  simp only [Bool.and_eq_true, Bool.not_eq_true', decide_eq_false_iff_not] at hb
  obtain ⟨e1, e2, -⟩ := (auto_parts s l).2.2 hb.1 hb.2
  have h2 := hb.2
  rw [addI_two] at h2
  simp only [Bool.and_eq_true, decide_eq_true_eq] at h2
  have e3 : (addI s (autoK s) l).1 = (putI s (autoK s) l).1 := by
    unfold addI
    rw [if_neg (by omega)]
  rw [e1, e2, e3]
  refine ⟨rfl, h2.2, ?_, ?_⟩
  · obtain ⟨-, -, i, x, hi, -⟩ := putI_found h2.1
    rw [fndI_at hi]
    omega
  · have hp := h2.1
    have hf := fndI_lt.1 h2.2
    have hl := posI_le s.items (autoK s)
    unfold putI at hp ⊢
    split
    · rename_i hg
      rw [if_pos hg, hf] at hp
      rw [hf]
      dsimp only at hp ⊢
      split
      · rename_i hc
        rw [if_pos hc] at hp
        cases hp
      · simp only [List.length_append, List.length_take, List.length_cons, List.length_drop]
        omega
    · rename_i hg
      rw [if_neg hg] at hp
      cases hp
theorem del_off {s : S6} {r : R} (h : isS s = false) : delN s r = 0 ∧ delS s r = s := by
  unfold delN delS
  rw [h]
  exact ⟨rfl, rfl⟩
theorem part_len (xs : List It) (r : R) : (outI xs r).length + (inI xs r).length = xs.length := by
  unfold outI inI
  induction xs with
  | nil => rfl
  | cons x xs ih =>
    simp only [List.filter_cons]
    cases inR x.k r <;> simp <;> omega
theorem part_sz (xs : List It) (r : R) : szI (outI xs r) + szI (inI xs r) = szI xs := by
  unfold outI inI szI
  induction xs with
  | nil => rfl
  | cons x xs ih =>
    simp only [List.filter_cons, List.map_cons, List.sum_cons]
    cases inR x.k r <;> simp <;> omega
theorem in_out (xs : List It) (r : R) : inI (outI xs r) r = [] := by
  unfold outI inI
  rw [List.filter_filter, List.filter_eq_nil_iff]
  intro x _
  cases inR x.k r <;> simp
theorem del_on {s : S6} {r : R} (h : isS s = true) : delN s r = (inI s.items r).length ∧ (delS s r).items = outI s.items r := by
  have := part_len s.items r
  unfold delN delS
  rw [h]
  refine ⟨?_, rfl⟩
  show (s.items.length : Int) - _ = _
  omega
theorem in_at {xs : List It} {r : R} {x : It} (h : x ∈ inI xs r) : inR x.k r = true := (List.mem_filter.1 h).2
theorem out_none {xs : List It} {r : R} {k : K} (h : inR k r = true) : fndI (outI xs r) k < 0 := by
  rw [fndI_lt, fndO_eqK]
  intro x hx
  cases e : eqK x.k k with
  | false => rfl
  | true =>
    have := (List.mem_filter.1 hx).2
    rw [eqK_iff.1 e, h] at this
    cases this
theorem out_neg {xs : List It} {r : R} {k : K} (h : inR k r = true) : fndI (outI xs r) k = -1 := by
  have := out_none (xs := xs) h
  have := (fndI_range (outI xs r) k).1
  omega
theorem szI_bound {xs : List It} (h : xs.length ≤ 1048576) : szI xs ≤ 1048576 * 1100 := by
  have key : ∀ l : List It, szI l ≤ l.length * 1100 := by
    intro l
    induction l with
    | nil => exact Nat.le_refl _
    | cons x l ih =>
      have h1 := encU_small x.k
      have h2 := encR_small x.l
      unfold szI at ih ⊢
      rw [List.map_cons, List.sum_cons, List.length_cons]
      omega
  have := key xs
  omega
theorem eqS_self (s : S6) : eqS s s = true := eqS_iff.2 rfl
end Go.Proofs.Ytkfejjoehgipmaa.L6
