/-
  Mathematics of stores: when a store is valid behind a change of one record or behind an insertion. No condition.
-/
import Derived.Test.YtkfejjoehgipmaaL6Num
namespace Go.Proofs.Ytkfejjoehgipmaa.L6
set_option maxRecDepth 100000
open L4 (K isK cmpK R inR encU)
open L5 (F isR isN cellsF encR eqR Small)
set_option linter.unusedVariables false

theorem isI_iff {xs : List It} : isI xs = true ↔ (∀ i (h : i < xs.length), isK xs[i].k = true ∧ isR xs[i].l = true) ∧ ∀ i (h : i + 1 < xs.length), cmpK xs[i].k xs[i + 1].k < 0 := by
  constructor
  · intro h
    refine ⟨fun i hi => ?_, fun i hi => ?_⟩
    · have h1 := isI_at h i hi
      rw [okIx_at (List.getElem?_eq_getElem hi)] at h1
      simp only [Bool.and_eq_true] at h1
      exact ⟨h1.1, h1.2.1⟩
    · have h1 := isI_at h (i + 1) hi
      rw [okIx_succ i hi] at h1
      simp only [Bool.and_eq_true, decide_eq_true_eq] at h1
      exact h1.2.2
  · rintro ⟨h1, h2⟩
    refine isI_all fun i hi => ?_
    rcases i with _ | j
    · rw [okIx_zero hi, (h1 0 hi).1, (h1 0 hi).2]; rfl
    · rw [okIx_succ j hi, (h1 _ hi).1, (h1 _ hi).2, decide_eq_true (h2 j hi)]; rfl
theorem isI_bad {xs : List It} (i : Nat) (x : It) (hx : xs[i]? = some x) (h : (isK x.k && isR x.l) = false) : isI xs = false := by
  cases h1 : isI xs with
  | false => rfl
  | true =>
    obtain ⟨hi, rfl⟩ := List.getElem?_eq_some_iff.1 hx
    have h2 := (isI_iff.1 h1).1 i hi
    rw [h2.1, h2.2] at h
    cases h
theorem isI_set {xs : List It} (h : isI xs = true) (i : Nat) (hi : i < xs.length) (l : List F) : isI (xs.set i ⟨xs[i].k, l⟩) = isR l := by
  have hx := isI_iff.1 h
  cases hl : isR l with
  | false => exact isI_bad i ⟨xs[i].k, l⟩ (by rw [List.getElem?_set_self hi]) (by show (isK xs[i].k && isR l) = false; rw [hl, Bool.and_false])
  | true =>
    have hk : ∀ j (hj : j < (xs.set i ⟨xs[i].k, l⟩).length), (xs.set i ⟨xs[i].k, l⟩)[j].k = (xs[j]'(by simpa using hj)).k := fun j hj => by
      rw [List.getElem_set]
      split
      · rename_i e; subst e; rfl
      · rfl
    refine isI_iff.2 ⟨fun j hj => ?_, fun j hj => ?_⟩
    · have hj' : j < xs.length := by simpa using hj
      refine ⟨by rw [hk j hj]; exact (hx.1 j hj').1, ?_⟩
      rw [List.getElem_set]
      split
      · exact hl
      · exact (hx.1 j hj').2
    · rw [hk j (by omega), hk (j + 1) hj]
      exact hx.2 j (by simpa using hj)
theorem get_ins (xs : List It) (p : Nat) (hp : p ≤ xs.length) (z : It) (i : Nat) :
    (xs.take p ++ z :: xs.drop p)[i]? = if i < p then xs[i]? else if i = p then some z else xs[i - 1]? := by
  rw [List.getElem?_append, List.length_take, Nat.min_eq_left hp]
  split
  · rw [List.getElem?_take, if_pos (by assumption)]
  · rename_i h
    split
    · rename_i e; subst e; simp
    · rw [show i - p = (i - p - 1) + 1 by omega, List.getElem?_cons_succ, List.getElem?_drop]
      congr 1
      omega
theorem isI_ins {xs : List It} (h : isI xs = true) (k : K) (l : List F) (p : Nat) (hp : p ≤ xs.length) (hk : isK k = true) (hl : isR l = true) (hlo : ∀ j (hj : j < xs.length), j < p → cmpK xs[j].k k < 0) (hhi : ∀ hj : p < xs.length, cmpK k xs[p].k < 0) : isI (xs.take p ++ ⟨k, l⟩ :: xs.drop p) = true := by
  have hx := isI_iff.1 h
  have hlen : (xs.take p ++ (⟨k, l⟩ : It) :: xs.drop p).length = xs.length + 1 := by simp; omega
  have hg : ∀ i (hi : i < (xs.take p ++ (⟨k, l⟩ : It) :: xs.drop p).length) (z : It), (if i < p then xs[i]? else if i = p then some ⟨k, l⟩ else xs[i - 1]?) = some z → (xs.take p ++ (⟨k, l⟩ : It) :: xs.drop p)[i] = z := fun i hi z hz => by
    have h1 := get_ins xs p hp ⟨k, l⟩ i
    rw [hz, List.getElem?_eq_getElem hi] at h1
    exact Option.some.inj h1
  refine isI_iff.2 ⟨fun i hi => ?_, fun i hi => ?_⟩
  · rcases Nat.lt_trichotomy i p with h1 | h1 | h1
    · rw [hg i hi xs[i] (by rw [if_pos h1, List.getElem?_eq_getElem])]
      exact hx.1 i (by omega)
    · rw [hg i hi ⟨k, l⟩ (by rw [if_neg (by omega), if_pos h1])]
      exact ⟨hk, hl⟩
    · have : i - 1 < xs.length := by omega
      rw [hg i hi xs[i - 1] (by rw [if_neg (by omega), if_neg (by omega), List.getElem?_eq_getElem])]
      exact hx.1 (i - 1) this
  · rcases Nat.lt_trichotomy (i + 1) p with h1 | h1 | h1
    · rw [hg i (by omega) xs[i] (by rw [if_pos (by omega), List.getElem?_eq_getElem]), hg (i + 1) hi xs[i + 1] (by rw [if_pos h1, List.getElem?_eq_getElem])]
      exact hx.2 i (by omega)
    · rw [hg i (by omega) xs[i] (by rw [if_pos (by omega), List.getElem?_eq_getElem]), hg (i + 1) hi ⟨k, l⟩ (by rw [if_neg (by omega), if_pos h1])]
      exact hlo i (by omega) (by omega)
    · rcases Nat.lt_or_ge p i with h2 | h2
      · have h3 : i - 1 + 1 < xs.length := by omega
        rw [hg i (by omega) xs[i - 1] (by rw [if_neg (by omega), if_neg (by omega), List.getElem?_eq_getElem]), hg (i + 1) hi (xs[i - 1 + 1]'h3) (by
          rw [if_neg (by omega), if_neg (by omega), List.getElem?_eq_getElem (show i + 1 - 1 < xs.length by omega)]
          congr 2
          omega)]
        exact hx.2 (i - 1) h3
      · obtain rfl : i = p := by omega
        have h3 : i < xs.length := by omega
        rw [hg i (by omega) ⟨k, l⟩ (by rw [if_neg (by omega), if_pos rfl]), hg (i + 1) hi (xs[i]'h3) (by
          rw [if_neg (by omega), if_neg (by omega), List.getElem?_eq_getElem (show i + 1 - 1 < xs.length by omega)]
          congr 2)]
        exact hhi h3
theorem isS_iff {s : S6} : isS s = true ↔ isI s.items = true ∧ isN s.name.data.toList = true ∧ s.items.length ≤ 16 ∧ 0 ≤ s.auto ∧ s.auto ≤ 1000000 := by
  unfold isS
  simp only [Bool.and_eq_true, decide_eq_true_eq, L1.inB_true]
theorem fndO_ne {xs : List It} {k : K} (h : fndO xs k = none) : ∀ x ∈ xs, x.k ≠ k := fun x hx e => by
  unfold fndO at h
  rw [List.findIdx?_eq_none_iff] at h
  have := h x hx
  rw [e, eqK_refl] at this
  cases this
theorem fndO_cmp {xs : List It} {k : K} (hv : isI xs = true) (hk : isK k = true) (h : fndO xs k = none) : ∀ x ∈ xs, cmpK x.k k ≠ 0 := fun x hx e => by
  obtain ⟨j, hj, rfl⟩ := List.getElem_of_mem hx
  exact fndO_ne h _ hx ((L4.cmpK_zero ((isI_iff.1 hv).1 j hj).1 hk).1 e)
theorem posI_spec (xs : List It) (k : K) : (∀ j (hj : j < xs.length), j < posI xs k → cmpK xs[j].k k < 0) ∧ ∀ hj : posI xs k < xs.length, ¬ cmpK xs[posI xs k].k k < 0 := by
  unfold posI
  cases h : xs.findIdx? fun x => !decide (cmpK x.k k < 0) with
  | none =>
    rw [List.findIdx?_eq_none_iff] at h
    refine ⟨fun j hj _ => ?_, fun hj => absurd hj (by simp)⟩
    have := h _ (List.getElem_mem hj)
    simpa using this
  | some i =>
    rw [List.findIdx?_eq_some_iff_getElem] at h
    obtain ⟨hi, h1, h2⟩ := h
    refine ⟨fun j hj hji => ?_, fun hj => ?_⟩
    · have := h2 j hji
      simpa using this
    · simpa using h1
theorem nextAuto_range {auto : Int} (k : K) (h0 : 0 ≤ auto) (h1 : auto ≤ 1000000) : auto ≤ nextAuto auto k ∧ nextAuto auto k ≤ 1000000 := by
  unfold nextAuto
  split
  · rename_i h
    simp only [Bool.and_eq_true, L1.inB_true] at h
    omega
  · omega
theorem putI_valid {s : S6} (k : K) (l : List F) (h : isS s = true) : isS (putI s k l).1 = true := by
  obtain ⟨h1, h2, h3, h4, h5⟩ := isS_iff.1 h
  unfold putI
  split
  · rename_i hg
    simp only [Bool.and_eq_true] at hg
    cases hf : fndO s.items k with
    | some i =>
      obtain ⟨hi, hki⟩ := fndO_some hf
      have e := isI_set h1 i hi l
      rw [hki] at e
      exact isS_iff.2 ⟨by show isI (s.items.set i ⟨k, l⟩) = true; rw [e]; exact hg.2.2, h2, by show (s.items.set i _).length ≤ 16; rw [List.length_set]; exact h3, h4, h5⟩
    | none =>
      dsimp only
      split
      · exact h
      · have hp := posI_spec s.items k
        have ha := nextAuto_range k h4 h5
        refine isS_iff.2 ⟨isI_ins h1 k l _ (posI_le _ _) hg.2.1 hg.2.2 hp.1 (fun hj => ?_), h2, ?_, by show 0 ≤ nextAuto s.auto k; omega, by show nextAuto s.auto k ≤ 1000000; omega⟩
        · have e1 := hp.2 hj
          have e2 := fndO_cmp h1 hg.2.1 hf _ (List.getElem_mem hj)
          rw [L4.cmpK_swap]
          omega
        · have := posI_le s.items k
          simp
          omega
  · exact h
theorem FitS.set {n : ByteArray} {xs : List It} {u u2 : Int} (h : FitS ⟨n, xs, u⟩) (i : Nat) (z : It) (hz : FitI z) : FitS ⟨n, xs.set i z, u2⟩ :=
  ⟨h.name, by show (xs.set i z).length ≤ _; rw [List.length_set]; exact h.len, fun x hx => by
    rcases List.mem_or_eq_of_mem_set hx with h1 | h1
    · exact h.items x h1
    · rw [h1]; exact hz⟩
theorem FitS.ins {n : ByteArray} {xs : List It} {u u2 : Int} (h : FitS ⟨n, xs, u⟩) (p : Nat) (z : It) (hz : FitI z) (hl : xs.length ≤ 1000) : FitS ⟨n, xs.take p ++ z :: xs.drop p, u2⟩ :=
  ⟨h.name, by show (xs.take p ++ z :: xs.drop p).length ≤ _; simp; omega, fun x hx => by
    rcases List.mem_append.1 hx with h1 | h1
    · exact h.items x (List.mem_of_mem_take h1)
    · rcases List.mem_cons.1 h1 with h2 | h2
      · rw [h2]; exact hz
      · exact h.items x (List.mem_of_mem_drop h2)⟩
end Go.Proofs.Ytkfejjoehgipmaa.L6
