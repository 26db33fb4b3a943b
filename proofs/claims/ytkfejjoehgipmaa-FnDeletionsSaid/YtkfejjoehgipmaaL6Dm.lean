/-
  Mathematics of drawn stores: what a put and an automatic key leave of a store whose automatic keys are new. No condition.
-/
import Derived.Test.YtkfejjoehgipmaaL6Lc
import Derived.Test.YtkfejjoehgipmaaL6Pm
import Derived.Test.YtkfejjoehgipmaaL6Sg
namespace Go.Proofs.Ytkfejjoehgipmaa.L6
set_option maxRecDepth 100000
open L4 (K isK cmpK R inR encU)
open L5 (F isR isN cellsF encR eqR Small)
set_option linter.unusedVariables false
def Cov (s : S6) : Prop := ∀ x ∈ s.items, x.k.kind = 1 → x.k.n ≤ 1000000 → x.k.n ≤ s.auto
structure Nice (s : S6) (b : Int) : Prop where
  valid : isS s = true
  cov : Cov s
  auto : s.auto ≤ b
  fit : FitS s
theorem nextAuto_le {auto b : Int} {k : K} (h : auto ≤ b) (hk : k.kind = 1 → k.n ≤ b ∨ 1000000 < k.n) : nextAuto auto k ≤ b := by
  unfold nextAuto
  split
  · rename_i h1
    simp only [Bool.and_eq_true, beq_iff_eq, L1.inB_true] at h1
    rcases hk h1.1 with h2 | h2
    · exact h2
    · omega
  · exact h
theorem nextAuto_ge (auto : Int) (k : K) : auto ≤ nextAuto auto k := by
  unfold nextAuto
  split
  · rename_i h1
    simp only [Bool.and_eq_true, beq_iff_eq, L1.inB_true] at h1
    omega
  · omega
theorem nextAuto_own (auto : Int) (k : K) (h1 : k.kind = 1) (h2 : k.n ≤ 1000000) : k.n ≤ nextAuto auto k := by
  unfold nextAuto
  split
  · exact Int.le_refl _
  · rename_i h3
    rw [h1, show ((1 : Int) == 1) = true from rfl, Bool.true_and] at h3
    have h4 : ¬ (auto + 1 ≤ k.n ∧ k.n ≤ 1000000) := fun h => h3 (L1.inB_true.2 h)
    omega
theorem Nice.put {s : S6} {b : Int} {k : K} {l : List F} (h : Nice s b) (hk : k.kind = 1 → k.n ≤ b ∨ 1000000 < k.n) (hz : FitI ⟨k, l⟩) : Nice (putI s k l).1 b := by
  refine ⟨putI_valid k l h.valid, ?_, ?_, FitS_put h.fit hz⟩
  · unfold putI
    split
    · cases hf : fndO s.items k with
      | some i =>
        obtain ⟨hi, hki⟩ := fndO_some hf
        intro x hx h1 h2
        rcases List.mem_or_eq_of_mem_set hx with h3 | h3
        · exact h.cov x h3 h1 h2
        · subst h3
          have h4 := h.cov s.items[i] (List.getElem_mem hi)
          rw [hki] at h4
          exact h4 h1 h2
      | none =>
        dsimp only
        split
        · exact h.cov
        · intro x hx h1 h2
          show x.k.n ≤ nextAuto s.auto k
          have h5 := nextAuto_ge s.auto k
          rcases List.mem_append.1 hx with h3 | h3
          · have := h.cov x (List.mem_of_mem_take h3) h1 h2
            omega
          · rcases List.mem_cons.1 h3 with h4 | h4
            · subst h4
              exact nextAuto_own s.auto k h1 h2
            · have := h.cov x (List.mem_of_mem_drop h4) h1 h2
              omega
    · exact h.cov
  · unfold putI
    split
    · cases hf : fndO s.items k with
      | some i => exact h.auto
      | none =>
        dsimp only
        split
        · exact h.auto
        · exact nextAuto_le h.auto hk
    · exact h.auto
theorem isR_nil : isR [] = true := by
  rw [L5.isR_iff]
  exact ⟨fun i j h => absurd h (by simp), by simp⟩
theorem Nice.step {s : S6} {b : Int} (h : Nice s b) (hb : b < 1000000) (hl : s.items.length < 16) : Nice (autoS s []) (b + 1) ∧ (autoS s []).items.length = s.items.length + 1 ∧ autoB s [] = true := by
  obtain ⟨h1, h2, h3, h4, h5⟩ := isS_iff.1 h.valid
  have ha := h.auto
  have hnf : fndO s.items (autoK s) = none := by
    cases hf : fndO s.items (autoK s) with
    | none => rfl
    | some i =>
      obtain ⟨hi, hki⟩ := fndO_some hf
      have h6 := h.cov s.items[i] (List.getElem_mem hi)
      rw [hki] at h6
      have h7 : s.auto + 1 ≤ s.auto := h6 rfl (by show s.auto + 1 ≤ 1000000; omega)
      omega
  have hk : isK (autoK s) = true := L4.isK_iff.2 ⟨by show (1 : Int) ≤ 1; decide, by show (1 : Int) ≤ 3; decide, by show -1000000000000 ≤ s.auto + 1; omega, by show s.auto + 1 ≤ 1000000000000; omega, (by intro h; exact absurd h (by show ¬ (1 : Int) = 2; decide)), rfl, fun _ => rfl⟩
  have hadd : addI s (autoK s) [] = putI s (autoK s) [] := by
    unfold addI
    rw [if_neg (by unfold fndI; rw [hnf]; decide)]
  have hput : putI s (autoK s) [] = (⟨s.name, s.items.take (posI s.items (autoK s)) ++ ⟨autoK s, []⟩ :: s.items.drop (posI s.items (autoK s)), nextAuto s.auto (autoK s)⟩, true) := by
    unfold putI
    rw [h.valid, hk, isR_nil, hnf]
    show (if 16 ≤ s.items.length then _ else _) = _
    rw [if_neg (by omega)]
  have hB : autoB s [] = true := by
    unfold autoB
    rw [hadd, hput, decide_eq_false (by omega)]
    rfl
  have hS : autoS s [] = (putI s (autoK s) []).1 := by
    unfold autoS
    rw [hB, hadd]
    rfl
  refine ⟨?_, ?_, hB⟩
  · rw [hS]
    exact Nice.put ⟨h.valid, h.cov, by omega, h.fit⟩ (fun _ => .inl (by show s.auto + 1 ≤ b + 1; omega)) ⟨by show (0 : Nat) ≤ _; omega, by show (0 : Nat) ≤ _; omega, fun f hf => by cases hf⟩
  · rw [hS, hput]
    have := posI_le s.items (autoK s)
    simp
    omega
theorem Nice.start {n : ByteArray} (h : isN n.data.toList = true) (hn : n.size ≤ 281474976710656) : Nice ⟨n, [], 0⟩ 256 :=
  ⟨isS_iff.2 ⟨isI_iff.2 ⟨fun i h => absurd h (by simp), fun i h => absurd h (by simp)⟩, h, (by simp), (by show (0 : Int) ≤ 0; decide), (by show (0 : Int) ≤ 1000000; decide)⟩, (fun x hx => by cases hx), (by show (0 : Int) ≤ 256; decide), ⟨hn, (by show (0 : Nat) ≤ _; omega), (fun x hx => by cases hx)⟩⟩
end Go.Proofs.Ytkfejjoehgipmaa.L6
