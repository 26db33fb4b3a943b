/-
  How chapter 4's arguments open: a key and a range by value. No condition but the form's own reach.
-/
import Derived.Test.YtpapncecfleejaaL4Law
import Derived.Test.YtpapncecfleejaaLaw
import Derived.ChangeArms
namespace Go.Proofs.Ytpapncecfleejaa.L4
set_option maxRecDepth 100000
open Go.ChangeShapes Go.WideShapes Go.ChangeAt Go.RowKit Mem Sl Ex L2

section
variable {H : Type} {enc : TypeId × Value → H} {W : World} {b : Nat} {sp : Nat → Bool} {hd : Bool}
theorem two_63 : maxLen = 9223372036854775807 := rfl
end

/-! ### a boxed value as one of several things that lie apart -/
def boxR (g : Nat) (t : TypeId) (cs : Array Value) : Res where
  fp := [g]
  is w := Row w g t cs
  loc := fun hs h => (hs g (by simp)).trans h
theorem push_box {W w : World} {rs : List Res} (h : Sep W w rs) (t : TypeId) (cs : Array Value) (g : Nat) (hg : g = w.heap.size) : Sep W (w.alloc (.cells cs t)) (rs ++ [boxR g t cs]) := by
  subst hg
  exact h.push ((Below.refl _ _).alloc (Nat.le_refl _) _) (Row.made w t cs) (fun b hb => by simp [boxR] at hb; subst hb; exact ⟨Nat.le_refl _, by simp⟩)
theorem box_at {W w : World} {rs : List Res} {g : Nat} {t : TypeId} {cs : Array Value} (h : Sep W w rs) (i : Nat) (hi : rs[i]? = some (boxR g t cs)) : Row w g t cs := h.is i _ hi
theorem box3 {W w : World} {rs : List Res} {g : Nat} {t : TypeId} {x y z : Value} (h : Sep W w rs) (i : Nat) (hi : rs[i]? = some (boxR g t #[x, y, z])) : w.cell? ⟨g, 0, none⟩ = some x ∧ w.cell? ⟨g, 1, none⟩ = some y ∧ w.cell? ⟨g, 2, none⟩ = some z := by
  have h' := box_at h i hi
  refine ⟨?_, ?_, ?_⟩ <;> (rw [h'.cell]; rfl)
theorem box8 {W w : World} {rs : List Res} {g : Nat} {t : TypeId} {a0 a1 a2 a3 a4 a5 a6 a7 : Value} (h : Sep W w rs) (i : Nat) (hi : rs[i]? = some (boxR g t #[a0, a1, a2, a3, a4, a5, a6, a7])) : w.cell? ⟨g, 0, none⟩ = some a0 ∧ w.cell? ⟨g, 1, none⟩ = some a1 ∧ w.cell? ⟨g, 2, none⟩ = some a2 ∧ w.cell? ⟨g, 3, none⟩ = some a3 ∧ w.cell? ⟨g, 4, none⟩ = some a4 ∧ w.cell? ⟨g, 5, none⟩ = some a5 ∧ w.cell? ⟨g, 6, none⟩ = some a6 ∧ w.cell? ⟨g, 7, none⟩ = some a7 := Row.cells8 (box_at h i hi)
theorem keep_drew {W w w' : World} {rs : List Res} (h : Sep W w rs) (hb : Below w.drew.heap.size w.drew w') : Sep W w' rs := (h.drews 1).keep hb
theorem rleft_small {n : Int} {r : R} (h : ¬ R.left n r < 0) : (r.lo.text.size : Int) ≤ n ∧ (r.hi.text.size : Int) ≤ n := by
  unfold R.left at h
  split at h
  · omega
  · rename_i h1
    have h2 : ¬ left n r.lo.text < 0 := h1
    have e1 : left n r.lo.text = n - r.lo.text.size ∧ (r.lo.text.size : Int) ≤ n := by
      unfold left at h2 ⊢
      split at h2
      · omega
      · rename_i h3
        rw [if_neg h3]
        omega
    rw [e1.1] at h
    unfold left at h
    split at h <;> omega
theorem rleft_range (n : Int) (r : R) (h : n ≤ 1048576) : -1 ≤ R.left n r ∧ R.left n r ≤ 1048576 := by
  unfold R.left
  split
  · omega
  · exact left_range _ _ (left_range n _ h).2
theorem left_small {n : Int} {s : ByteArray} (h : ¬ left n s < 0) : left n s = n - s.size ∧ (s.size : Int) ≤ n := by
  unfold left at h ⊢
  split at h
  · omega
  · rename_i h2
    rw [if_neg h2]
    omega
end Go.Proofs.Ytpapncecfleejaa.L4
