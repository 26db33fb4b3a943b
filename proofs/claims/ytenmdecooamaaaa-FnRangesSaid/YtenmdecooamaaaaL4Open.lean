/-
  How chapter 4's arguments open: a key and a range by value. No condition but the form's own reach.
-/
import Derived.Test.YtenmdecooamaaaaL4Law
import Derived.Test.YtenmdecooamaaaaLaw
import Derived.ChangeArms
namespace Go.Proofs.Ytenmdecooamaaaa.L4
open Go.ChangeShapes Go.WideShapes Go.ChangeAt Go.RowKit Mem Sl Ex L2

section
variable {H : Type} {enc : TypeId × Value → H} {W : World} {b : Nat} {sp : Nat → Bool} {hd : Bool}
theorem two_63 : maxLen = 9223372036854775807 := rfl
theorem trod_key {fuel : Nat} {cs : List Value} {x : DataW H × List MemPlace} (h : DataW.trod enc Try.prog W b sp hd fuel 37 cs = some x) :
    ∃ k : K, cs = k.cells.toList ∧ k.text.size ≤ maxLen ∧ (-9223372036854775808 ≤ k.kind ∧ k.kind ≤ 9223372036854775807) ∧ (-9223372036854775808 ≤ k.n ∧ k.n ≤ 9223372036854775807) := by
  obtain ⟨xs, n, _, _, hl, hlen, hf⟩ := DataW.trod_struct Try.underlying37 h
  have hl3 : cs.length = 3 := hl.trans (by kernel_rfl)
  match cs, hl3 with
  | [c0, c1, c2], _ =>
    have h0 : DataW.trod enc Try.prog W b sp hd n 3 (List.take (Try.prog.cellsOf 3) (List.drop 0 [c0, c1, c2])) = xs[0]? := hf 0 _ rfl
    have h1 : DataW.trod enc Try.prog W b sp hd n 3 (List.take (Try.prog.cellsOf 3) (List.drop 1 [c0, c1, c2])) = xs[1]? := hf 1 _ rfl
    have h2 : DataW.trod enc Try.prog W b sp hd n 9 (List.take (Try.prog.cellsOf 9) (List.drop 2 [c0, c1, c2])) = xs[2]? := hf 2 _ rfl
    rw [show (Try.prog.cellsOf 3) = 1 by kernel_rfl] at h0 h1
    rw [show (Try.prog.cellsOf 9) = 1 by kernel_rfl] at h2
    rw [List.getElem?_eq_getElem (by rw [hlen]; decide)] at h0 h1 h2
    obtain ⟨kd, e0, _, w0⟩ := DataW.trod_int Try.underlying3 h0
    obtain ⟨m, e1, _, w1⟩ := DataW.trod_int Try.underlying3 h1
    obtain ⟨s, e2, _, w2⟩ := DataW.trod_string Try.underlying9 h2
    simp at e0 e1 e2
    subst e0; subst e1; subst e2
    exact ⟨⟨kd, m, s⟩, rfl, w2, Law.wf_i64 w0, Law.wf_i64 w1⟩
theorem open_key {b0 : Nat} {v : Value} {d : DataW H} {ps : List MemPlace} (hval : Value.okWide Try.prog W .any b0 37 v) (h0 : DataW.Trod enc Try.prog W b sp hd 37 v d ps) :
    ∃ k : K, v = k.v ∧ k.text.size ≤ maxLen ∧ (-9223372036854775808 ≤ k.kind ∧ k.kind ≤ 9223372036854775807) ∧ (-9223372036854775808 ≤ k.n ∧ k.n ≤ 9223372036854775807) := by
  obtain ⟨cs, rfl, _⟩ := okWide_struct Try.underlying37 hval
  obtain ⟨fuel, hf⟩ := h0
  obtain ⟨k, e, h1, h2⟩ := trod_key hf
  refine ⟨k, ?_, h1, h2⟩
  show Value.agg cs = Value.agg k.cells
  rw [Array.toList_inj.1 (show cs.toList = k.cells.toList from e)]
theorem open_range {b0 : Nat} {v : Value} {d : DataW H} {ps : List MemPlace} (hval : Value.okWide Try.prog W .any b0 47 v) (h0 : DataW.Trod enc Try.prog W b sp hd 47 v d ps) :
    ∃ r : R, v = r.v ∧ r.lo.text.size ≤ maxLen ∧ r.hi.text.size ≤ maxLen ∧ (-9223372036854775808 ≤ r.lo.kind ∧ r.lo.kind ≤ 9223372036854775807) ∧ (-9223372036854775808 ≤ r.lo.n ∧ r.lo.n ≤ 9223372036854775807) ∧ (-9223372036854775808 ≤ r.hi.kind ∧ r.hi.kind ≤ 9223372036854775807) ∧ (-9223372036854775808 ≤ r.hi.n ∧ r.hi.n ≤ 9223372036854775807) := by
  obtain ⟨cs, rfl, _⟩ := okWide_struct Try.underlying47 hval
  obtain ⟨fuel, hf0⟩ := h0
  obtain ⟨xs, n, _, _, hl, hlen, hf⟩ := DataW.trod_struct Try.underlying47 hf0
  have hl8 : cs.toList.length = 8 := hl.trans (by kernel_rfl)
  obtain ⟨l⟩ := cs
  match l, hl8 with
  | [c0, c1, c2, c3, c4, c5, c6, c7], _ =>
    have h0 : DataW.trod enc Try.prog W b sp hd n 4 (List.take (Try.prog.cellsOf 4) (List.drop 0 [c0, c1, c2, c3, c4, c5, c6, c7])) = xs[0]? := hf 0 _ rfl
    have h1 : DataW.trod enc Try.prog W b sp hd n 4 (List.take (Try.prog.cellsOf 4) (List.drop 1 [c0, c1, c2, c3, c4, c5, c6, c7])) = xs[1]? := hf 1 _ rfl
    have h2 : DataW.trod enc Try.prog W b sp hd n 37 (List.take (Try.prog.cellsOf 37) (List.drop 2 [c0, c1, c2, c3, c4, c5, c6, c7])) = xs[2]? := hf 2 _ rfl
    have h3 : DataW.trod enc Try.prog W b sp hd n 37 (List.take (Try.prog.cellsOf 37) (List.drop 5 [c0, c1, c2, c3, c4, c5, c6, c7])) = xs[3]? := hf 3 _ rfl
    rw [show (Try.prog.cellsOf 4) = 1 by kernel_rfl] at h0 h1
    rw [show (Try.prog.cellsOf 37) = 3 by kernel_rfl] at h2 h3
    rw [List.getElem?_eq_getElem (by rw [hlen]; decide)] at h0 h1 h2 h3
    obtain ⟨b0, e0, _⟩ := DataW.trod_bool Try.underlying4 h0
    obtain ⟨b1, e1, _⟩ := DataW.trod_bool Try.underlying4 h1
    obtain ⟨k2, e2, a2, b2, c2'⟩ := trod_key h2
    obtain ⟨k3, e3, a3, b3, c3'⟩ := trod_key h3
    simp [K.cells] at e0 e1 e2 e3
    obtain ⟨rfl, rfl, rfl⟩ := e2
    obtain ⟨rfl, rfl, rfl⟩ := e3
    subst e0; subst e1
    exact ⟨⟨b0, b1, k2, k3⟩, rfl, a2, a3, b2, c2', b3, c3'⟩
end

/-! ### a boxed value as one of several things that lie apart -/
def boxR (g : Nat) (t : TypeId) (cs : Array Value) : Res where
  fp := [g]
  is w := Row w g t cs
  loc := fun hs h => (hs g (by simp)).trans h
theorem push_box {W w : World} {rs : List Res} (h : Sep W w rs) (t : TypeId) (cs : Array Value) (g : Nat) (hg : g = w.heap.size) : Sep W (w.alloc (.cells cs t)) (rs ++ [boxR g t cs]) := by
  subst hg
  exact h.push ((Below.refl _ _).alloc (Nat.le_refl _) _) (Row.made w t cs) (fun b hb => by simp [boxR] at hb; subst hb; exact ⟨Nat.le_refl _, by simp⟩)
theorem box_at {W w : World} {rs : List Res} {g : Nat} {t : TypeId} {cs : Array Value} (h : Sep W w rs) (i : Nat) (hi : rs[i]? = some (boxR g t cs)) : Row w g t cs := h.is i _ hi
theorem box3 {W w : World} {rs : List Res} {g : Nat} {t : TypeId} {x y z : Value} (h : Sep W w rs) (i : Nat) (hi : rs[i]? = some (boxR g t #[x, y, z])) : w.cell? ⟨g, 0, none⟩ = some x ∧ w.cell? ⟨g, 1, none⟩ = some y ∧ w.cell? ⟨g, 2, none⟩ = some z := by
  have h' := box_at h i hi
  refine ⟨?_, ?_, ?_⟩ <;> (rw [h'.cell]; rfl)
theorem box8 {W w : World} {rs : List Res} {g : Nat} {t : TypeId} {a0 a1 a2 a3 a4 a5 a6 a7 : Value} (h : Sep W w rs) (i : Nat) (hi : rs[i]? = some (boxR g t #[a0, a1, a2, a3, a4, a5, a6, a7])) : w.cell? ⟨g, 0, none⟩ = some a0 ∧ w.cell? ⟨g, 1, none⟩ = some a1 ∧ w.cell? ⟨g, 2, none⟩ = some a2 ∧ w.cell? ⟨g, 3, none⟩ = some a3 ∧ w.cell? ⟨g, 4, none⟩ = some a4 ∧ w.cell? ⟨g, 5, none⟩ = some a5 ∧ w.cell? ⟨g, 6, none⟩ = some a6 ∧ w.cell? ⟨g, 7, none⟩ = some a7 := Row.cells8 (box_at h i hi)
theorem keep_drew {W w w' : World} {rs : List Res} (h : Sep W w rs) (hb : Below w.drew.heap.size w.drew w') : Sep W w' rs := (h.drews 1).keep hb
theorem rleft_small {n : Int} {r : R} (h : ¬ R.left n r < 0) : (r.lo.text.size : Int) ≤ n ∧ (r.hi.text.size : Int) ≤ n := by
  unfold R.left at h
  split at h
  · omega
  · rename_i h1
    have h2 : ¬ left n r.lo.text < 0 := h1
    have e1 : left n r.lo.text = n - r.lo.text.size ∧ (r.lo.text.size : Int) ≤ n := by
      unfold left at h2 ⊢
      split at h2
      · omega
      · rename_i h3
        rw [if_neg h3]
        omega
    rw [e1.1] at h
    unfold left at h
    split at h <;> omega
theorem rleft_range (n : Int) (r : R) (h : n ≤ 1048576) : -1 ≤ R.left n r ∧ R.left n r ≤ 1048576 := by
  unfold R.left
  split
  · omega
  · exact left_range _ _ (left_range n _ h).2
theorem left_small {n : Int} {s : ByteArray} (h : ¬ left n s < 0) : left n s = n - s.size ∧ (s.size : Int) ≤ n := by
  unfold left at h ⊢
  split at h
  · omega
  · rename_i h2
    rw [if_neg h2]
    omega
end Go.Proofs.Ytenmdecooamaaaa.L4
