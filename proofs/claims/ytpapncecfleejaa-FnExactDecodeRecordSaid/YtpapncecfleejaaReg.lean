/-
  A region that draws its order, walked by hand: an operation is taken first, is skipped, or is the only one that may come up; each is found in the region's list by plain recursion, so that it stands written out. No condition.
-/
import Derived.Deep.RegionHeld3
import Derived.Test.YtpapncecfleejaaRows
namespace Go.Proofs.Ytpapncecfleejaa.Reg
set_option maxRecDepth 100000
/-- Element number i of a list. -/
def nthO {α : Type} : Nat → List α → Option α
  | _, [] => none
  | 0, x :: _ => some x
  | i + 1, _ :: l => nthO i l
theorem nthO_eq {α : Type} : ∀ (l : List α) (i : Nat), l.toArray[i]? = nthO i l
  | [], i => by simp [nthO]
  | x :: l, 0 => by simp [nthO]
  | x :: l, i + 1 => by
    have := nthO_eq l i
    simp only [List.getElem?_toArray, List.getElem?_cons_succ] at this ⊢
    exact this
section
variable {P : Program} {l : List Oper} {Q : Exit → Act → World → Prop} {md : Region.Mode} {S : World → Prop} {fuel i : Nat} {oi : Oper} {v : Value} {listed : Array Bool} {a : Act} {w : World}
theorem take_op (hi : nthO i l = some oi) (hs : Region.noSelect l.toArray = true) (hf : Region.free md l.toArray listed i = true) (hr : (Region.ready md l.toArray listed).contains i = true)
    (hQ : ∀ c a w, Q (.panic c) (a.put oi.dst v) w → Q (.panic c) a w) (hw : Region.wanted oi (yielded l.toArray a.tmps) = true) (hy : ∀ w, S w → (execOp a.eval oi).run P w = .ok (.value v) w) (hS : S w)
    (h : wpAnyH P md l.toArray Q S fuel (listed.setIfInBounds i true) (a.put oi.dst v) w) : wpAnyH P md l.toArray Q S (fuel + 1) listed a w :=
  wpAnyH_take (by rw [nthO_eq]; exact hi) hs hf hr hQ (.inl ⟨hw, hy⟩) hS h
theorem skip_op (hi : nthO i l = some oi) (hs : Region.noSelect l.toArray = true) (hf : Region.free md l.toArray listed i = true) (hr : (Region.ready md l.toArray listed).contains i = true)
    (hQ : ∀ c a w, Q (.panic c) (a.put oi.dst undef) w → Q (.panic c) a w) (hw : Region.wanted oi (yielded l.toArray a.tmps) = false) (hS : S w)
    (h : wpAnyH P md l.toArray Q S fuel (listed.setIfInBounds i true) (a.put oi.dst undef) w) : wpAnyH P md l.toArray Q S (fuel + 1) listed a w :=
  wpAnyH_take (by rw [nthO_eq]; exact hi) hs hf hr hQ (.inr ⟨hw, rfl⟩) hS h
theorem one_op (hi : nthO i l = some oi) (hr : Region.ready md l.toArray listed = [i])
    (h : ∀ K' : Act → World → Prop, Shut (∀ a w, S w → (S w → wpAnyH P md l.toArray Q S fuel (listed.setIfInBounds i true) a w) → K' a w) → if Region.wanted oi (yielded l.toArray a.tmps) = true then Oper.wp P oi a w K' Q else K' (a.put oi.dst undef) w) :
    wpAnyH P md l.toArray Q S (fuel + 1) listed a w :=
  wpAnyH_ready hr (by simp) (AllReadyH.cons (by rw [nthO_eq]; exact hi) h AllReadyH.nil)
theorem cons_op {rs : List Nat} (hi : nthO i l = some oi)
    (h : ∀ K' : Act → World → Prop, Shut (∀ a w, S w → (S w → wpAnyH P md l.toArray Q S fuel (listed.setIfInBounds i true) a w) → K' a w) → if Region.wanted oi (yielded l.toArray a.tmps) = true then Oper.wp P oi a w K' Q else K' (a.put oi.dst undef) w)
    (hs : AllReadyH P md l.toArray Q S fuel listed a w rs) : AllReadyH P md l.toArray Q S fuel listed a w (i :: rs) := AllReadyH.cons (by rw [nthO_eq]; exact hi) h hs
theorem skip_one (hi : nthO i l = some oi) (hr : Region.ready md l.toArray listed = [i]) (hw : Region.wanted oi (yielded l.toArray a.tmps) = false) (hS : S w)
    (h : wpAnyH P md l.toArray Q S fuel (listed.setIfInBounds i true) (a.put oi.dst undef) w) : wpAnyH P md l.toArray Q S (fuel + 1) listed a w :=
  wpAnyH_all hr (by simp) (fun j hj => by
    obtain rfl := List.mem_singleton.1 hj
    unfold wpOp
    have hi' : l.toArray[j]? = some oi := by rw [nthO_eq]; exact hi
    rw [hi']
    simp only [hw]
    exact ⟨hS, h⟩)
end
end Go.Proofs.Ytpapncecfleejaa.Reg
