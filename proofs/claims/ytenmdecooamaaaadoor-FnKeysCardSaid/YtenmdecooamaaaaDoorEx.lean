/-
  The contracts of the exact laws' helpers for slices of bytes and of ints: a copy (to..S), a comparison (eq..S, of equal lists), marks (mark..S) and a look at the marks (held..S). No condition but a length below 2^40 where numbers are counted.
-/
import Derived.Test.YtenmdecooamaaaaDoorSl
namespace Go.Proofs.YtenmdecooamaaaaDoor.Ex
open Go.ChangeShapes Go.WideShapes Go.ChangeAt Go.RowKit Mem Sl

/-- The marks: k, k+1, .. as the element's kind has them. -/
def marks (kd : IntKind) (k : Int) (n : Nat) : List Int := (List.range n).map fun (i : Nat) => kd.wrap (k + (i : Int))
@[simp] theorem marks_length (kd : IntKind) (k : Int) (n : Nat) : (marks kd k n).length = n := by simp [marks]
theorem marks_get (kd : IntKind) (k : Int) (n j : Nat) (h : j < n) : (marks kd k n)[j]'(by simpa using h) = kd.wrap (k + (j : Int)) := by simp [marks]

theorem set_step {α : Type} (x : α) (p q : List α) (y : α) (k : Nat) (hk : p.length = k) : (p ++ y :: q).set k x = (p ++ [x]) ++ q := by
  subst hk
  simp

theorem infoOf (e : TypeId) (z : Value) (s b : Nat) (h : (Tryd.prog.info? e).map (fun i => (i.zero, i.size, i.bytes)) = some (some z, s, b)) : ∃ i, Tryd.prog.info? e = some i ∧ i.zero = some z ∧ i.size = s ∧ i.bytes = b := info_parts h

theorem ret_slice {a : Option Addr} {n m c : Nat} (h : n = m) : Ending.returned (.slice a n c) = .returned (.slice a m c) := by rw [h]
theorem replicate_cons {α : Type} (x : α) (n k : Nat) (h : k < n) : List.replicate (n - k) x = x :: List.replicate (n - (k + 1)) x := by
  rw [show n - k = (n - (k + 1)) + 1 by omega, List.replicate_succ]


/-- From w to w' nothing but draws. -/
def Drew (w w' : World) : Prop := ∃ n, w' = w.drewN n
theorem Drew.refl (w : World) : Drew w w := ⟨0, rfl⟩
theorem Drew.more {w w1 : World} (h : Drew w w1) (n : Nat) : Drew w (w1.drewN n) := by
  obtain ⟨m, rfl⟩ := h
  exact ⟨m + n, World.drewN_drewN ..⟩
theorem Drew.below {w w' : World} (h : Drew w w') (B : Nat) : Below B w w' := by
  obtain ⟨n, rfl⟩ := h
  exact ⟨rfl, rfl, rfl, Nat.le_refl _, fun _ _ => rfl⟩
theorem Drew.trans {w w1 w2 : World} (h : Drew w w1) (k : Drew w1 w2) : Drew w w2 := by
  obtain ⟨n, rfl⟩ := k
  exact h.more n

theorem take_eq_step {l m : List Int} {k : Nat} (hl : k < l.length) (hm : k < m.length) (h : l.take k = m.take k) (e : l[k] = m[k]) : l.take (k + 1) = m.take (k + 1) := by
  rw [List.take_succ_eq_append_getElem hl, List.take_succ_eq_append_getElem hm, h, e]
theorem eq_of_take {l m : List Int} (hn : l.length = m.length) (h : l.take l.length = m.take l.length) : l = m := by
  rw [List.take_length, hn, List.take_length] at h
  exact h
def eqB (l m : List Int) : Bool := decide (l = m)
theorem eqB_true {l m : List Int} (h : l = m) : eqB l m = true := decide_eq_true h
theorem eqB_false {l m : List Int} (h : l ≠ m) : eqB l m = false := decide_eq_false h


theorem marks_step (kd : IntKind) (k : Int) (n : Nat) : marks kd k (n + 1) = marks kd k n ++ [kd.wrap (k + (n : Int))] := by
  simp [marks, List.range_succ]


end Go.Proofs.YtenmdecooamaaaaDoor.Ex
