/-
  The exact laws' helpers for keys and ranges: toKey, szKey, eqKey, toKeyRange, szKeyRange. Condition: a room of at most 2^20.
-/
import Derived.Test.YtpapncecfleejaaL4Cmp
namespace Go.Proofs.Ytpapncecfleejaa.L4
set_option maxRecDepth 100000
open Go.ChangeShapes Go.WideShapes Go.ChangeAt Go.RowKit Mem Sl Ex L2
set_option linter.unusedVariables false

/-- What is left of a room behind a text; -1 if there is none. -/
def left (n : Int) (s : ByteArray) : Int := if n - s.size < 0 then -1 else n - s.size

def R.left (n : Int) (r : R) : Int := if L4.left n r.lo.text < 0 then -1 else L4.left (L4.left n r.lo.text) r.hi.text
theorem left_range (n : Int) (s : ByteArray) (h : n ≤ 1048576) : -1 ≤ left n s ∧ left n s ≤ 1048576 := by unfold left; split <;> omega
theorem Row.cells8 {w : World} {g : Nat} {t : TypeId} {a0 a1 a2 a3 a4 a5 a6 a7 : Value} (h : Row w g t #[a0, a1, a2, a3, a4, a5, a6, a7]) : w.cell? ⟨g, 0, none⟩ = some a0 ∧ w.cell? ⟨g, 1, none⟩ = some a1 ∧ w.cell? ⟨g, 2, none⟩ = some a2 ∧ w.cell? ⟨g, 3, none⟩ = some a3 ∧ w.cell? ⟨g, 4, none⟩ = some a4 ∧ w.cell? ⟨g, 5, none⟩ = some a5 ∧ w.cell? ⟨g, 6, none⟩ = some a6 ∧ w.cell? ⟨g, 7, none⟩ = some a7 := by
  refine ⟨?_, ?_, ?_, ?_, ?_, ?_, ?_, ?_⟩ <;> (rw [h.cell]; rfl)
/-- The range that came in, the result's cell and the variable stand; below w nothing has turned. -/
structure Tri (w wr : World) (t u : TypeId) (r : R) (x : Array Value) : Prop where
  r : Row wr w.heap.size t r.cells
  z : Row wr (w.heap.size + 1) u #[.bool false, .bool false, .int .i64 0, .int .i64 0, .string ⟨#[]⟩, .int .i64 0, .int .i64 0, .string ⟨#[]⟩]
  x : Row wr (w.heap.size + 1 + 1) u x
  b : Below w.heap.size w wr
theorem Tri.next {w wr w' : World} {t u : TypeId} {r : R} {x : Array Value} (h : Hid (Tri w wr t u r x)) (hb : Below wr.heap.size wr w') : Hid (Tri w w' t u r x) :=
  ⟨h.out.r.below hb h.out.r.inside, h.out.z.below hb h.out.z.inside, h.out.x.below hb h.out.x.inside, h.out.b.trans (hb.mono h.out.b.size)⟩
theorem Row.apart {w : World} {g g' : Nat} {t : TypeId} {cs : Array Value} (h : Row w g t cs) (i : Nat) (v : Value) (hne : g ≠ g') : Row (w.setCell ⟨g', i, none⟩ v) g t cs := (Below.heap_setCell w ⟨g', i, none⟩ v g hne).trans h
theorem Tri.put {w wr : World} {t u : TypeId} {r : R} {x : Array Value} (h : Hid (Tri w wr t u r x)) (i : Nat) (v : Value) : Hid (Tri w (wr.setCell ⟨w.heap.size + 1 + 1, i, none⟩ v) t u r (x.setIfInBounds i v)) :=
  ⟨Row.apart h.out.r i v (by omega), Row.apart h.out.z i v (by omega), h.out.x.put i v, h.out.b.setCell (by show w.heap.size ≤ w.heap.size + 1 + 1; omega) v⟩
end Go.Proofs.Ytpapncecfleejaa.L4
