/-
  The exact laws' helpers for keys and ranges: toKey, szKey, eqKey, toKeyRange, szKeyRange. Condition: a room of at most 2^20.
-/
import Derived.Test.YtenmdecooamaaaaDoorL4Cmp
namespace Go.Proofs.YtenmdecooamaaaaDoor.L4
open Go.ChangeShapes Go.WideShapes Go.ChangeAt Go.RowKit Mem Sl Ex L2
set_option linter.unusedVariables false

/-- What is left of a room behind a text; -1 if there is none. -/
def left (n : Int) (s : ByteArray) : Int := if n - s.size < 0 then -1 else n - s.size
theorem toKey_any (k : K) (w : World) :
    Calls Tryd.prog 19 #[k.v] w fun e w' => e = .returned k.v ∧ Below w.heap.size w w' := by
  obtain ⟨kd, n, s⟩ := k
  unfold K.v
  go_enter Tryd.func19, Tryd.ntmps19
  go_wp2
  refine bodyPost_ret (v := .agg #[.int .i64 kd, .int .i64 n, .string s]) (by simp [results, Tryd.results19, go_sem]) rfl ?_
  exact ⟨rfl, below_alloc (below_alloc (below_alloc (Below.refl _ _) _ (Nat.le_refl _)) _ (Nat.le_refl _)) _ (Nat.le_refl _)⟩
theorem szKey_any (k : K) (n : Int) (h : k.text.size ≤ maxLen) (hn0 : -1 ≤ n) (hn1 : n ≤ 1048576) (w : World) :
    Calls Tryd.prog 17 #[k.v, .int .i64 n] w fun e w' => e = .returned (.int .i64 (left n k.text)) ∧ Below w.heap.size w w' := by
  obtain ⟨kd, m, s⟩ := k
  unfold K.v left
  have hs : (s.size : Int) ≤ 9223372036854775807 := by have : s.size ≤ maxLen := h; unfold maxLen at this; omega
  have HB := Lib.hid (fun o => below_alloc (Below.refl w.heap.size w) o (Nat.le_refl _))
  clear h
  by_cases hlt : n - (s.size : Int) < 0
  · go_enter Tryd.func17, Tryd.ntmps17
    go_wp2
    go_ret
    exact ⟨rfl, HB.out _⟩
  · go_enter Tryd.func17, Tryd.ntmps17
    go_wp2
    go_ret
    exact ⟨rfl, HB.out _⟩
theorem eqKey_any (k : K) (w : World) :
    Calls Tryd.prog 20 #[k.v, k.v] w fun e w' => e = .returned (.bool true) ∧ Below w.heap.size w w' := by
  obtain ⟨kd, n, s⟩ := k
  unfold K.v
  have HB := Lib.hid (fun o p => below_alloc (below_alloc (Below.refl w.heap.size w) o (Nat.le_refl _)) p (Nat.le_refl _))
  go_enter Tryd.func20, Tryd.ntmps20
  go_wp2
  go_ret
  exact ⟨rfl, HB.out _ _⟩

def R.left (n : Int) (r : R) : Int := if L4.left n r.lo.text < 0 then -1 else L4.left (L4.left n r.lo.text) r.hi.text
theorem left_range (n : Int) (s : ByteArray) (h : n ≤ 1048576) : -1 ≤ left n s ∧ left n s ≤ 1048576 := by unfold left; split <;> omega
theorem Row.cells8 {w : World} {g : Nat} {t : TypeId} {a0 a1 a2 a3 a4 a5 a6 a7 : Value} (h : Row w g t #[a0, a1, a2, a3, a4, a5, a6, a7]) : w.cell? ⟨g, 0, none⟩ = some a0 ∧ w.cell? ⟨g, 1, none⟩ = some a1 ∧ w.cell? ⟨g, 2, none⟩ = some a2 ∧ w.cell? ⟨g, 3, none⟩ = some a3 ∧ w.cell? ⟨g, 4, none⟩ = some a4 ∧ w.cell? ⟨g, 5, none⟩ = some a5 ∧ w.cell? ⟨g, 6, none⟩ = some a6 ∧ w.cell? ⟨g, 7, none⟩ = some a7 := by
  refine ⟨?_, ?_, ?_, ?_, ?_, ?_, ?_, ?_⟩ <;> (rw [h.cell]; rfl)
/-- The range that came in, the result's cell and the variable stand; below w nothing has turned. -/
structure Tri (w wr : World) (t u : TypeId) (r : R) (x : Array Value) : Prop where
  r : Row wr w.heap.size t r.cells
  z : Row wr (w.heap.size + 1) u #[.bool false, .bool false, .int .i64 0, .int .i64 0, .string ⟨#[]⟩, .int .i64 0, .int .i64 0, .string ⟨#[]⟩]
  x : Row wr (w.heap.size + 1 + 1) u x
  b : Below w.heap.size w wr
theorem Tri.next {w wr w' : World} {t u : TypeId} {r : R} {x : Array Value} (h : Hid (Tri w wr t u r x)) (hb : Below wr.heap.size wr w') : Hid (Tri w w' t u r x) :=
  ⟨h.out.r.below hb h.out.r.inside, h.out.z.below hb h.out.z.inside, h.out.x.below hb h.out.x.inside, h.out.b.trans (hb.mono h.out.b.size)⟩
theorem Row.apart {w : World} {g g' : Nat} {t : TypeId} {cs : Array Value} (h : Row w g t cs) (i : Nat) (v : Value) (hne : g ≠ g') : Row (w.setCell ⟨g', i, none⟩ v) g t cs := (Below.heap_setCell w ⟨g', i, none⟩ v g hne).trans h
theorem Tri.put {w wr : World} {t u : TypeId} {r : R} {x : Array Value} (h : Hid (Tri w wr t u r x)) (i : Nat) (v : Value) : Hid (Tri w (wr.setCell ⟨w.heap.size + 1 + 1, i, none⟩ v) t u r (x.setIfInBounds i v)) :=
  ⟨Row.apart h.out.r i v (by omega), Row.apart h.out.z i v (by omega), h.out.x.put i v, h.out.b.setCell (by show w.heap.size ≤ w.heap.size + 1 + 1; omega) v⟩
end Go.Proofs.YtenmdecooamaaaaDoor.L4
