/-
  The contracts of chapter 4's comparisons of the specification: l4Sign, CompareKeys, CompareBytes, InRangeOf. Conditions: texts of at most 2^48 bytes.
-/
import Derived.Test.YtpapncecfleejaaL4Sp
namespace Go.Proofs.Ytpapncecfleejaa.L4
set_option maxRecDepth 100000
open Go.Op (bytesLess)
open Go.ChangeShapes Go.WideShapes Go.ChangeAt Go.RowKit Mem Sl Ex L2
set_option linter.unusedVariables false


/-- A boxed key stands in world w. -/
def Box (w : World) (g : Nat) (t : TypeId) (k : K) : Prop := Row w g t k.cells
theorem Box.facts {w : World} {g : Nat} {t : TypeId} {kd n : Int} {s : ByteArray} (h : Box w g t ⟨kd, n, s⟩) : w.cell? ⟨g, 0, none⟩ = some (.int .i64 kd) ∧ w.cell? ⟨g, 1, none⟩ = some (.int .i64 n) ∧ w.cell? ⟨g, 2, none⟩ = some (.string s) := by
  have h' : Row w g t #[.int .i64 kd, .int .i64 n, .string s] := h
  have c0 := h'.cell 0
  have c1 := h'.cell 1
  have c2 := h'.cell 2
  simp at c0 c1 c2
  exact ⟨c0, c1, c2⟩
theorem Box.below {w w' : World} {g : Nat} {t : TypeId} {k : K} (h : Box w g t k) (hb : Below w.heap.size w w') : Box w' g t k := Row.below h hb (Row.inside h)
theorem Box.made (w : World) (t : TypeId) (k : K) : Box (w.alloc (.cells k.cells t)) w.heap.size t k := Row.made w t k.cells
theorem Box.more {w : World} {g : Nat} {t : TypeId} {k : K} (h : Box w g t k) (o : Obj) : Box (w.alloc o) g t k := Row.more h o

theorem string_gtr (t : TypeId) (a b : ByteArray) : binOp .gtr t (.string a) (.string b) = pure (.bool (!(bytesLess a.toList b.toList) && !(a.toList == b.toList))) := by simp [binOp, Op.stringOp]
theorem cmpK_bad1 {a b : K} (h : isK a = false) : cmpK a b = 0 := by simp [cmpK, h]
theorem cmpK_bad2 {a b : K} (h : isK b = false) : cmpK a b = 0 := by simp [cmpK, h]
theorem cmpK_kind {a b : K} (ha : isK a = true) (hb : isK b = true) (h : ¬ a.kind = b.kind) : cmpK a b = sgn (decide (a.kind < b.kind)) true := by simp [cmpK, ha, hb, h]
theorem cmpK_n {a b : K} (ha : isK a = true) (hb : isK b = true) (h : a.kind = b.kind) (h2 : ¬ a.n = b.n) : cmpK a b = sgn (decide (a.n < b.n)) true := by simp [cmpK, ha, hb, h, h2]
theorem cmpK_t {a b : K} (ha : isK a = true) (hb : isK b = true) (h : a.kind = b.kind) (h2 : a.n = b.n) : cmpK a b = sgn (bytesLess a.text.toList b.text.toList) (!(bytesLess a.text.toList b.text.toList) && !(a.text.toList == b.text.toList)) := by
  rw [ByteArray.toList_eq, ByteArray.toList_eq]
  simp [cmpK, ha, hb, h, h2, cmpL, K.t]

def toU (l : List Int) : List UInt8 := l.map fun n => UInt8.ofNat n.toNat
theorem strOf_toList (l : List Int) : (strOfNums l).toList = toU l := by rw [ByteArray.toList_eq, strOfNums_data]; rfl

/-! ### ranges -/
structure R where
  hl : Bool
  hh : Bool
  lo : K
  hi : K
def R.v (r : R) : Value := .agg #[.bool r.hl, .bool r.hh, .int .i64 r.lo.kind, .int .i64 r.lo.n, .string r.lo.text, .int .i64 r.hi.kind, .int .i64 r.hi.n, .string r.hi.text]
def R.cells (r : R) : Array Value := #[.bool r.hl, .bool r.hh, .int .i64 r.lo.kind, .int .i64 r.lo.n, .string r.lo.text, .int .i64 r.hi.kind, .int .i64 r.hi.n, .string r.hi.text]
def inR (k : K) (r : R) : Bool := isK k && ((!r.hl || isK r.lo) && ((!r.hh || isK r.hi) && ((!r.hl || decide (cmpK r.lo k ≤ 0)) && (!r.hh || decide (cmpK k r.hi ≤ 0)))))
/-- A key and a range stand boxed, and below w nothing has turned. -/
structure St (w wr : World) (kt rt : TypeId) (k : K) (r : R) : Prop where
  k : Row wr w.heap.size kt k.cells
  r : Row wr (w.heap.size + 1) rt r.cells
  b : Below w.heap.size w wr
theorem St.next {w wr w' : World} {kt rt : TypeId} {k : K} {r : R} (h : Hid (St w wr kt rt k r)) (hb : Below wr.heap.size wr w') : Hid (St w w' kt rt k r) :=
  ⟨h.out.k.below hb h.out.k.inside, h.out.r.below hb h.out.r.inside, h.out.b.trans (hb.mono h.out.b.size)⟩
theorem St.facts {w wr : World} {kt rt : TypeId} {kd n : Int} {s : ByteArray} {hl hh : Bool} {ka na : Int} {sa : ByteArray} {kb nb : Int} {sb : ByteArray} (h : Hid (St w wr kt rt ⟨kd, n, s⟩ ⟨hl, hh, ⟨ka, na, sa⟩, ⟨kb, nb, sb⟩⟩)) :
    (wr.cell? ⟨w.heap.size, 0, none⟩ = some (.int .i64 kd) ∧ wr.cell? ⟨w.heap.size, 1, none⟩ = some (.int .i64 n) ∧ wr.cell? ⟨w.heap.size, 2, none⟩ = some (.string s)) ∧
    wr.cell? ⟨w.heap.size + 1, 0, none⟩ = some (.bool hl) ∧ wr.cell? ⟨w.heap.size + 1, 1, none⟩ = some (.bool hh) ∧ wr.cell? ⟨w.heap.size + 1, 2, none⟩ = some (.int .i64 ka) ∧ wr.cell? ⟨w.heap.size + 1, 3, none⟩ = some (.int .i64 na) ∧ wr.cell? ⟨w.heap.size + 1, 4, none⟩ = some (.string sa) ∧ wr.cell? ⟨w.heap.size + 1, 5, none⟩ = some (.int .i64 kb) ∧ wr.cell? ⟨w.heap.size + 1, 6, none⟩ = some (.int .i64 nb) ∧ wr.cell? ⟨w.heap.size + 1, 7, none⟩ = some (.string sb) := by
  have h1 : Row wr w.heap.size kt #[.int .i64 kd, .int .i64 n, .string s] := h.out.k
  have h2 : Row wr (w.heap.size + 1) rt #[.bool hl, .bool hh, .int .i64 ka, .int .i64 na, .string sa, .int .i64 kb, .int .i64 nb, .string sb] := h.out.r
  refine ⟨⟨?_, ?_, ?_⟩, ?_, ?_, ?_, ?_, ?_, ?_, ?_, ?_⟩
  all_goals first | (rw [h1.cell]; rfl) | (rw [h2.cell]; rfl)

end Go.Proofs.Ytpapncecfleejaa.L4
