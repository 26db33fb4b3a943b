/-
  Words for memory, of no function: a block of cells that is known whole, and what stays of it; the bytes of the draw's code; the cursor of the specification's draws. No condition.
-/
import Derived.Test.YtpapncecfleejaaL1Base
import Derived.Below
import Derived.Laws.OwnMore
import Derived.Deep.Draws
import Derived.Laws.Rows
import Derived.Lib.BufferOwn
import Derived.Lib.SmallJoins
import Derived.Laws.Bits128
import Derived.Laws.BitsLemmas
namespace Go.Proofs.Ytpapncecfleejaa.Mem
set_option maxRecDepth 100000
open Go.RowKit

/-- Block g holds just these cells, and all may be written. -/
def Row (w : World) (g : Nat) (t : TypeId) (cs : Array Value) : Prop := w.heap[g]? = some (.cells cs t (0, 0))

section
variable {w w' : World} {g : Nat} {t : TypeId} {cs : Array Value}
theorem Row.inside (h : Row w g t cs) : g < w.heap.size := (Array.getElem?_eq_some_iff.1 h).1
theorem Row.cell (h : Row w g t cs) (i : Nat) : w.cell? ⟨g, i, none⟩ = cs[i]? := cell_of_row w g i cs t (0, 0) h
theorem Row.free (h : Row w g t cs) (i : Nat) : w.frozen? ⟨g, i, none⟩ = false := by
  have h' : w.heap[g]? = some (.cells cs t (0, 0)) := h
  simp [World.frozen?, h']
theorem Row.made (w : World) (t : TypeId) (cs : Array Value) : Row (w.alloc (.cells cs t)) w.heap.size t cs := heap_alloc_new w _
theorem Row.more (h : Row w g t cs) (o : Obj) : Row (w.alloc o) g t cs := (Below.heap_alloc w o g h.inside).trans h
theorem Row.draws (h : Row w g t cs) (n : Nat) : Row (w.drewN n) g t cs := h
theorem Row.put (h : Row w g t cs) (i : Nat) (u : Value) : Row (w.setCell ⟨g, i, none⟩ u) g t (cs.setIfInBounds i u) := by
  have h' : w.heap[g]? = some (.cells cs t (0, 0)) := h
  show (w.setCell ⟨g, i, none⟩ u).heap[g]? = _
  simp [World.setCell, Array.getElem?_modify, h']
theorem Row.grown {row : Option Nat} (h : Row w g t cs) (hb : w.grownBy w' row) (hg : some g ≠ row) : Row w' g t cs := (hb.block g h.inside hg).trans h
theorem Row.below {B : Nat} (h : Row w g t cs) (hb : Below B w w') (hg : g < B) : Row w' g t cs := (hb.block g hg).trans h
end

theorem grownBy_refl (w : World) (row : Option Nat) : w.grownBy w row := ⟨rfl, rfl, rfl, Nat.le_refl _, fun _ _ _ => rfl⟩
theorem grownBy_put (w : World) (g i : Nat) (u : Value) : w.grownBy (w.setCell ⟨g, i, none⟩ u) (some g) :=
  ⟨rfl, rfl, rfl, by simp [World.setCell], fun k _ hne => Below.heap_setCell _ _ _ _ (fun e => hne (by subst e; rfl))⟩
theorem grownBy_draws (w : World) (n : Nat) (row : Option Nat) : w.grownBy (w.drewN n) row := ⟨rfl, rfl, rfl, Nat.le_refl _, fun _ _ _ => rfl⟩
theorem grownBy_step {a w w' : World} {row : Option Nat} (h : a.grownBy w row) (k : w.grownBy w' row) : a.grownBy w' row := _root_.Go.Lib.grownBy_trans h k
theorem grownBy_none {w w' : World} (h : w.grownBy w' none) (row : Option Nat) : w.grownBy w' row := ⟨h.os, h.tape, h.output, h.size, fun k hk _ => h.block k hk (by simp)⟩
theorem below_of {B : Nat} {w w' : World} {row : Option Nat} (h : w.grownBy w' row) (hB : B ≤ w.heap.size) (hr : ∀ k, row = some k → B ≤ k) : Below B w w' := (Below.refl B w).grown h hB hr

theorem add_block (a : Addr) (n : Nat) : (a.add n).block = a.block := by unfold Addr.add; split <;> rfl

/-- '&' with a mask that is not negative. -/
theorem and_mask (n : Int) (m : Nat) (hm : m < 9223372036854775808) : 0 ≤ bits .and .i64 n m ∧ bits .and .i64 n m ≤ m := by
  have h1 : ((BitVec.ofInt 64 n).toNat &&& m) ≤ m := Nat.and_le_right
  have h2 : (m : Nat) % 2 ^ 64 = m := Nat.mod_eq_of_lt (by omega)
  have h3 : (BitVec.ofInt 64 n &&& BitVec.ofInt 64 (m : Int)).toNat = (BitVec.ofInt 64 n).toNat &&& m := by
    rw [BitVec.ofInt_natCast, BitVec.toNat_and, BitVec.toNat_ofNat, h2]
  show 0 ≤ IntKind.i64.wrap ((BitVec.ofInt 64 n &&& BitVec.ofInt 64 (m : Int)).toNat : Nat) ∧ IntKind.i64.wrap ((BitVec.ofInt 64 n &&& BitVec.ofInt 64 (m : Int)).toNat : Nat) ≤ m
  rw [h3, IntKind.wrap_i64]
  omega

/-- The bytes of a slice that lies below block B. -/
def Bytes (w : World) (B : Nat) (a : Option Addr) (len : Nat) : Prop :=
  ∀ j, j < len → ∃ ad n, a = some ad ∧ ad.block < B ∧ w.cell? (ad.add j) = some (.int .u8 n) ∧ 0 ≤ n ∧ n ≤ 255

theorem Bytes.below {w w' : World} {B : Nat} {a : Option Addr} {len : Nat} (h : Bytes w B a len) (hb : Below B w w') : Bytes w' B a len := fun j hj => by
  obtain ⟨ad, n, e, hB, hc, h0, h1⟩ := h j hj
  exact ⟨ad, n, e, hB, by rw [hb.cell (by rw [add_block]; exact hB)]; exact hc, h0, h1⟩

/-- Block c is a draw's cursor, of the call's own (from block B on): the code's slice, how far it was read, the mixed number. -/
def Cur (B : Nat) (w : World) (c : Nat) : Prop :=
  B ≤ c ∧ ∃ (a : Option Addr) (len cap i : Nat) (h : Int), Row w c 94 #[.slice a len cap, .int .i64 i, .int .i64 h] ∧ i ≤ len ∧ len ≤ 4611686018427387904 ∧ Bytes w B a len

theorem Cur.grown {B : Nat} {w w' : World} {c : Nat} {row : Option Nat} (h : Cur B w c) (hb : w.grownBy w' row) (hc : some c ≠ row) (hr : ∀ k, row = some k → B ≤ k) (hB : B ≤ w.heap.size) : Cur B w' c := by
  obtain ⟨h0, a, len, cap, i, x, h1, h2, h3, h4⟩ := h
  exact ⟨h0, a, len, cap, i, x, h1.grown hb hc, h2, h3, h4.below (below_of hb hB hr)⟩

/-- What a draw leaves: a number with P; the cursor; no old block but the cursor's has turned. -/
def Drawn (B c : Nat) (w : World) (P : Int → Prop) (e : Ending) (w' : World) : Prop := ∃ n, e = .returned (.int .i64 n) ∧ P n ∧ Cur B w' c ∧ w.grownBy w' (some c)
end Go.Proofs.Ytpapncecfleejaa.Mem
