/-
  A pack, laid by my program pack.py: the texts L1Base, Mem, Frame, Args, L1Min, L1Div, Sl, Ex, L2Num, L2App, L2Rd, L2Rd2, Law, Draw1, Sd, Sd2, one behind the other; each begins with its own words.
-/
import Derived.Test.YtephiilicebdcaaRows
import Derived.WalkKit
import Derived.ProofKit
import Derived.OpenShut
import Derived.BigQuiet
import Derived.Deep.QuietTactic
import Derived.Lib.Hide
import Derived.Below
import Derived.Laws.OwnMore
import Derived.Deep.Draws
import Derived.Laws.Rows
import Derived.Lib.BufferOwn
import Derived.Lib.SmallJoins
import Derived.Laws.Bits128
import Derived.Laws.BitsLemmas
import Derived.Carry
import Derived.ChangeSame
import Derived.ChangeSlices
import Derived.SizedLaws
import Derived.Outline
import Derived.IntWalk
import Derived.OwnWalk
import Derived.Maps.AppendAt
import Derived.Laws.AppendOwnNone
import Derived.LoopTactic
import Derived.Laws.BytesArg
import Derived.Laws.BitsAllLaws
/-
  The contracts of chapter 1's small functions, specification and program alike: InRange, l1In, Min, Max, CeilDiv, Mod. No condition but that the integers fit 64 bits.
-/
namespace Go.Proofs.Ytephiilicebdcaa.L1
set_option maxRecDepth 100000
open Go.ChangeShapes Go.WideShapes Go.ChangeAt Go.RowKit

def inB (n lo hi : Int) : Bool := decide (lo ≤ n) && decide (n ≤ hi)
theorem inB_true {n lo hi : Int} : inB n lo hi = true ↔ lo ≤ n ∧ n ≤ hi := by unfold inB; simp
theorem inB_false {n lo hi : Int} : inB n lo hi = false ↔ ¬ (lo ≤ n ∧ n ≤ hi) := by
  rw [← inB_true]; simp

theorem ret_bool {a b : Bool} (h : a = b) : Ending.returned (.bool a) = .returned (.bool b) := by rw [h]
theorem ret_int {k : IntKind} {a b : Int} (h : a = b) : Ending.returned (.int k a) = .returned (.int k b) := by rw [h]

theorem inRange_any (n lo hi : Int) (w : World) :
    Calls Try.prog 48 #[.int .i64 n, .int .i64 lo, .int .i64 hi] w fun e w' => e = .returned (.bool (inB n lo hi)) ∧ w = w' := by
  by_cases h1 : lo ≤ n <;> by_cases h2 : n ≤ hi <;>
    (go_enter Try.func48, Try.ntmps48
     go_wp2
     go_ret
     exact ⟨ret_bool (by unfold inB; simp [h1, h2]), rfl⟩)

theorem l1In_any (n lo hi : Int) (w : World) :
    Calls Try.prog 63 #[.int .i64 n, .int .i64 lo, .int .i64 hi] w fun e w' => e = .returned (.bool (inB n lo hi)) ∧ w = w' := by
  by_cases h1 : lo ≤ n <;> by_cases h2 : n ≤ hi <;>
    (go_enter Try.func63, Try.ntmps63
     go_wp2
     go_ret
     exact ⟨ret_bool (by unfold inB; simp [h1, h2]), rfl⟩)


end Go.Proofs.Ytephiilicebdcaa.L1

/-
  Words for memory, of no function: a block of cells that is known whole, and what stays of it; the bytes of the draw's code; the cursor of the specification's draws. No condition.
-/
namespace Go.Proofs.Ytephiilicebdcaa.Mem
set_option maxRecDepth 100000
open Go.RowKit

/-- Block g holds just these cells, and all may be written. -/
def Row (w : World) (g : Nat) (t : TypeId) (cs : Array Value) : Prop := w.heap[g]? = some (.cells cs t (0, 0))

section
variable {w w' : World} {g : Nat} {t : TypeId} {cs : Array Value}
theorem Row.inside (h : Row w g t cs) : g < w.heap.size := (Array.getElem?_eq_some_iff.1 h).1
theorem Row.cell (h : Row w g t cs) (i : Nat) : w.cell? ⟨g, i, none⟩ = cs[i]? := cell_of_row w g i cs t (0, 0) h
theorem Row.free (h : Row w g t cs) (i : Nat) : w.frozen? ⟨g, i, none⟩ = false := by
  have h' : w.heap[g]? = some (.cells cs t (0, 0)) := h
  simp [World.frozen?, h']
theorem Row.made (w : World) (t : TypeId) (cs : Array Value) : Row (w.alloc (.cells cs t)) w.heap.size t cs := heap_alloc_new w _
theorem Row.more (h : Row w g t cs) (o : Obj) : Row (w.alloc o) g t cs := (Below.heap_alloc w o g h.inside).trans h
theorem Row.draws (h : Row w g t cs) (n : Nat) : Row (w.drewN n) g t cs := h
theorem Row.put (h : Row w g t cs) (i : Nat) (u : Value) : Row (w.setCell ⟨g, i, none⟩ u) g t (cs.setIfInBounds i u) := by
  have h' : w.heap[g]? = some (.cells cs t (0, 0)) := h
  show (w.setCell ⟨g, i, none⟩ u).heap[g]? = _
  simp [World.setCell, Array.getElem?_modify, h']
theorem Row.grown {row : Option Nat} (h : Row w g t cs) (hb : w.grownBy w' row) (hg : some g ≠ row) : Row w' g t cs := (hb.block g h.inside hg).trans h
theorem Row.below {B : Nat} (h : Row w g t cs) (hb : Below B w w') (hg : g < B) : Row w' g t cs := (hb.block g hg).trans h
end

theorem grownBy_refl (w : World) (row : Option Nat) : w.grownBy w row := ⟨rfl, rfl, rfl, Nat.le_refl _, fun _ _ _ => rfl⟩
theorem grownBy_put (w : World) (g i : Nat) (u : Value) : w.grownBy (w.setCell ⟨g, i, none⟩ u) (some g) :=
  ⟨rfl, rfl, rfl, by simp [World.setCell], fun k _ hne => Below.heap_setCell _ _ _ _ (fun e => hne (by subst e; rfl))⟩
theorem grownBy_draws (w : World) (n : Nat) (row : Option Nat) : w.grownBy (w.drewN n) row := ⟨rfl, rfl, rfl, Nat.le_refl _, fun _ _ _ => rfl⟩
theorem grownBy_step {a w w' : World} {row : Option Nat} (h : a.grownBy w row) (k : w.grownBy w' row) : a.grownBy w' row := _root_.Go.Lib.grownBy_trans h k
theorem grownBy_none {w w' : World} (h : w.grownBy w' none) (row : Option Nat) : w.grownBy w' row := ⟨h.os, h.tape, h.output, h.size, fun k hk _ => h.block k hk (by simp)⟩
theorem below_of {B : Nat} {w w' : World} {row : Option Nat} (h : w.grownBy w' row) (hB : B ≤ w.heap.size) (hr : ∀ k, row = some k → B ≤ k) : Below B w w' := (Below.refl B w).grown h hB hr

theorem add_block (a : Addr) (n : Nat) : (a.add n).block = a.block := by unfold Addr.add; split <;> rfl

/-- '&' with a mask that is not negative. -/
theorem and_mask (n : Int) (m : Nat) (hm : m < 9223372036854775808) : 0 ≤ bits .and .i64 n m ∧ bits .and .i64 n m ≤ m := by
  have h1 : ((BitVec.ofInt 64 n).toNat &&& m) ≤ m := Nat.and_le_right
  have h2 : (m : Nat) % 2 ^ 64 = m := Nat.mod_eq_of_lt (by omega)
  have h3 : (BitVec.ofInt 64 n &&& BitVec.ofInt 64 (m : Int)).toNat = (BitVec.ofInt 64 n).toNat &&& m := by
    rw [BitVec.ofInt_natCast, BitVec.toNat_and, BitVec.toNat_ofNat, h2]
  show 0 ≤ IntKind.i64.wrap ((BitVec.ofInt 64 n &&& BitVec.ofInt 64 (m : Int)).toNat : Nat) ∧ IntKind.i64.wrap ((BitVec.ofInt 64 n &&& BitVec.ofInt 64 (m : Int)).toNat : Nat) ≤ m
  rw [h3, IntKind.wrap_i64]
  omega

/-- The bytes of a slice that lies below block B. -/
def Bytes (w : World) (B : Nat) (a : Option Addr) (len : Nat) : Prop :=
  ∀ j, j < len → ∃ ad n, a = some ad ∧ ad.block < B ∧ w.cell? (ad.add j) = some (.int .u8 n) ∧ 0 ≤ n ∧ n ≤ 255

theorem Bytes.below {w w' : World} {B : Nat} {a : Option Addr} {len : Nat} (h : Bytes w B a len) (hb : Below B w w') : Bytes w' B a len := fun j hj => by
  obtain ⟨ad, n, e, hB, hc, h0, h1⟩ := h j hj
  exact ⟨ad, n, e, hB, by rw [hb.cell (by rw [add_block]; exact hB)]; exact hc, h0, h1⟩

/-- Block c is a draw's cursor, of the call's own (from block B on): the code's slice, how far it was read, the mixed number. -/
def Cur (B : Nat) (w : World) (c : Nat) : Prop :=
  B ≤ c ∧ ∃ (a : Option Addr) (len cap i : Nat) (h : Int), Row w c 88 #[.slice a len cap, .int .i64 i, .int .i64 h] ∧ i ≤ len ∧ len ≤ 4611686018427387904 ∧ Bytes w B a len

theorem Cur.grown {B : Nat} {w w' : World} {c : Nat} {row : Option Nat} (h : Cur B w c) (hb : w.grownBy w' row) (hc : some c ≠ row) (hr : ∀ k, row = some k → B ≤ k) (hB : B ≤ w.heap.size) : Cur B w' c := by
  obtain ⟨h0, a, len, cap, i, x, h1, h2, h3, h4⟩ := h
  exact ⟨h0, a, len, cap, i, x, h1.grown hb hc, h2, h3, h4.below (below_of hb hB hr)⟩

/-- What a draw leaves: a number with P; the cursor; no old block but the cursor's has turned. -/
def Drawn (B c : Nat) (w : World) (P : Int → Prop) (e : Ending) (w' : World) : Prop := ∃ n, e = .returned (.int .i64 n) ∧ P n ∧ Cur B w' c ∧ w.grownBy w' (some c)
end Go.Proofs.Ytephiilicebdcaa.Mem

/-
  The frame of every law's proof, of no function: arguments read behind the call as before if below the heap's old size nothing has turned; a law that returned true has kept its promise. No condition.
-/
namespace Go.Proofs.Ytephiilicebdcaa.Frame
set_option maxRecDepth 100000
open Go.ChangeShapes Go.WideShapes Go.ChangeAt Go.RowKit

section
variable {H : Type} {enc : TypeId × Value → H} {P : Program}

theorem trodAll_below (hl : laidOutB P = true) {W W' : World} (hb : Below W.heap.size W W') (sp : Nat → Bool) :
    ∀ {ts : List TypeId} {vs : List Value} {ds : List (DataW H)} {ps : List MemPlace}, (ts.all fun t => P.readableRec t && decide (t < P.types.size)) = true →
    DataW.TrodAll enc P W 0 (fun _ => true) true ts vs ds ps → (∀ x ∈ ps, x.block < W.heap.size) → (∀ p ∈ ps, sp p.block = true) → DataW.TrodAll enc P W' 0 sp true ts vs ds ps
  | [], vs, ds, ps, _, h, _, _ => by
    obtain ⟨rfl, rfl, rfl⟩ := trodAll_nil h
    exact trodAll_mk0
  | t :: ts, vs, ds, ps, hr, h, hlt, hs => by
    simp only [List.all_cons, Bool.and_eq_true, decide_eq_true_eq] at hr
    obtain ⟨v, vs', d, ds', p, q, rfl, rfl, rfl, h0, hr0⟩ := trodAll_cons h
    refine trodAll_cons_mk (WideElems.Trod_stays hl hr.1.1 hr.1.2 h0 (fun x hx => hb.same (hlt x (by simp [hx]))) (fun x hx => hs x (by simp [hx]))) ?_
    exact trodAll_below hl hb sp hr.2 hr0 (fun x hx => hlt x (by simp [hx])) (fun x hx => hs x (by simp [hx]))

/-- A LAW's END: it returned true, and below the heap's old size nothing has turned. -/
theorem law_post {f : Func} {s : ChangeSpec} {apart fresh handsOn : Bool} {W W' : World} {args : Array Value} {ds : List (DataW H)} {p : List MemPlace} {tb : TypeId}
    (hvars : s.vars = []) (hW : DataW.Whole enc P f.params.toList s.vars apart W args.toList ds [] p)
    (hA : DataW.TrodAll enc P W 0 (fun _ => true) true f.params.toList args.toList ds p)
    (hs1 : (s.fn H (ds ++ [])).results = [.lit (.bool true)]) (hs2 : (s.fn H (ds ++ [])).args = ds) (hs3 : (s.fn H (ds ++ [])).vars = [])
    (hl : laidOutB P = true) (hr : (f.params.toList.all fun t => P.readableRec t && decide (t < P.types.size)) = true)
    (htb : f.resultTypes = #[tb]) (hb2 : P.underlying tb = some .bool) (hb : Below W.heap.size W W') :
    s.post enc P f apart fresh handsOn false W args (.bool true) W' := by
  have hlt : ∀ x ∈ p, x.block < W.heap.size := fun x hx => hW.lt x hx
  refine ⟨ds, [], p, [], p, [], hW, ?_, ?_, ?_, hb.frame _, fun h => by cases h⟩
  · rw [hs1, htb]; exact trodAll_mk1 (shut_bool hb2 _)
  · rw [hs2]; exact trodAll_below hl hb _ hr hA hlt (fun x hx => by simpa using hlt x hx)
  · rw [hs3, hvars]; rfl
end
end Go.Proofs.Ytephiilicebdcaa.Frame

/-
  How a law's arguments open, of no function: a slice of bytes that came in reads as a list of bytes. No condition but the form's own reach.
-/
namespace Go.Proofs.Ytephiilicebdcaa.Args
set_option maxRecDepth 100000
open Go.ChangeShapes Go.WideShapes Go.ChangeAt Go.RowKit Mem

/-- The slice's places from a on, below block B, hold the bytes l. -/
def Holds (w : World) (B : Nat) (a : Option Addr) (l : List UInt8) : Prop :=
  ∀ j (hj : j < l.length), ∃ ad, a = some ad ∧ ad.block < B ∧ w.cell? (ad.add j) = some (.int .u8 (l[j].toNat : Int))
theorem Holds.bytes {w : World} {B : Nat} {a : Option Addr} {l : List UInt8} (h : Holds w B a l) : Bytes w B a l.length := fun j hj => by
  obtain ⟨ad, e, hb, hc⟩ := h j hj
  exact ⟨ad, _, e, hb, hc, by omega, by have := l[j].toNat_lt; omega⟩
theorem Holds.below {w w' : World} {B : Nat} {a : Option Addr} {l : List UInt8} (h : Holds w B a l) (hb : Below B w w') : Holds w' B a l := fun j hj => by
  obtain ⟨ad, e, hB, hc⟩ := h j hj
  exact ⟨ad, e, hB, by rw [hb.cell (by rw [add_block]; exact hB)]; exact hc⟩

section
variable {H : Type} {enc : TypeId × Value → H} {P : Program}

theorem open_bytes {W : World} {t e : TypeId} (ht : P.underlying t = some (.slice e)) (he : P.underlying e = some (.int .u8)) (hc : P.cellsOf e = 1) (hbe : P.bytesOf e = 1) {b0 : Nat} {v : Value} {d : DataW H} {ps : List MemPlace}
    (hval : Value.okWide P W .any b0 t v) (h0 : DataW.Trod enc P W 0 (fun _ => true) true t v d ps) (hlt : ∀ x ∈ ps, x.block < W.heap.size)
    (hsz : ∀ elems spare, d = .slice elems spare → (elems.length + spare.length) * P.bytesOf e ≤ reachBytes) :
    ∃ (a : Option Addr) (l : List UInt8) (cap : Nat), v = .slice a l.length cap ∧ l.length ≤ cap ∧ cap ≤ 140737488351232 ∧ Holds W W.heap.size a l := by
  obtain ⟨a0, len, cap, rfl⟩ := okWide_slice ht hval
  obtain ⟨fuel, hf⟩ := h0
  rcases open_ints ht he hc hf with ⟨hcs, hx⟩ | ⟨a, len', cap', zs, hcs, _, hl, hm, hz, hx, hcell, hwz⟩
  · simp [Value.cells] at hcs
    obtain ⟨rfl, rfl, rfl⟩ := hcs
    exact ⟨none, [], 0, rfl, Nat.le_refl _, by omega, fun j hj => by simp at hj⟩
  · simp [Value.cells] at hcs
    obtain ⟨rfl, rfl, rfl⟩ := hcs
    simp only [Prod.mk.injEq] at hx
    obtain ⟨rfl, rfl⟩ := hx
    simp at hz
    have hs := hsz _ _ rfl
    rw [hbe] at hs
    simp [lits] at hs
    have hr : reachBytes = 140737488351232 := rfl
    refine ⟨some a, (zs.take len).map fun n => UInt8.ofNat n.toNat, cap, by simp; omega, by simp; omega, by omega, fun j hj => ?_⟩
    simp at hj
    refine ⟨a, rfl, ?_, ?_⟩
    · have := hlt (MemPlace.cell a.block (a.off + 0)) ?_
      · simpa [MemPlace.block] using this
      · exact List.mem_map.2 ⟨0, List.mem_range.2 (by omega), rfl⟩
    · rw [hcell j (by omega)]
      have hw := hwz (zs[j]'(by omega)) (List.getElem_mem _)
      have hw' : 0 ≤ zs[j]'(by omega) ∧ zs[j]'(by omega) ≤ 255 := by
        simpa [Lit.wf, IntKind.min, IntKind.max, IntKind.signed, IntKind.bits] using hw
      simp [List.getD_eq_getElem?_getD, List.getElem?_eq_getElem (show j < zs.length by omega)]
      omega
end
end Go.Proofs.Ytephiilicebdcaa.Args

/-
  The contracts of Min and Max, specification and program alike (the program's go through the variadic function extremes). No condition but that the integers fit 64 bits.
-/
namespace Go.Proofs.Ytephiilicebdcaa.L1
set_option maxRecDepth 100000
open Go.ChangeShapes Go.WideShapes Go.ChangeAt Go.RowKit


theorem specMax_any (a b : Int) (w : World) :
    Calls Try.prog 75 #[.int .i64 a, .int .i64 b] w fun e w' => e = .returned (.int .i64 (max a b)) ∧ w = w' := by
  by_cases h : a < b <;>
    (go_enter Try.func75, Try.ntmps75
     go_wp2
     go_ret
     exact ⟨ret_int (by omega), rfl⟩)

theorem extremes_one (a b : Int) (B : Nat) (w : World) (hc : w.cell? ⟨B, 0, none⟩ = some (.int .i64 b)) :
    Calls Try.prog 83 #[.int .i64 a, .slice (some ⟨B, 0, none⟩) 1 1] w fun e w' => e = .returned (.tuple #[.int .i64 (min a b), .int .i64 (max a b)]) ∧ w = w' := by
  go_enter Try.func83, Try.ntmps83
  go_wp2
  go_loop [14, 6, 7] (fun i l g => (i = .int .i64 0 ∧ l = .int .i64 a ∧ g = .int .i64 a) ∨ (i = .int .i64 1 ∧ l = .int .i64 (min a b) ∧ g = .int .i64 (max a b))) (fun i _ _ => 1 - (intOf i).toNat)
  case atStart => exact Or.inl ⟨rfl, rfl, rfl⟩
  case round =>
    rcases hrel with ⟨rfl, rfl, rfl⟩ | ⟨rfl, rfl, rfl⟩
    · by_cases h1 : b < a <;> by_cases h2 : b > a
      · omega
      all_goals
        go_wp2
        go_round
        case rel => exact Or.inr ⟨by go_num, by congr 1; omega, by congr 1; omega⟩
        case measure => simp [intOf]
    · go_wp2
      go_ret2
      exact ⟨rfl, rfl⟩

theorem min_any (a b : Int) (w : World) :
    Calls Try.prog 64 #[.int .i64 a, .int .i64 b] w fun e w' => e = .returned (.int .i64 (min a b)) ∧ Grown w w' := by
  have hc : (w.alloc (.cells #[.int .i64 b] 3)).cell? ⟨w.heap.size, 0, none⟩ = some (.int .i64 b) := by simp [go_sem]
  go_enter Try.func64, Try.ntmps64
  go_wp2_with (go_at_call 83; refine (extremes_one _ _ _ _ hc).mono ?_; rintro e w' ⟨rfl, rfl⟩)
  go_ret
  exact ⟨rfl, by repeat (first | exact Grown.refl _ | apply Grown.drew | apply Grown.alloc)⟩

theorem max_any (a b : Int) (w : World) :
    Calls Try.prog 73 #[.int .i64 a, .int .i64 b] w fun e w' => e = .returned (.int .i64 (max a b)) ∧ Grown w w' := by
  have hc : (w.alloc (.cells #[.int .i64 b] 3)).cell? ⟨w.heap.size, 0, none⟩ = some (.int .i64 b) := by simp [go_sem]
  go_enter Try.func73, Try.ntmps73
  go_wp2_with (go_at_call 83; refine (extremes_one _ _ _ _ hc).mono ?_; rintro e w' ⟨rfl, rfl⟩)
  go_ret
  exact ⟨rfl, by repeat (first | exact Grown.refl _ | apply Grown.drew | apply Grown.alloc)⟩

end Go.Proofs.Ytephiilicebdcaa.L1

/-
  The contracts of CeilDiv and Mod, specification and program alike. No condition but that the integers fit 64 bits.
-/
namespace Go.Proofs.Ytephiilicebdcaa.L1
set_option maxRecDepth 100000
open Go.ChangeShapes Go.WideShapes Go.ChangeAt Go.RowKit

def maxV : Int := 1000000000000
def ceilDiv (a b : Int) : Int := if inB a 0 1000000000000 && inB b 1 1000000000000 then (a + b - 1) / b else 0
def modV (p q : Int) : Int := if inB q 1 1000000000000 then p % q else 0



theorem emod_spec (p q : Int) (h1 : 1 ≤ q) : p.tmod q % q = p % q := by
  have hq : (q.natAbs : Int) = q := by omega
  rw [Int.tmod_eq_emod]
  split
  · simp
  · rw [hq]; simp
theorem emod_neg (p q : Int) (h1 : 1 ≤ q) (h : p.tmod q < 0) : p.tmod q + q = p % q := by
  have h2 := Int.emod_nonneg p (show q ≠ 0 by omega)
  have hq : (q.natAbs : Int) = q := by omega
  rw [Int.tmod_eq_emod] at h ⊢
  by_cases hc : 0 ≤ p ∨ q ∣ p
  · rw [if_pos hc] at h; omega
  · rw [if_neg hc] at h ⊢; omega
theorem emod_pos (p q : Int) (h1 : 1 ≤ q) (h : 0 ≤ p.tmod q) : p.tmod q = p % q := by
  have h2 := Int.emod_lt_of_pos p (show 0 < q by omega)
  have hq : (q.natAbs : Int) = q := by omega
  rw [Int.tmod_eq_emod] at h ⊢
  by_cases hc : 0 ≤ p ∨ q ∣ p
  · rw [if_pos hc]; simp
  · rw [if_neg hc] at h; omega



end Go.Proofs.Ytephiilicebdcaa.L1

/-
  Words for slices of one-cell elements, of no function: a slice that reads as a list; a slice that the call owns; several owned things that lie apart (each may be written without turning another). No condition.
-/
namespace Go.Proofs.Ytephiilicebdcaa.Sl
set_option maxRecDepth 100000
open Go.ChangeShapes Go.WideShapes Go.ChangeAt Go.RowKit Mem

/-- The slice at a reads as l; it lies below block B. -/
def Reads (w : World) (B : Nat) (a : Option Addr) (l : List Value) : Prop :=
  ∀ j (hj : j < l.length), ∃ ad, a = some ad ∧ ad.block < B ∧ w.cell? (ad.add j) = some l[j]

def ints (k : IntKind) (l : List Int) : List Value := l.map (Value.int k)
@[simp] theorem ints_length (k : IntKind) (l : List Int) : (ints k l).length = l.length := List.length_map ..
theorem ints_append (k : IntKind) (l m : List Int) : ints k (l ++ m) = ints k l ++ ints k m := List.map_append
theorem ints_get (k : IntKind) (l : List Int) (j : Nat) (h : j < l.length) : (ints k l)[j]'(by simpa using h) = .int k l[j] := List.getElem_map ..
theorem ints_one (k : IntKind) (l : List Int) : ∀ u ∈ ints k l, u.oneCell' = true := ints_oneCell k l

theorem add_add (a : Addr) (i j : Nat) : (a.add i).add j = a.add (i + j) := by
  unfold Addr.add
  by_cases hi : i = 0 <;> by_cases hj : j = 0 <;> simp [hi, hj, Nat.add_assoc]

section
variable {w w' : World} {B B' : Nat} {a : Option Addr} {l : List Value}
theorem Reads.nil : Reads w B a [] := fun _ hj => absurd hj (by simp)
theorem Reads.keep (h : Reads w B a l) (hk : ∀ p : Addr, p.block < B → w'.cell? p = w.cell? p) : Reads w' B a l := fun j hj => by
  obtain ⟨ad, e, hb, hc⟩ := h j hj
  exact ⟨ad, e, hb, (hk _ (by rw [add_block]; exact hb)).trans hc⟩
theorem Reads.below (h : Reads w B a l) (hb : Below B w w') : Reads w' B a l := h.keep fun _ hp => hb.cell hp
theorem Reads.more (h : Reads w B a l) (hB : B ≤ B') : Reads w B' a l := fun j hj => by
  obtain ⟨ad, e, hb, hc⟩ := h j hj
  exact ⟨ad, e, by omega, hc⟩
theorem Reads.at_ (h : Reads w B a l) (j : Nat) (hj : j < l.length) : ∃ ad, a = some ad ∧ ad.block < B ∧ w.cell? (ad.add j) = some l[j] := h j hj
theorem Reads.int {k : IntKind} {l : List Int} (h : Reads w B a (ints k l)) (j : Nat) (hj : j < l.length) : ∃ ad, a = some ad ∧ ad.block < B ∧ w.cell? (ad.add j) = some (.int k l[j]) := by
  obtain ⟨ad, e, hb, hc⟩ := h j (by simpa using hj)
  exact ⟨ad, e, hb, by rw [hc, ints_get k l j hj]⟩
/-- A part of it: the model's address keeps its 'if'. -/
theorem Reads.part (h : Reads w B a l) (s t m : Nat) (hst : s ≤ t) (ht : t ≤ l.length) (hm : t ≤ m) : Reads w B (if m = s then a else a.map (·.add s)) ((l.drop s).take (t - s)) := fun j hj => by
  have hj' : j < t - s := by simp at hj; omega
  obtain ⟨ad, e, hb, hc⟩ := h (s + j) (by omega)
  rw [if_neg (by omega)]
  subst e
  refine ⟨ad.add s, rfl, by rw [add_block]; exact hb, ?_⟩
  rw [add_add, hc]
  simp
theorem Reads.partInts {k : IntKind} {l : List Int} (h : Reads w B a (ints k l)) (s t m : Nat) (hst : s ≤ t) (ht : t ≤ l.length) (hm : t ≤ m) : Reads w B (if m = s then a else a.map (·.add s)) (ints k ((l.drop s).take (t - s))) := by
  have := h.part s t m hst (by simpa using ht) hm
  rwa [show ints k ((l.drop s).take (t - s)) = ((ints k l).drop s).take (t - s) by simp [ints, List.map_drop, List.map_take]]
end

/-- A slice of ints that the call owns: its row lies from block B on. -/
def Own (w : World) (B : Nat) (e : TypeId) (k : IntKind) (a : Option Addr) (c : Nat) (l : List Int) : Prop :=
  w.ownsRow B e 1 (.slice a l.length c) l.length (ints k l)

section
variable {w w' : World} {B B' : Nat} {e : TypeId} {k : IntKind} {a : Option Addr} {c : Nat} {l : List Int}
theorem Own.form (h : Own w B e k a c l) : (a = none ∧ l = [] ∧ c = 0) ∨ ∃ g, a = some ⟨g, 0, none⟩ ∧ B ≤ g ∧ g < w.heap.size ∧ l.length ≤ c ∧ c ≤ maxLen := by
  rcases h.2 with ⟨hv, hn⟩ | ⟨g, cap, cur, hv, hb, hg, h1, h2, _⟩
  · injection hv with h1 h2 h3
    exact .inl ⟨h1, List.eq_nil_of_length_eq_zero hn, h3⟩
  · injection hv with h3 h4 h5
    exact .inr ⟨g, h3, hb, (Array.getElem?_eq_some_iff.1 hg).1, by omega, by omega⟩
theorem Own.reads (h : Own w B e k a c l) : Reads w w.heap.size a (ints k l) := fun j hj => by
  rcases h.form with ⟨_, rfl, _⟩ | ⟨g, rfl, hb, hg, _⟩
  · simp [ints] at hj
  · exact ⟨_, rfl, hg, h.cells (g := g) rfl j _ (List.getElem?_eq_getElem hj)⟩
theorem Own.cap (h : Own w B e k a c l) : l.length ≤ c := by
  rcases h.form with ⟨_, rfl, _⟩ | ⟨g, rfl, hb, hg, h1, _⟩
  · simp
  · exact h1
theorem Own.base (h : Own w B e k a c l) (hB : B' ≤ B) : Own w B' e k a c l := by
  refine ⟨h.1, ?_⟩
  rcases h.2 with hv | ⟨g, cap, cur, hv, hb, r⟩
  · exact .inl hv
  · exact .inr ⟨g, cap, cur, hv, by omega, r⟩
/-- From its block on. -/
theorem Own.lift (h : Own w B e k a c l) (hB : ∀ b ∈ (Value.slice a l.length c).ownBlock.toList, B' ≤ b) : Own w B' e k a c l := by
  refine ⟨h.1, ?_⟩
  rcases h.2 with hv | ⟨g, cap, cur, hv, hb, r⟩
  · exact .inl hv
  · exact .inr ⟨g, cap, cur, hv, hB g (by rw [hv]; simp [Value.ownBlock]), r⟩
theorem Own.below (h : Own w B e k a c l) (hb : Below w.heap.size w w') : Own w' B e k a c l := by
  refine ⟨h.1, ?_⟩
  rcases h.2 with hv | ⟨g, cap, cur, hv, hB, hg, r⟩
  · exact .inl hv
  · exact .inr ⟨g, cap, cur, hv, hB, (hb.block g (Array.getElem?_eq_some_iff.1 hg).1).trans hg, r⟩
theorem Own.empty (w : World) (e : TypeId) (k : IntKind) (hB : B ≤ w.heap.size) : Own (w.alloc (.cells #[] e)) B e k (some ⟨w.heap.size, 0, none⟩) 0 [] :=
  World.ownsRow_made w #[] 0 hB (Nat.zero_le _) rfl
theorem Own.of_row {g : Nat} (h : w.ownsRow B e 1 (.slice (some ⟨g, 0, none⟩) l.length l.length) l.length (ints k l)) : Own w B e k (some ⟨g, 0, none⟩) l.length l := h
end

/-- What a maker leaves: a slice of its own (from block B on) that holds l; below block B nothing has turned. -/
def Gave (w : World) (B : Nat) (e : TypeId) (k : IntKind) (l : List Int) (en : Ending) (w' : World) : Prop := ∃ a c, en = .returned (.slice a l.length c) ∧ Own w' B e k a c l ∧ Below B w w'
theorem Gave.mk {w w' : World} {B : Nat} {e : TypeId} {k : IntKind} {l : List Int} {a : Option Addr} {c n : Nat} (hn : n = l.length) (ho : Own w' B e k a c l) (hb : Below B w w') : Gave w B e k l (.returned (.slice a n c)) w' := ⟨a, c, by rw [hn], ho, hb⟩

/-! ### What the call owns, several things apart -/

/-- A thing that lies in the blocks fp and nowhere else. -/
structure Res where
  fp : List Nat
  is : World → Prop
  loc : ∀ {w w' : World}, (∀ b ∈ fp, w'.heap[b]? = w.heap[b]?) → is w → is w'

def own (e : TypeId) (k : IntKind) (a : Option Addr) (c : Nat) (l : List Int) : Res where
  fp := (Value.slice a l.length c).ownBlock.toList
  is w := Own w 0 e k a c l
  loc := fun hs h => ⟨h.1, by
    rcases h.2 with hv | ⟨g, cap, cur, hv, hB, hg, r⟩
    · exact .inl hv
    · exact .inr ⟨g, cap, cur, hv, hB, (hs g (by rw [hv]; simp [Value.ownBlock])).trans hg, r⟩⟩

/-- From w to w' nothing but the blocks fp has turned; blocks may have come. -/
structure Turned (fp : List Nat) (w w' : World) : Prop where
  os : w'.os = w.os
  tape : w'.tape = w.tape
  output : w'.output = w.output
  size : w.heap.size ≤ w'.heap.size
  block : ∀ b, b < w.heap.size → b ∉ fp → w'.heap[b]? = w.heap[b]?
theorem Turned.of_grown {w w' : World} {r : Option Nat} (h : w.grownBy w' r) : Turned r.toList w w' :=
  ⟨h.os, h.tape, h.output, h.size, fun b hb hn => h.block b hb (fun e => hn (by rw [← e]; simp))⟩
theorem Turned.refl (fp : List Nat) (w : World) : Turned fp w w := ⟨rfl, rfl, rfl, Nat.le_refl _, fun _ _ _ => rfl⟩
theorem Turned.trans {fp : List Nat} {w w1 w2 : World} (h : Turned fp w w1) (k : Turned fp w1 w2) : Turned fp w w2 :=
  ⟨k.os.trans h.os, k.tape.trans h.tape, k.output.trans h.output, Nat.le_trans h.size k.size, fun b hb hn => (k.block b (Nat.lt_of_lt_of_le hb h.size) hn).trans (h.block b hb hn)⟩
theorem Turned.of_below {fp : List Nat} {w w' : World} (h : Below w.heap.size w w') : Turned fp w w' := ⟨h.os, h.tape, h.output, h.size, fun b hb _ => h.block b hb⟩
theorem Turned.below {fp : List Nat} {w w' : World} {B : Nat} (h : Turned fp w w') (hB : B ≤ w.heap.size) (hf : ∀ b ∈ fp, B ≤ b) : Below B w w' :=
  ⟨h.os, h.tape, h.output, h.size, fun b hb => h.block b (by omega) (fun hm => by have := hf b hm; omega)⟩

structure Sep (W w : World) (rs : List Res) : Prop where
  old : Below W.heap.size W w
  is : ∀ (i : Nat) (r : Res), rs[i]? = some r → r.is w
  lies : ∀ (i : Nat) (r : Res), rs[i]? = some r → ∀ b ∈ r.fp, W.heap.size ≤ b ∧ b < w.heap.size
  apart : ∀ (i j : Nat) (r s : Res), rs[i]? = some r → rs[j]? = some s → i ≠ j → ∀ b ∈ r.fp, b ∉ s.fp

section
variable {W w w' : World} {rs : List Res} {r r' : Res}
theorem Sep.start (W : World) : Sep W W [] := ⟨Below.refl _ _, fun i r h => by simp at h, fun i r h => by simp at h, fun i j r s h => by simp at h⟩
theorem Sep.keep (h : Sep W w rs) (hb : Below w.heap.size w w') : Sep W w' rs :=
  ⟨h.old.trans (hb.mono h.old.size), fun i r hi => r.loc (fun b hm => hb.block b (h.lies i r hi b hm).2) (h.is i r hi), fun i r hi b hm => ⟨(h.lies i r hi b hm).1, Nat.lt_of_lt_of_le (h.lies i r hi b hm).2 hb.size⟩, h.apart⟩
theorem Sep.push (h : Sep W w rs) (hb : Below w.heap.size w w') (hr : r.is w') (hf : ∀ b ∈ r.fp, w.heap.size ≤ b ∧ b < w'.heap.size) : Sep W w' (rs ++ [r]) := by
  have hk := h.keep hb
  have hsz := h.old.size
  have hlast : ∀ (i : Nat) (s : Res), (rs ++ [r])[i]? = some s → (rs[i]? = some s ∧ i < rs.length) ∨ (s = r ∧ i = rs.length) := fun i s hi => by
    rcases Nat.lt_trichotomy i rs.length with hl | hl | hl
    · rw [List.getElem?_append_left hl] at hi
      exact .inl ⟨hi, hl⟩
    · subst hl
      simp at hi
      exact .inr ⟨hi.symm, rfl⟩
    · rw [List.getElem?_eq_none (by simp; omega)] at hi
      cases hi
  refine ⟨hk.old, fun i s hi => ?_, fun i s hi => ?_, fun i j s t hi hj hne => ?_⟩
  · rcases hlast i s hi with ⟨h1, _⟩ | ⟨rfl, _⟩
    · exact hk.is i s h1
    · exact hr
  · rcases hlast i s hi with ⟨h1, _⟩ | ⟨rfl, _⟩
    · exact hk.lies i s h1
    · exact fun b hm => ⟨by have := (hf b hm).1; omega, (hf b hm).2⟩
  · rcases hlast i s hi with ⟨h1, e1⟩ | ⟨rfl, e1⟩ <;> rcases hlast j t hj with ⟨h2, e2⟩ | ⟨rfl, e2⟩
    · exact h.apart i j s t h1 h2 hne
    · exact fun b hm hm2 => by have := (h.lies i s h1 b hm).2; have := (hf b hm2).1; omega
    · exact fun b hm hm2 => by have := (h.lies j t h2 b hm2).2; have := (hf b hm).1; omega
    · omega
theorem Sep.put (h : Sep W w rs) (i : Nat) (hi : rs[i]? = some r) (ht : Turned r.fp w w') (hr : r'.is w') (hf : ∀ b ∈ r'.fp, b ∈ r.fp) : Sep W w' (rs.set i r') := by
  have hlt : i < rs.length := (List.getElem?_eq_some_iff.1 hi).1
  have hcase : ∀ (j : Nat) (s : Res), (rs.set i r')[j]? = some s → (j ≠ i ∧ rs[j]? = some s) ∨ (j = i ∧ s = r') := fun j s hj => by
    rw [List.getElem?_set] at hj
    by_cases e : i = j
    · subst e
      rw [if_pos rfl, if_pos hlt] at hj
      exact .inr ⟨rfl, (Option.some.inj hj).symm⟩
    · rw [if_neg e] at hj
      exact .inl ⟨fun e' => e e'.symm, hj⟩
  refine ⟨h.old.trans (ht.below h.old.size (fun b hm => (h.lies i r hi b hm).1)), fun j s hj => ?_, fun j s hj b hm => ?_, fun j k s t hj hk hne b hm hm2 => ?_⟩
  · rcases hcase j s hj with ⟨hne, h1⟩ | ⟨rfl, rfl⟩
    · exact s.loc (fun b hm => ht.block b (h.lies j s h1 b hm).2 (h.apart j i s r h1 hi hne b hm)) (h.is j s h1)
    · exact hr
  · rcases hcase j s hj with ⟨hne, h1⟩ | ⟨rfl, rfl⟩
    · exact ⟨(h.lies j s h1 b hm).1, Nat.lt_of_lt_of_le (h.lies j s h1 b hm).2 ht.size⟩
    · exact ⟨(h.lies _ r hi b (hf b hm)).1, Nat.lt_of_lt_of_le (h.lies _ r hi b (hf b hm)).2 ht.size⟩
  · rcases hcase j s hj with ⟨hne1, h1⟩ | ⟨rfl, rfl⟩ <;> rcases hcase k t hk with ⟨hne2, h2⟩ | ⟨rfl, rfl⟩
    · exact h.apart j k s t h1 h2 hne b hm hm2
    · exact h.apart j _ s r h1 hi hne1 b hm (hf b hm2)
    · exact h.apart k _ t r h2 hi hne2 b hm2 (hf b hm)
    · exact hne rfl
theorem Sep.pushOwn {e : TypeId} {k : IntKind} {a : Option Addr} {c : Nat} {l : List Int} (h : Sep W w rs) (hb : Below w.heap.size w w') (ho : Own w' w.heap.size e k a c l) : Sep W w' (rs ++ [own e k a c l]) :=
  h.push hb (ho.base (Nat.zero_le _)) fun b hm => ho.lt b (by simpa [own] using hm)
theorem Sep.own {e : TypeId} {k : IntKind} {a : Option Addr} {c : Nat} {l : List Int} (h : Sep W w rs) (i : Nat) (hi : rs[i]? = some (Sl.own e k a c l)) : Own w 0 e k a c l := h.is i _ hi
theorem Sep.ownAt {e : TypeId} {k : IntKind} {a : Option Addr} {c : Nat} {l : List Int} (h : Sep W w rs) (i : Nat) (hi : rs[i]? = some (Sl.own e k a c l)) : Own w W.heap.size e k a c l :=
  (h.is i _ hi : Own w 0 e k a c l).lift fun b hm => (h.lies i _ hi b hm).1
theorem Sep.drews (h : Sep W w rs) (n : Nat) : Sep W (w.drewN n) rs := h.keep ⟨rfl, rfl, rfl, Nat.le_refl _, fun _ _ => rfl⟩
theorem Sep.alloc (h : Sep W w rs) (o : Obj) : Sep W (w.alloc o) rs := h.keep ((Below.refl _ _).alloc (Nat.le_refl _) o)
end

/-! ### append onto an owned row, the source nil, empty or not -/
section
variable {P : Program} (w : World)
theorem run_append_src (B : Nat) (t ty e : TypeId) (i : TypeInfo) (z : Value) (bytes : Nat) (ht : P.underlying t = some (.slice e)) (hi : P.info? e = some i) (hz : i.zero = some z)
    (hsize : i.size = 1) (hby : i.bytes = bytes) (hzs : z.cells.size = 1) (k : IntKind) (a : Option Addr) (c : Nat) (l : List Int) (hown : Own w B e k a c l)
    (B' : Nat) (A : Option Addr) (c' : Nat) (m : List Int) (hr : Reads w B' A (ints k m))
    (h63 : l.length + m.length ≤ maxLen) (hbytes : (l.length + m.length) * bytes ≤ 140737488355328) (hbase : B ≤ w.heap.size) :
    ∃ a1 c1 w', (Builtin.append_ #[t, t] ty #[.slice a l.length c, .slice A m.length c']).run P w = .ok (.slice a1 (l.length + m.length) c1) w' ∧ Own w' B e k a1 c1 (l ++ m) ∧ w.grownBy w' (Value.slice a l.length c).ownBlock := by
  have fin : ∀ {v' : Value} {w' : World}, w'.ownsRow B e 1 v' (l.length + m.length) (ints k l ++ ints k m) → ∃ a1 c1, v' = .slice a1 (l.length + m.length) c1 ∧ Own w' B e k a1 c1 (l ++ m) := by
    intro v' w' h
    rw [← ints_append] at h
    rcases h.2 with ⟨rfl, hn⟩ | ⟨g, cap, cur, rfl, _⟩
    · refine ⟨none, 0, by rw [hn], ?_⟩
      unfold Own
      rw [List.length_append, hn]
      rw [hn] at h
      exact h
    · refine ⟨_, cap, rfl, ?_⟩
      unfold Own
      rw [List.length_append]
      exact h
  rcases A with _ | ad
  · have hm : m = [] := by
      rcases m with _ | ⟨x, m⟩
      · rfl
      · obtain ⟨ad, h, _⟩ := hr 0 (by simp)
        cases h
    subst hm
    have hrun : (Builtin.append_ #[t, t] ty #[.slice a l.length c, .slice none 0 c']).run P w = .ok (.slice a l.length c) w := by
      rcases hown.form with ⟨rfl, rfl, rfl⟩ | ⟨g, rfl, _, _, h1, _⟩
      · simp [Builtin.append_, run_underlying ht, sizeOf, typeInfo, hi, Builtin.lenOf, Builtin.firstCells]
      · simp [Builtin.append_, run_underlying ht, sizeOf, typeInfo, hi, Builtin.lenOf, Builtin.firstCells, h1, storeCells]
    exact ⟨a, c, w, by simpa using hrun, by simpa using hown, grownBy_refl w _⟩
  · have hcells : ∀ j u, (ints k m)[j]? = some u → w.cell? (ad.add j) = some u := by
      intro j u hu
      have hj := (List.getElem?_eq_some_iff.1 hu).1
      obtain ⟨ad', h, _, hc⟩ := hr j hj
      injection h with h
      subst h
      rw [hc, ← hu, List.getElem?_eq_getElem hj]
    obtain ⟨v', w', hrun, h2, h3, -, -⟩ := run_append_own_at (P := P) w B t ty e i z 1 bytes ht hi hz hsize hby hzs (by omega) _ l.length (ints k l) hown ad m.length c' (ints k m) (by simp) hcells (ints_one k m) h63 hbytes hbase
    obtain ⟨a1, c1, rfl, ho⟩ := fin h2
    exact ⟨a1, c1, w', hrun, ho, h3⟩

theorem wpList_append_src {ops : Array Oper} {rest : List Oper} {o : Oper} {act : Act} {Q : Exit → Act → World → Prop} (hgd : o.guard = none) (s x : Operand) (t : TypeId)
    (ho : o.op = .call { callee := .builtin .append, args := #[s, x], argTypes := #[t, t] })
    (B : Nat) (e : TypeId) (i : TypeInfo) (z : Value) (bytes : Nat) (ht : P.underlying t = some (.slice e)) (hi : P.info? e = some i) (hz : i.zero = some z)
    (hsize : i.size = 1) (hby : i.bytes = bytes) (hzs : z.cells.size = 1) (k : IntKind) (a : Option Addr) (n c : Nat) (l : List Int) (hs : act.eval s = .slice a n c) (hn : n = l.length) (hown : Own w B e k a c l)
    (B' : Nat) (A : Option Addr) (n' c' : Nat) (m : List Int) (hx : act.eval x = .slice A n' c') (hn' : n' = m.length) (hr : Reads w B' A (ints k m))
    (h63 : l.length + m.length ≤ maxLen) (hbytes : (l.length + m.length) * bytes ≤ 140737488355328) (hbase : B ≤ w.heap.size)
    (h : ∀ a1 c1 w', Own w' B e k a1 c1 (l ++ m) → w.grownBy w' (Value.slice a l.length c).ownBlock → wpList P ops Q rest (act.put o.dst (.slice a1 (l.length + m.length) c1)) w') : wpList P ops Q (o :: rest) act w := by
  subst hn
  subst hn'
  refine wpList_plain hgd fun K hK => ?_
  obtain ⟨a1, c1, w', hrun, h2, h3⟩ := run_append_src (P := P) w B t o.type e i z bytes ht hi hz hsize hby hzs k a c l hown B' A c' m hr h63 hbytes hbase
  unfold Oper.wp execOp
  simp only [ho, resolve, invoke, builtin, Sem.run_bind, Sem.run_pure, Result.andThen_ok, List.map_toArray, List.map_cons, List.map_nil, hs, hx, hrun]
  exact hK _ _ (h a1 c1 w' h2 h3)
end

/-- The cell of a one-element list that was just laid. -/
theorem reads_one (w : World) (k : IntKind) (x : Int) (t : TypeId) : Reads (w.alloc (.cells #[.int k x] t)) (w.heap.size + 1) (some ⟨w.heap.size, 0, none⟩) (ints k [x]) := fun j hj => by
  simp [ints] at hj
  subst hj
  refine ⟨_, rfl, by simp, ?_⟩
  rw [Addr.add_lit, (Row.made w t _).cell]
  rfl
end Go.Proofs.Ytephiilicebdcaa.Sl

/-
  The contracts of the exact laws' helpers for slices of bytes and of ints: a copy (to..S), a comparison (eq..S, of equal lists), marks (mark..S) and a look at the marks (held..S). No condition but a length below 2^40 where numbers are counted.
-/
namespace Go.Proofs.Ytephiilicebdcaa.Ex
set_option maxRecDepth 100000
open Go.ChangeShapes Go.WideShapes Go.ChangeAt Go.RowKit Mem Sl

/-- The marks: k, k+1, .. as the element's kind has them. -/
def marks (kd : IntKind) (k : Int) (n : Nat) : List Int := (List.range n).map fun (i : Nat) => kd.wrap (k + (i : Int))
@[simp] theorem marks_length (kd : IntKind) (k : Int) (n : Nat) : (marks kd k n).length = n := by simp [marks]
theorem marks_get (kd : IntKind) (k : Int) (n j : Nat) (h : j < n) : (marks kd k n)[j]'(by simpa using h) = kd.wrap (k + (j : Int)) := by simp [marks]

theorem set_step {α : Type} (x : α) (p q : List α) (y : α) (k : Nat) (hk : p.length = k) : (p ++ y :: q).set k x = (p ++ [x]) ++ q := by
  subst hk
  simp

theorem infoOf (e : TypeId) (z : Value) (s b : Nat) (h : (Try.prog.info? e).map (fun i => (i.zero, i.size, i.bytes)) = some (some z, s, b)) : ∃ i, Try.prog.info? e = some i ∧ i.zero = some z ∧ i.size = s ∧ i.bytes = b := info_parts h

theorem ret_slice {a : Option Addr} {n m c : Nat} (h : n = m) : Ending.returned (.slice a n c) = .returned (.slice a m c) := by rw [h]
theorem replicate_cons {α : Type} (x : α) (n k : Nat) (h : k < n) : List.replicate (n - k) x = x :: List.replicate (n - (k + 1)) x := by
  rw [show n - k = (n - (k + 1)) + 1 by omega, List.replicate_succ]


/-- From w to w' nothing but draws. -/
def Drew (w w' : World) : Prop := ∃ n, w' = w.drewN n
theorem Drew.refl (w : World) : Drew w w := ⟨0, rfl⟩
theorem Drew.more {w w1 : World} (h : Drew w w1) (n : Nat) : Drew w (w1.drewN n) := by
  obtain ⟨m, rfl⟩ := h
  exact ⟨m + n, World.drewN_drewN ..⟩
theorem Drew.below {w w' : World} (h : Drew w w') (B : Nat) : Below B w w' := by
  obtain ⟨n, rfl⟩ := h
  exact ⟨rfl, rfl, rfl, Nat.le_refl _, fun _ _ => rfl⟩
theorem Drew.trans {w w1 w2 : World} (h : Drew w w1) (k : Drew w1 w2) : Drew w w2 := by
  obtain ⟨n, rfl⟩ := k
  exact h.more n

theorem take_eq_step {l m : List Int} {k : Nat} (hl : k < l.length) (hm : k < m.length) (h : l.take k = m.take k) (e : l[k] = m[k]) : l.take (k + 1) = m.take (k + 1) := by
  rw [List.take_succ_eq_append_getElem hl, List.take_succ_eq_append_getElem hm, h, e]
theorem eq_of_take {l m : List Int} (hn : l.length = m.length) (h : l.take l.length = m.take l.length) : l = m := by
  rw [List.take_length, hn, List.take_length] at h
  exact h
def eqB (l m : List Int) : Bool := decide (l = m)
theorem eqB_true {l m : List Int} (h : l = m) : eqB l m = true := decide_eq_true h
theorem eqB_false {l m : List Int} (h : l ≠ m) : eqB l m = false := decide_eq_false h

set_option maxHeartbeats 400000 in
theorem sameBytes_any (a a2 : Option Addr) (c c2 : Nat) (l m : List Int) (w : World) (B : Nat) (hr : Reads w B a (ints .u8 l)) (hr2 : Reads w B a2 (ints .u8 m)) (hl : l.length ≤ 4611686018427387904) (hm : m.length ≤ 4611686018427387904) :
    Calls Try.prog 19 #[.slice a l.length c, .slice a2 m.length c2] w fun e w' => e = .returned (.bool (eqB l m)) ∧ Drew w w' := by
  obtain ⟨n, hn⟩ : ∃ n, n = l.length := ⟨_, rfl⟩
  obtain ⟨n2, hn2⟩ : ∃ n, n = m.length := ⟨_, rfl⟩
  have hl' : n ≤ 4611686018427387904 := by omega
  have hm' : n2 ≤ 4611686018427387904 := by omega
  obtain ⟨b, hb⟩ : ∃ b, b = eqB l m := ⟨_, rfl⟩
  rw [← hb, ← hn, ← hn2]
  have HN := Lib.hid hn
  have HN2 := Lib.hid hn2
  have HB := Lib.hid hb
  have HR := Lib.hid (And.intro hr hr2)
  clear hn hn2 hr hr2 hl hm hb
  by_cases hlen : n = n2
  · subst hlen
    go_enter Try.func19, Try.ntmps19
    go_wp2
    go_loopw [5] (fun i wr => ∃ k : Nat, k ≤ n ∧ i = .int .i64 k ∧ Hid (l.take k = m.take k ∧ Drew w wr)) (fun i _ => n - (intOf i).toNat)
    case atStart => exact ⟨0, Nat.zero_le _, rfl, by simp, Drew.refl w⟩
    case round =>
      obtain ⟨k, hk, rfl, hrel⟩ := hrel
      obtain ⟨htk, hD⟩ := hrel.out
      have HT := Lib.hid htk
      have HD := Lib.hid hD
      clear htk hrel
      by_cases hlt : k < n
      · obtain ⟨ad, rfl, -, hcell⟩ := (HR.out.1.below (hD.below B)).int k (by have := HN.out; omega)
        obtain ⟨ad2, rfl, -, hcell2⟩ := (HR.out.2.below (hD.below B)).int k (by have := HN2.out; omega)
        clear hD
        obtain ⟨x, hx⟩ : ∃ x, x = l[k]'(by have := HN.out; omega) := ⟨_, rfl⟩
        obtain ⟨y, hy⟩ : ∃ y, y = m[k]'(by have := HN2.out; omega) := ⟨_, rfl⟩
        rw [← hx] at hcell
        rw [← hy] at hcell2
        have HX := Lib.hid hx
        have HY := Lib.hid hy
        clear hx hy
        have hkn : (k : Int) < n := by omega
        by_cases hxy : x = y
        · subst hxy
          go_wp2
          go_quiet (fail)
          go_wp2
          go_roundw
          case rel =>
            exact ⟨k + 1, by omega, by go_num, take_eq_step (by have := HN.out; omega) (by have := HN2.out; omega) HT.out (HX.out.symm.trans HY.out), HD.out.more _⟩
          case measure => simp [intOf]; omega
        · have hne : (x == y) = false := by simpa using hxy
          go_wp2
          go_quiet (fail)
          go_wp2
          go_ret
          refine ⟨?_, HD.out.more _⟩
          obtain rfl : b = false := by
            rw [HB.out]
            exact eqB_false (fun e => hxy (by rw [HX.out, HY.out]; subst e; rfl))
          rfl
      · clear hD
        go_wp2
        go_ret
        obtain rfl : k = n := by omega
        refine ⟨?_, HD.out⟩
        obtain rfl : b = true := by
          rw [HB.out]
          have h1 := HT.out
          rw [HN.out] at h1
          exact eqB_true (eq_of_take (HN.out.symm.trans HN2.out) h1)
        rfl
  · have hne : ((n : Int) == (n2 : Int)) = false := by simp; omega
    go_enter Try.func19, Try.ntmps19
    go_wp2
    go_ret
    refine ⟨?_, Drew.refl w⟩
    obtain rfl : b = false := by
      rw [HB.out]
      exact eqB_false (fun e => hlen (by rw [HN.out, HN2.out, e]))
    rfl

theorem marks_step (kd : IntKind) (k : Int) (n : Nat) : marks kd k (n + 1) = marks kd k n ++ [kd.wrap (k + (n : Int))] := by
  simp [marks, List.range_succ]


end Go.Proofs.Ytephiilicebdcaa.Ex

/-
  Plain mathematics of chapter 2: the varint of a number, what a reading of a varint gives, lists of numbers; that reading inverts writing and writing inverts reading. No condition.
-/
namespace Go.Proofs.Ytephiilicebdcaa.L2
set_option maxRecDepth 100000

def uv (n : Nat) : List Int := if n < 128 then [(n : Int)] else ((n % 128 + 128 : Nat) : Int) :: uv (n / 128)
termination_by n
decreasing_by omega
theorem uv_small {n : Nat} (h : n < 128) : uv n = [(n : Int)] := by rw [uv, if_pos h]
theorem uv_big {n : Nat} (h : ¬ n < 128) : uv n = ((n % 128 + 128 : Nat) : Int) :: uv (n / 128) := by rw [uv, if_neg h]
theorem uv_len_le : ∀ (j n : Nat), n < 128 ^ (j + 1) → (uv n).length ≤ j + 1
  | 0, n, h => by rw [uv_small (by omega)]; simp
  | j + 1, n, h => by
    by_cases hn : n < 128
    · rw [uv_small hn]; simp
    · rw [uv_big hn, List.length_cons]
      have := uv_len_le j (n / 128) (by rw [Nat.pow_succ] at h; omega)
      omega
theorem uv_len_pos (n : Nat) : 1 ≤ (uv n).length := by
  by_cases hn : n < 128
  · rw [uv_small hn]; simp
  · rw [uv_big hn]; simp
theorem uv_byte (n : Nat) : ∀ x ∈ uv n, 0 ≤ x ∧ x ≤ 255 := by
  induction n using Nat.strongRecOn with
  | _ n ih =>
    intro x hx
    by_cases hn : n < 128
    · rw [uv_small hn] at hx
      simp at hx
      omega
    · rw [uv_big hn] at hx
      rcases List.mem_cons.1 hx with h | h
      · omega
      · exact ih (n / 128) (by omega) x h

/-- What AppendUvarint appends. -/
def enc (n : Int) : List Int := if L1.inB n 0 1000000000000 = true then uv n.toNat else []
theorem enc_in {n : Int} (h0 : 0 ≤ n) (h1 : n ≤ 1000000000000) : enc n = uv n.toNat := by rw [enc, if_pos (L1.inB_true.mpr ⟨h0, h1⟩)]
theorem enc_out {n : Int} (h : ¬ (0 ≤ n ∧ n ≤ 1000000000000)) : enc n = [] := by rw [enc, if_neg (by rw [L1.inB_false.mpr h]; simp)]
theorem enc_len (n : Int) : (enc n).length ≤ 6 := by
  by_cases h : 0 ≤ n ∧ n ≤ 1000000000000
  · rw [enc_in h.1 h.2]
    exact uv_len_le 5 _ (by have : (128 : Nat) ^ (5 + 1) = 4398046511104 := by decide
                            omega)
  · rw [enc_out h]; simp
theorem enc_byte (n : Int) : ∀ x ∈ enc n, 0 ≤ x ∧ x ≤ 255 := by
  by_cases h : 0 ≤ n ∧ n ≤ 1000000000000
  · rw [enc_in h.1 h.2]; exact uv_byte _
  · rw [enc_out h]; simp

/-- What EncodeInts gives. -/
def encs (l : List Int) : List Int := l.flatMap enc
theorem encs_len (l : List Int) : (encs l).length ≤ 6 * l.length := by
  induction l with
  | nil => simp [encs]
  | cons x l ih =>
    have := enc_len x
    simp only [encs, List.flatMap_cons, List.length_append, List.length_cons] at ih ⊢
    omega
theorem encs_take (l : List Int) (k : Nat) (h : k < l.length) : encs (l.take (k + 1)) = encs (l.take k) ++ enc l[k] := by
  rw [List.take_succ_eq_append_getElem h, encs, List.flatMap_append]
  simp [encs]
theorem encs_byte (l : List Int) : ∀ x ∈ encs l, 0 ≤ x ∧ x ≤ 255 := by
  intro x hx
  obtain ⟨n, _, hn⟩ := List.mem_flatMap.1 hx
  exact enc_byte n x hn

/-- A reading, k bytes in, v read so far: the number and how many bytes in all. -/
def rdAux : Nat → Int → List Int → Option (Int × Nat)
  | _, _, [] => none
  | k, v, c :: s =>
    if 6 ≤ k then none
    else if c < 128 then (if (c = 0 ∧ 0 < k) ∨ 1000000000000 < v + c % 128 * 128 ^ k then none else some (v + c % 128 * 128 ^ k, k + 1))
    else rdAux (k + 1) (v + c % 128 * 128 ^ k) s
def rd (l : List Int) (off : Int) : Option (Int × Nat) := if 0 ≤ off then rdAux 0 0 (l.drop off.toNat) else none
def rdN (l : List Int) (off : Int) : Int := match rd l off with | some (v, _) => v | none => 0
def rdE (l : List Int) (off : Int) : Int := match rd l off with | some (_, m) => off + m | none => 0
def rdB (l : List Int) (off : Int) : Bool := (rd l off).isSome

theorem rdAux_uv (n : Nat) : ∀ (k : Nat) (v : Int) (t : List Int), k + (uv n).length ≤ 6 → (k = 0 ∨ 0 < n) → 0 ≤ v → v + n * 128 ^ k ≤ 1000000000000 → rdAux k v (uv n ++ t) = some (v + n * 128 ^ k, k + (uv n).length) := by
  induction n using Nat.strongRecOn with
  | _ n ih =>
    intro k v t hk hz hv hm
    by_cases hn : n < 128
    · rw [uv_small hn] at hk ⊢
      simp only [List.length_singleton] at hk ⊢
      have e : (n : Int) % 128 = n := by omega
      simp only [List.cons_append, List.nil_append, rdAux]
      rw [if_neg (by omega), if_pos (by omega), if_neg (by rw [e]; omega), e]
    · rw [uv_big hn] at hk ⊢
      simp only [List.length_cons] at hk ⊢
      simp only [List.cons_append, rdAux]
      have e : ((n % 128 + 128 : Nat) : Int) % 128 = ((n % 128 : Nat) : Int) := by omega
      have hq : (n : Int) = 128 * ((n / 128 : Nat) : Int) + ((n % 128 : Nat) : Int) := by omega
      have e2 : v + ((n % 128 : Nat) : Int) * 128 ^ k + ((n / 128 : Nat) : Int) * 128 ^ (k + 1) = v + (n : Int) * 128 ^ k := by
        rw [Int.pow_succ]
        generalize (128 : Int) ^ k = p
        rw [hq, Int.add_mul, Int.mul_comm p 128, ← Int.mul_assoc, Int.mul_comm ((n / 128 : Nat) : Int) 128]
        omega
      rw [if_neg (by omega), if_neg (by omega), e, ih (n / 128) (by omega) (k + 1) _ t (by omega) (.inr (by omega)) (by
        have := Int.mul_nonneg (show (0 : Int) ≤ ((n % 128 : Nat) : Int) by omega) (show (0 : Int) ≤ 128 ^ k from Int.le_of_lt (Int.pow_pos (by decide)))
        omega) (by rw [e2]; exact hm), e2]
      simp
      omega

theorem rdAux_out : ∀ (s : List Int), (∀ x ∈ s, 0 ≤ x ∧ x ≤ 255) → ∀ (k : Nat) (v r : Int) (m : Nat), 0 ≤ v → rdAux k v s = some (r, m) →
    ∃ q : Nat, r = v + q * 128 ^ k ∧ k < m ∧ m ≤ 6 ∧ m - k ≤ s.length ∧ s.take (m - k) = uv q ∧ (0 < k → 0 < q) ∧ r ≤ 1000000000000
  | [], _, k, v, r, m, _, h => by simp [rdAux] at h
  | c :: s, hs, k, v, r, m, hv, h => by
    rw [rdAux] at h
    have hc := hs c (by simp)
    by_cases h6 : 6 ≤ k
    · rw [if_pos h6] at h; cases h
    · rw [if_neg h6] at h
      by_cases hc1 : c < 128
      · rw [if_pos hc1] at h
        by_cases hb : (c = 0 ∧ 0 < k) ∨ 1000000000000 < v + c % 128 * 128 ^ k
        · rw [if_pos hb] at h; cases h
        · rw [if_neg hb] at h
          simp only [Option.some.injEq, Prod.mk.injEq] at h
          obtain ⟨h1, h2⟩ := h
          have e : c % 128 = c := by omega
          have e2 : ((c.toNat : Nat) : Int) = c := by omega
          refine ⟨c.toNat, ?_, by omega, by omega, by simp; omega, ?_, fun hk => ?_, by omega⟩
          · rw [← h1, e, e2]
          · rw [show m - k = 1 by omega, uv_small (by omega), e2]
            simp
          · have : ¬ (c = 0 ∧ 0 < k) := fun hx => hb (.inl hx)
            omega
      · rw [if_neg hc1] at h
        have hp : (0 : Int) ≤ 128 ^ k := Int.le_of_lt (Int.pow_pos (by decide))
        have hnn := Int.mul_nonneg (show (0 : Int) ≤ c % 128 by omega) hp
        obtain ⟨q, h1, h2, h3, h4, h5, h6', h7⟩ := rdAux_out s (fun x hx => hs x (by simp [hx])) (k + 1) _ r m (by omega) h
        refine ⟨(c % 128).toNat + 128 * q, ?_, by omega, h3, by simp; omega, ?_, fun _ => by have := h6' (by omega); omega, h7⟩
        · rw [h1, Int.pow_succ]
          have e : ((c % 128).toNat : Int) = c % 128 := by omega
          generalize (128 : Int) ^ k = p
          have e3 : (q : Int) * (p * 128) = 128 * (q : Int) * p := by rw [Int.mul_comm p 128, ← Int.mul_assoc, Int.mul_comm (q : Int) 128]
          rw [Int.natCast_add, Int.natCast_mul, e, Int.add_mul, e3, Int.add_assoc]
          rfl
        · have hq := h6' (by omega)
          rw [show m - k = (m - (k + 1)) + 1 by omega, List.take_succ_cons, h5, uv_big (n := (c % 128).toNat + 128 * q) (by omega)]
          congr 1
          · omega
          · congr 1
            omega

/-- Reading what was written. -/
theorem rd_enc (l t : List Int) (n : Int) (h0 : 0 ≤ n) (h1 : n ≤ 1000000000000) : rd (l ++ (enc n ++ t)) l.length = some (n, (enc n).length) := by
  have hl := enc_len n
  rw [enc_in h0 h1] at hl ⊢
  unfold rd
  rw [if_pos (by omega)]
  have e : (l ++ (uv n.toNat ++ t)).drop ((l.length : Int).toNat) = uv n.toNat ++ t := by simp
  rw [e, rdAux_uv n.toNat 0 0 t (by omega) (.inl rfl) (by omega) (by simp; omega)]
  simp
  omega
/-- What was read is what would be written. -/
theorem rd_out {l : List Int} (hl : ∀ x ∈ l, 0 ≤ x ∧ x ≤ 255) {off : Int} {v : Int} {m : Nat} (h : rd l off = some (v, m)) :
    0 ≤ off ∧ 1 ≤ m ∧ m ≤ 6 ∧ off + m ≤ l.length ∧ 0 ≤ v ∧ v ≤ 1000000000000 ∧ (l.drop off.toNat).take m = enc v := by
  unfold rd at h
  by_cases ho : 0 ≤ off
  · rw [if_pos ho] at h
    obtain ⟨q, h1, h2, h3, h4, h5, _, h7⟩ := rdAux_out _ (fun x hx => hl x (List.mem_of_mem_drop hx)) 0 0 v m (by omega) h
    simp at h1 h4
    refine ⟨ho, by omega, h3, by omega, by omega, h7, ?_⟩
    rw [Nat.sub_zero] at h5
    rw [h5, enc_in (by omega) h7]
    congr 1
    omega
  · rw [if_neg ho] at h; cases h
theorem rd_some {l : List Int} {off : Int} (h : rdB l off = true) : rd l off = some (rdN l off, (rdE l off - off).toNat) ∧ off ≤ rdE l off := by
  unfold rdB at h
  unfold rdN rdE
  cases hr : rd l off with
  | none => rw [hr] at h; cases h
  | some p =>
    obtain ⟨v, m⟩ := p
    simp
    omega
theorem rd_none {l : List Int} {off : Int} (h : rdB l off = false) : rdN l off = 0 ∧ rdE l off = 0 := by
  unfold rdB at h
  unfold rdN rdE
  cases hr : rd l off with
  | none => exact ⟨rfl, rfl⟩
  | some p => rw [hr] at h; cases h
theorem rdN_of {l : List Int} {off v : Int} {m : Nat} (h : rd l off = some (v, m)) : rdN l off = v := by unfold rdN; rw [h]
theorem rdE_of {l : List Int} {off v : Int} {m : Nat} (h : rd l off = some (v, m)) : rdE l off = off + m := by unfold rdE; rw [h]
theorem rdB_of {l : List Int} {off v : Int} {m : Nat} (h : rd l off = some (v, m)) : rdB l off = true := by unfold rdB; rw [h]; rfl
theorem rd_bounds {l : List Int} (hl : ∀ x ∈ l, 0 ≤ x ∧ x ≤ 255) (off : Int) : 0 ≤ rdN l off ∧ rdN l off ≤ 1000000000000 ∧ 0 ≤ rdE l off ∧ rdE l off ≤ l.length := by
  cases h : rdB l off with
  | false =>
    obtain ⟨h1, h2⟩ := rd_none h
    rw [h1, h2]
    omega
  | true =>
    obtain ⟨h1, h2⟩ := rd_some h
    obtain ⟨a, b, c, d, e, f, _⟩ := rd_out hl h1
    omega
end Go.Proofs.Ytephiilicebdcaa.L2

/-
  The contracts of chapter 2's writers: AppendUvarint of the specification and of the program (extendByVarint, takeBytes), AppendBytes, EncodeInts. Conditions: the slices read as lists, of at most 2^40 elements.
-/
namespace Go.Proofs.Ytephiilicebdcaa.L2
set_option maxRecDepth 100000
open Go.ChangeShapes Go.WideShapes Go.ChangeAt Go.RowKit Mem Sl Ex
set_option linter.unusedVariables false

theorem info8 : (Try.prog.info? 5).map (fun i => (i.zero, i.size, i.bytes)) = some (some (.int .u8 0), 1, 1) := by kernel_rfl

theorem own_alloc {w : World} {B : Nat} {e : TypeId} {k : IntKind} {a : Option Addr} {c : Nat} {l : List Int} (h : Own w B e k a c l) (o : Obj) : Own (w.alloc o) B e k a c l := h.below ((Below.refl _ _).alloc (Nat.le_refl _) o)
theorem below_alloc {B : Nat} {w w' : World} (h : Below B w w') (o : Obj) (hB : B ≤ w.heap.size) : Below B w (w'.alloc o) := h.alloc (Nat.le_trans hB h.size) o
theorem below_own {B : Nat} {w w' : World} {e : TypeId} {k : IntKind} {a : Option Addr} {c : Nat} {l : List Int} (ho : Own w B e k a c l) (hg : w.grownBy w' (Value.slice a l.length c).ownBlock) (hB : B ≤ w.heap.size) : Below B w w' :=
  (Below.refl _ _).grown hg hB (fun k hk => (ho.lt k hk).1)

theorem or_128 (m : Nat) : bits .or .u8 ((m : Int) % 128) 128 = ((m % 128 + 128 : Nat) : Int) := by
  rw [show (m : Int) % 128 = ((m % 128 : Nat) : Int) by omega, show (128 : Int) = ((128 : Nat) : Int) from rfl, u8_or_nat _ _ (by omega) (by omega), Nat.or_comm, nat_join 7 128 (m % 128) (by decide) (by omega)]
  congr 1
  omega

theorem extend_any (B : Nat) (a : Option Addr) (c : Nat) (l : List Int) (n : Int) (w : World) (h : Own w B 5 .u8 a c l) (hl : l.length ≤ 1099511627776) (hB : B ≤ w.heap.size) :
    Calls Try.prog 66 #[.slice a l.length c, .int .i64 n] w (Gave w B 5 .u8 (l ++ enc n)) := by
  by_cases hn : 0 ≤ n ∧ n ≤ 1000000000000
  · obtain ⟨h0, h1⟩ := hn
    have hin : L1.inB n 0 1000000000000 = true := L1.inB_true.mpr ⟨h0, h1⟩
    obtain ⟨i0, hi, hz0, hz1, hz2⟩ := infoOf _ _ _ _ info8
    obtain ⟨m0, rfl⟩ : ∃ m : Nat, n = m := ⟨n.toNat, by omega⟩
    have HE := Lib.hid (enc_in h0 h1)
    have HL := Lib.hid (enc_len m0)
    have H := Lib.hid h
    clear h
    go_enter Try.func66, Try.ntmps66
    go_wp2_with (go_at_call 48; refine (L1.inRange_any _ _ _ _).mono ?_; rw [hin]; rintro e w' ⟨rfl, rfl⟩)
    go_loopw [0, 1] (fun s v wr => ∃ (m : Nat) (a1 : Option Addr) (c1 : Nat) (l1 : List Int) (n1 : Nat), s = .slice a1 n1 c1 ∧ v = .int .i64 m ∧ m ≤ 1000000000000 ∧ n1 ≤ 1099511627790 ∧ Hid (Own wr B 5 .u8 a1 c1 l1 ∧ Below B w wr ∧ l1 ++ uv m = l ++ enc m0 ∧ n1 = l1.length)) (fun _ v _ => (intOf v).toNat)
    case atStart => exact ⟨m0, a, c, l, l.length, rfl, rfl, by omega, by omega, H.out, Below.refl _ _, by rw [HE.out]; rfl, rfl⟩
    case round =>
      obtain ⟨m, a1, c1, l1, n1, rfl, rfl, hm, hn1, hrel⟩ := hrel
      by_cases hlt : m < 128
      · have hc : ¬ (128 : Int) ≤ m := by omega
        go_wp2_with (at_builtin; refine wpList_append_src _ rfl _ _ 22 rfl B 5 i0 (.int .u8 0) 1 Try.underlying22 hi hz0 hz1 hz2 rfl .u8 a1 n1 c1 l1 rfl hrel.out.2.2.2 (own_alloc hrel.out.1 _) _ _ 1 1 [_] rfl rfl (reads_one _ _ _ _) (by have := hrel.out.2.2.2; simp [maxLen]; omega) (by have := hrel.out.2.2.2; simp; omega) (Nat.le_trans hB (Nat.le_trans hrel.out.2.1.size (by simp))) ?_; intro a2 c2 w2 ho2 hg2)
        go_ret
        obtain ⟨h1, h2, h3, h4⟩ := hrel.out
        refine Gave.mk ?_ (l := l ++ enc m0) ?_ ?_
        · rw [← h3, uv_small hlt]; simp
        · rw [← h3, uv_small hlt]; exact ho2
        · have hb1 := below_alloc h2 (.cells #[.int .u8 m] 5) hB
          exact hb1.trans (below_own (own_alloc h1 _) hg2 (Nat.le_trans hB hb1.size))
      · have hc : (128 : Int) ≤ m := by omega
        go_wp2_with (at_builtin; refine wpList_append_src _ rfl _ _ 22 rfl B 5 i0 (.int .u8 0) 1 Try.underlying22 hi hz0 hz1 hz2 rfl .u8 a1 n1 c1 l1 rfl hrel.out.2.2.2 (own_alloc hrel.out.1 _) _ _ 1 1 [_] rfl rfl (reads_one _ _ _ _) (by have := hrel.out.2.2.2; simp [maxLen]; omega) (by have := hrel.out.2.2.2; simp; omega) (Nat.le_trans hB (Nat.le_trans hrel.out.2.1.size (by simp))) ?_; intro a2 c2 w2 ho2 hg2)
        obtain ⟨h1, h2, h3, h4⟩ := hrel.out
        have hb1 := below_alloc h2 (.cells #[.int .u8 (bits .or .u8 ((m : Int) % 128) 128)] 5) hB
        have hb2 := hb1.trans (below_own (own_alloc h1 _) hg2 (Nat.le_trans hB hb1.size))
        have hle : l1.length + (uv m).length = l.length + (enc m0).length := by rw [← List.length_append, h3, List.length_append]
        have hp := uv_len_pos m
        have he := HL.out
        rw [or_128] at ho2
        have HH := Lib.hid (And.intro ho2 (And.intro hb2 h3))
        clear ho2 hg2 hb1 hb2 h1 h2 h3 h4
        go_roundw
        case rel => exact ⟨m / 128, a2, c2, _, l1.length + 1, rfl, by go_num, by omega, by omega, And.intro HH.out.1 (And.intro HH.out.2.1 (And.intro (by rw [List.append_assoc, ← HH.out.2.2, uv_big hlt]; rfl) (by simp)))⟩
        case measure => simp [intOf]; omega
  · have hout : L1.inB n 0 1000000000000 = false := L1.inB_false.mpr hn
    have HE := Lib.hid (enc_out hn)
    have H := Lib.hid h
    clear h hn
    go_enter Try.func66, Try.ntmps66
    go_wp2_with (go_at_call 48; refine (L1.inRange_any _ _ _ _).mono ?_; rw [hout]; rintro e w' ⟨rfl, rfl⟩)
    go_ret
    refine Gave.mk ?_ ?_ (Below.refl _ _)
    · rw [HE.out, List.append_nil]
    · rw [HE.out, List.append_nil]; exact H.out

theorem take_any (a : Option Addr) (c : Nat) (l : List Int) (s t : Nat) (w : World) (hr : Reads w w.heap.size a (ints .u8 l)) (hc : l.length ≤ c) (hl : l.length ≤ 1099511627776) (hst : s ≤ t) (ht : t ≤ l.length) :
    Calls Try.prog 67 #[.slice a l.length c, .int .i64 s, .int .i64 t] w (Gave w w.heap.size 5 .u8 ((l.drop s).take (t - s))) := by
  obtain ⟨i0, hi, hz0, hz1, hz2⟩ := infoOf _ _ _ _ info8
  obtain ⟨n, hn⟩ : ∃ n, n = l.length := ⟨_, rfl⟩
  rw [← hn] at ht hl hc ⊢
  have hp := (hr.below (below_alloc (Below.refl _ _) (.cells #[] 5) (Nat.le_refl _))).partInts s t t hst (by omega) (Nat.le_refl _)
  have hlen : ((l.drop s).take (t - s)).length = t - s := by simp; omega
  obtain ⟨m, hm⟩ : ∃ m, m = (l.drop s).take (t - s) := ⟨_, rfl⟩
  rw [← hm] at hp hlen ⊢
  have HP := Lib.hid (And.intro hp hlen)
  clear hr hn hm hp hlen
  go_enter Try.func67, Try.ntmps67
  go_wp2_with (at_builtin; refine wpList_append_src _ rfl _ _ 22 rfl w.heap.size 5 i0 (.int .u8 0) 1 Try.underlying22 hi hz0 hz1 hz2 rfl .u8 _ _ _ [] rfl rfl (Own.empty w 5 .u8 (Nat.le_refl _)) w.heap.size _ _ _ m rfl HP.out.2.symm HP.out.1 (by have := HP.out.2; simp [maxLen]; omega) (by have := HP.out.2; simp; omega) (by simp) ?_; intro a2 c2 w2 ho2 hg2)
  all_goals
    go_ret
    refine Gave.mk (by simp) ho2 ?_
    exact (below_alloc (Below.refl _ _) _ (Nat.le_refl _)).trans (below_own (Own.empty w 5 .u8 (Nat.le_refl _)) hg2 (by simp))

theorem implAppendUvarint_any (a : Option Addr) (c : Nat) (l : List Int) (n : Int) (w : World) (hr : Reads w w.heap.size a (ints .u8 l)) (hc : l.length ≤ c) (hl : l.length ≤ 1000000000000) :
    Calls Try.prog 41 #[.slice a l.length c, .int .i64 n] w (Gave w w.heap.size 5 .u8 (l ++ enc n)) := by
  have H1 := Lib.hid (take_any a c l 0 l.length w hr hc (by omega) (by omega) (by omega))
  have e0 : (l.drop 0).take (l.length - 0) = l := by simp
  rw [e0] at H1
  have H2 := fun (a1 : Option Addr) (c1 : Nat) (w1 : World) (h : Own w1 w.heap.size 5 .u8 a1 c1 l) (hs : w.heap.size ≤ w1.heap.size) => extend_any w.heap.size a1 c1 l n w1 h (by omega) hs
  have H3 := Lib.hid H2
  clear H2 hr hc e0
  go_enter Try.func41, Try.ntmps41
  go_wp2_with (first | (go_at_call 67; refine H1.out.mono ?_; rintro e w1 ⟨a1, c1, rfl, ho1, hb1⟩) | (go_at_call 66; refine (H3.out _ _ _ ho1 hb1.size).mono ?_; rintro e w2 ⟨a2, c2, rfl, ho2, hb2⟩))
  go_ret
  exact Gave.mk (by simp) ho2 (hb1.trans hb2)

theorem and_127 (m : Nat) (hm : m < 18446744073709551616) : bits .and .i64 (m : Int) 127 = ((m % 128 : Nat) : Int) := by
  show IntKind.i64.wrap ((BitVec.ofInt 64 (m : Int) &&& BitVec.ofInt 64 127).toNat : Nat) = _
  rw [BitVec.ofInt_natCast, show (127 : Int) = ((127 : Nat) : Int) from rfl, BitVec.ofInt_natCast, BitVec.toNat_and, BitVec.toNat_ofNat, BitVec.toNat_ofNat, Nat.mod_eq_of_lt (by omega), show 127 % 2 ^ 64 = 127 from rfl, nat_mask7, IntKind.wrap_i64]
  omega
theorem or_128i (m : Nat) : bits .or .i64 ((m : Int) % 128) 128 % 256 = ((m % 128 + 128 : Nat) : Int) := by
  rw [show (m : Int) % 128 = ((m % 128 : Nat) : Int) by omega]
  show IntKind.i64.wrap ((BitVec.ofInt 64 ((m % 128 : Nat) : Int) ||| BitVec.ofInt 64 128).toNat : Nat) % 256 = _
  rw [BitVec.ofInt_natCast, show (128 : Int) = ((128 : Nat) : Int) from rfl, BitVec.ofInt_natCast, BitVec.toNat_or, BitVec.toNat_ofNat, BitVec.toNat_ofNat, Nat.mod_eq_of_lt (by omega), show 128 % 2 ^ 64 = 128 from rfl, Nat.or_comm, nat_join 7 128 (m % 128) (by decide) (by omega), IntKind.wrap_i64]
  omega

theorem specAppendUvarint_any (a : Option Addr) (c : Nat) (l : List Int) (n : Int) (w : World) (hr : Reads w w.heap.size a (ints .u8 l)) (hl : l.length ≤ 1000000000000) :
    Calls Try.prog 68 #[.slice a l.length c, .int .i64 n] w (Gave w w.heap.size 5 .u8 (l ++ enc n)) := by
  obtain ⟨i0, hi, hz0, hz1, hz2⟩ := infoOf _ _ _ _ info8
  have H := Lib.hid (hr.below (below_alloc (Below.refl _ _) (.cells #[] 5) (Nat.le_refl _)))
  have HB := Lib.hid (Nat.le_refl w.heap.size)
  clear hr
  by_cases hn : 0 ≤ n ∧ n ≤ 1000000000000
  · obtain ⟨h0, h1⟩ := hn
    have hin : L1.inB n 0 1000000000000 = true := L1.inB_true.mpr ⟨h0, h1⟩
    obtain ⟨m0, rfl⟩ : ∃ m : Nat, n = m := ⟨n.toNat, by omega⟩
    have HE := Lib.hid (enc_in h0 h1)
    have HL := Lib.hid (enc_len m0)
    go_enter Try.func68, Try.ntmps68
    go_wp2_with (first | (at_builtin; refine wpList_append_src _ rfl _ _ 22 rfl w.heap.size 5 i0 (.int .u8 0) 1 Try.underlying22 hi hz0 hz1 hz2 rfl .u8 _ _ _ [] rfl rfl (Own.empty w 5 .u8 (Nat.le_refl _)) w.heap.size _ _ _ l rfl rfl H.out (by simp [maxLen]; omega) (by simp; omega) (by simp) ?_; intro a1 c1 w1 ho1 hg1) | (go_at_call 63; refine (L1.l1In_any _ _ _ _).mono ?_; rw [hin]; rintro e w' ⟨rfl, rfl⟩))
    have hb1 := (below_alloc (Below.refl _ _) (.cells #[] 5) (Nat.le_refl _)).trans (below_own (Own.empty w 5 .u8 (Nat.le_refl _)) hg1 (by simp))
    have H1 := Lib.hid (And.intro ho1 hb1)
    clear ho1 hb1 hg1
    go_loopw [1, 5] (fun v s wr => ∃ (m : Nat) (a1 : Option Addr) (c1 : Nat) (l1 : List Int) (n1 : Nat), s = .slice a1 n1 c1 ∧ v = .int .i64 m ∧ m ≤ 1000000000000 ∧ n1 ≤ 1099511627790 ∧ Hid (Own wr w.heap.size 5 .u8 a1 c1 l1 ∧ Below w.heap.size w wr ∧ l1 ++ uv m = l ++ enc m0 ∧ n1 = l1.length)) (fun v _ _ => (intOf v).toNat)
    case atStart => exact ⟨m0, a1, c1, [] ++ l, _, rfl, rfl, by omega, by omega, H1.out.1, H1.out.2, by rw [HE.out]; rfl, by simp⟩
    case round =>
      obtain ⟨m, a1, c1, l1, n1, rfl, rfl, hm, hn1, hrel⟩ := hrel
      by_cases hlt : m < 128
      · have hc : ¬ (127 : Int) < m := by omega
        go_wp2_with (at_builtin; refine wpList_append_src _ rfl _ _ 22 rfl w.heap.size 5 i0 (.int .u8 0) 1 Try.underlying22 hi hz0 hz1 hz2 rfl .u8 a1 n1 c1 l1 rfl hrel.out.2.2.2 (own_alloc hrel.out.1 _) _ _ 1 1 [_] rfl rfl (reads_one _ _ _ _) (by have := hrel.out.2.2.2; simp [maxLen]; omega) (by have := hrel.out.2.2.2; simp; omega) (Nat.le_trans hrel.out.2.1.size (by simp)) ?_; intro a2 c2 w2 ho2 hg2)
        go_ret
        obtain ⟨h1, h2, h3, h4⟩ := hrel.out
        refine Gave.mk ?_ (l := l ++ enc m0) ?_ ?_
        · rw [← h3, uv_small hlt]; simp
        · rw [← h3, uv_small hlt]; exact ho2
        · have hb1 := below_alloc h2 (.cells #[.int .u8 m] 5) HB.out
          exact hb1.trans (below_own (own_alloc h1 _) hg2 hb1.size)
      · have hc : (127 : Int) < m := by omega
        have e1 := and_127 m (by omega)
        go_wp2_with (at_builtin; refine wpList_append_src _ rfl _ _ 22 rfl w.heap.size 5 i0 (.int .u8 0) 1 Try.underlying22 hi hz0 hz1 hz2 rfl .u8 a1 n1 c1 l1 rfl hrel.out.2.2.2 (own_alloc hrel.out.1 _) _ _ 1 1 [_] rfl rfl (reads_one _ _ _ _) (by have := hrel.out.2.2.2; simp [maxLen]; omega) (by have := hrel.out.2.2.2; simp; omega) (Nat.le_trans hrel.out.2.1.size (by simp)) ?_; intro a2 c2 w2 ho2 hg2)
        obtain ⟨h1, h2, h3, h4⟩ := hrel.out
        have hb1 := below_alloc h2 (.cells #[.int .u8 (bits .or .i64 ((m : Int) % 128) 128 % 256)] 5) HB.out
        have hb2 := hb1.trans (below_own (own_alloc h1 _) hg2 hb1.size)
        have hle : l1.length + (uv m).length = l.length + (enc m0).length := by rw [← List.length_append, h3, List.length_append]
        have hp := uv_len_pos m
        have he := HL.out
        rw [or_128i] at ho2
        have HH := Lib.hid (And.intro ho2 (And.intro hb2 h3))
        clear ho2 hg2 hb1 hb2 h1 h2 h3 h4 e1
        go_roundw
        case rel => exact ⟨m / 128, a2, c2, _, l1.length + 1, rfl, by go_num, by omega, by omega, And.intro HH.out.1 (And.intro HH.out.2.1 (And.intro (by rw [List.append_assoc, ← HH.out.2.2, uv_big hlt]; rfl) (by simp)))⟩
        case measure => simp [intOf]; omega
  · have hout : L1.inB n 0 1000000000000 = false := L1.inB_false.mpr hn
    have HE := Lib.hid (enc_out hn)
    clear hn
    go_enter Try.func68, Try.ntmps68
    go_wp2_with (first | (at_builtin; refine wpList_append_src _ rfl _ _ 22 rfl w.heap.size 5 i0 (.int .u8 0) 1 Try.underlying22 hi hz0 hz1 hz2 rfl .u8 _ _ _ [] rfl rfl (Own.empty w 5 .u8 (Nat.le_refl _)) w.heap.size _ _ _ l rfl rfl H.out (by simp [maxLen]; omega) (by simp; omega) (by simp) ?_; intro a1 c1 w1 ho1 hg1) | (go_at_call 63; refine (L1.l1In_any _ _ _ _).mono ?_; rw [hout]; rintro e w' ⟨rfl, rfl⟩))
    go_ret
    have hb1 := (below_alloc (Below.refl _ _) (.cells #[] 5) (Nat.le_refl _)).trans (below_own (Own.empty w 5 .u8 (Nat.le_refl _)) hg1 (by simp))
    refine Gave.mk ?_ ?_ hb1
    · rw [HE.out]; simp
    · rw [HE.out, List.append_nil]; exact ho1

theorem implAppendBytes_any (a a2 : Option Addr) (c c2 : Nat) (l m : List Int) (w : World) (hr : Reads w w.heap.size a (ints .u8 l)) (hr2 : Reads w w.heap.size a2 (ints .u8 m)) (hc : l.length ≤ c) (hl : l.length ≤ 1000000000) (hm : m.length ≤ 1000000000) :
    Calls Try.prog 42 #[.slice a l.length c, .slice a2 m.length c2] w (Gave w w.heap.size 5 .u8 (l ++ enc m.length ++ m)) := by
  obtain ⟨i0, hi, hz0, hz1, hz2⟩ := infoOf _ _ _ _ info8
  have H1 := Lib.hid (implAppendUvarint_any a c l m.length w hr hc (by omega))
  have HL := Lib.hid (enc_len m.length)
  have H2 := Lib.hid hr2
  clear hr hr2 hc
  go_enter Try.func42, Try.ntmps42
  go_wp2_with (first | (go_at_call 41; refine H1.out.mono ?_; rintro e w1 ⟨a1, c1, rfl, ho1, hb1⟩) | (at_builtin; refine wpList_append_src _ rfl _ _ 22 rfl w.heap.size 5 i0 (.int .u8 0) 1 Try.underlying22 hi hz0 hz1 hz2 rfl .u8 _ _ _ (l ++ enc m.length) rfl (by simp) ho1 w.heap.size _ _ _ m rfl rfl (H2.out.below hb1) (by have := HL.out; simp [maxLen]; omega) (by have := HL.out; simp; omega) hb1.size ?_; intro a3 c3 w3 ho3 hg3))
  go_ret
  exact Gave.mk (by simp [Nat.add_assoc]) ho3 (hb1.trans (below_own ho1 hg3 hb1.size))
theorem specAppendBytes_any (a a2 : Option Addr) (c c2 : Nat) (l m : List Int) (w : World) (hr : Reads w w.heap.size a (ints .u8 l)) (hr2 : Reads w w.heap.size a2 (ints .u8 m)) (hc : l.length ≤ c) (hl : l.length ≤ 1000000000) (hm : m.length ≤ 1000000000) :
    Calls Try.prog 69 #[.slice a l.length c, .slice a2 m.length c2] w (Gave w w.heap.size 5 .u8 (l ++ enc m.length ++ m)) := by
  obtain ⟨i0, hi, hz0, hz1, hz2⟩ := infoOf _ _ _ _ info8
  have H1 := Lib.hid (specAppendUvarint_any a c l m.length w hr  (by omega))
  have HL := Lib.hid (enc_len m.length)
  have H2 := Lib.hid hr2
  clear hr hr2 hc
  go_enter Try.func69, Try.ntmps69
  go_wp2_with (first | (go_at_call 68; refine H1.out.mono ?_; rintro e w1 ⟨a1, c1, rfl, ho1, hb1⟩) | (at_builtin; refine wpList_append_src _ rfl _ _ 22 rfl w.heap.size 5 i0 (.int .u8 0) 1 Try.underlying22 hi hz0 hz1 hz2 rfl .u8 _ _ _ (l ++ enc m.length) rfl (by simp) ho1 w.heap.size _ _ _ m rfl rfl (H2.out.below hb1) (by have := HL.out; simp [maxLen]; omega) (by have := HL.out; simp; omega) hb1.size ?_; intro a3 c3 w3 ho3 hg3))
  go_ret
  exact Gave.mk (by simp [Nat.add_assoc]) ho3 (hb1.trans (below_own ho1 hg3 hb1.size))

theorem implStep_any (B : Nat) (a : Option Addr) (c : Nat) (l : List Int) (n : Int) (w : World) (h : Own w B 5 .u8 a c l) (hl : l.length ≤ 1000000000000) (hB : B ≤ w.heap.size) :
    Calls Try.prog 66 #[.slice a l.length c, .int .i64 n] w (Gave w B 5 .u8 (l ++ enc n)) := extend_any B a c l n w h (by omega) hB
theorem specStep_any (B : Nat) (a : Option Addr) (c : Nat) (l : List Int) (n : Int) (w : World) (h : Own w B 5 .u8 a c l) (hl : l.length ≤ 1000000000000) (hB : B ≤ w.heap.size) :
    Calls Try.prog 68 #[.slice a l.length c, .int .i64 n] w (Gave w B 5 .u8 (l ++ enc n)) :=
  (specAppendUvarint_any a c l n w h.reads hl).mono fun _ _ ⟨a1, c1, he, ho, hb⟩ => ⟨a1, c1, he, ho.base hB, hb.mono hB⟩
end Go.Proofs.Ytephiilicebdcaa.L2

/-
  The contracts of chapter 2's readers: ReadUvarint of the specification and of the program. Conditions: the bytes read as a list of numbers from 0 to 255, of at most 2^40.
-/
namespace Go.Proofs.Ytephiilicebdcaa.L2
set_option maxRecDepth 100000
open Go.ChangeShapes Go.WideShapes Go.ChangeAt Go.RowKit Mem Sl Ex
set_option linter.unusedVariables false

def Byt (l : List Int) : Prop := ∀ x ∈ l, 0 ≤ x ∧ x ≤ 255
theorem Byt.get {l : List Int} (h : Byt l) (k : Nat) (hk : k < l.length) : 0 ≤ l[k] ∧ l[k] ≤ 255 := h _ (List.getElem_mem hk)

/-- The tuple that a reading gives. -/
def RdE (l : List Int) (off : Int) : Ending := .returned (.tuple #[.int .i64 (rdN l off), .int .i64 (rdE l off), .bool (rdB l off)])
theorem RdE.none {l : List Int} {off : Int} (h : rd l off = none) : RdE l off = .returned (.tuple #[.int .i64 0, .int .i64 0, .bool false]) := by
  unfold RdE rdN rdE rdB
  rw [h]; rfl
theorem RdE.some {l : List Int} {off v e : Int} {m : Nat} (h : rd l off = some (v, m)) (he : off + m = e) : RdE l off = .returned (.tuple #[.int .i64 v, .int .i64 e, .bool true]) := by
  unfold RdE
  rw [rdN_of h, rdE_of h, rdB_of h, he]
theorem rd_neg {l : List Int} {off : Int} (h : off < 0) : rd l off = none := by unfold rd; rw [if_neg (by omega)]
theorem rd_beyond {l : List Int} {off : Int} (h : (l.length : Int) ≤ off) : rd l off = none := by
  unfold rd
  rw [if_pos (by omega), List.drop_eq_nil_of_le (by omega)]
  rfl

/-- A reading that has come k bytes far. -/
def Mid (l : List Int) (o k : Nat) (v : Int) : Prop := 0 ≤ v ∧ v < 128 ^ k ∧ rd l o = rdAux k v (l.drop (o + k))
theorem Mid.start (l : List Int) (o : Nat) : Mid l o 0 0 := ⟨by omega, by decide, by
  unfold rd
  rw [if_pos (by omega)]
  simp⟩
theorem Mid.ends {l : List Int} {o k : Nat} {v : Int} (h : Mid l o k v) (hk : l.length ≤ o + k) : rd l o = none := by
  rw [h.2.2, List.drop_eq_nil_of_le hk]; rfl
theorem Mid.six {l : List Int} {o : Nat} {v : Int} (h : Mid l o 6 v) : rd l o = none := by
  rw [h.2.2]
  cases l.drop (o + 6) with
  | nil => rfl
  | cons c s => simp [rdAux]
theorem Mid.cons {l : List Int} {o k : Nat} {v : Int} (h : Mid l o k v) (hk : o + k < l.length) (h6 : k < 6) :
    rd l o = if l[o + k] < 128 then (if (l[o + k] = 0 ∧ 0 < k) ∨ 1000000000000 < v + l[o + k] % 128 * 128 ^ k then none else some (v + l[o + k] % 128 * 128 ^ k, k + 1)) else rdAux (k + 1) (v + l[o + k] % 128 * 128 ^ k) (l.drop (o + (k + 1))) := by
  rw [h.2.2, List.drop_eq_getElem_cons hk, rdAux, if_neg (by omega)]
  rfl
theorem Mid.next {l : List Int} {o k : Nat} {v : Int} (h : Mid l o k v) (hk : o + k < l.length) (h6 : k < 6) (hc : ¬ l[o + k] < 128) : Mid l o (k + 1) (v + l[o + k] % 128 * 128 ^ k) := by
  have hp : (0 : Int) < 128 ^ k := Int.pow_pos (by decide)
  have h1 := Int.mul_nonneg (show 0 ≤ l[o + k] % 128 by omega) (Int.le_of_lt hp)
  have h2 : l[o + k] % 128 * 128 ^ k ≤ 127 * 128 ^ k := Int.mul_le_mul_of_nonneg_right (by omega) (Int.le_of_lt hp)
  obtain ⟨h3, h4, _⟩ := h
  refine ⟨by omega, ?_, ?_⟩
  · rw [Int.pow_succ]
    generalize (128 : Int) ^ k = p at *
    omega
  · rw [Mid.cons ⟨h3, h4, by assumption⟩ hk h6, if_neg hc]

theorem pow7 (k : Nat) : (2 : Int) ^ (7 * k) = 128 ^ k := by rw [Int.pow_mul]; rfl
theorem pow7n (k : Nat) : (2 : Nat) ^ (7 * k) = 128 ^ k := by rw [Nat.pow_mul]
theorem pow_6 (k : Nat) (h : k < 6) : (128 : Nat) ^ k ≤ 34359738368 := by
  have := Nat.pow_le_pow_right (show 0 < 128 by decide) (show k ≤ 5 by omega)
  have e : (128 : Nat) ^ 5 = 34359738368 := by decide
  omega
theorem or_i64 (a b : Nat) (ha : a < 4611686018427387904) (hb : b < 4611686018427387904) : bits .or .i64 (a : Int) (b : Int) = ((a ||| b : Nat) : Int) := by
  show IntKind.i64.wrap ((BitVec.ofInt 64 (a : Int) ||| BitVec.ofInt 64 (b : Int)).toNat : Nat) = _
  have h := Nat.or_lt_two_pow (x := a) (y := b) (n := 62) (by omega) (by omega)
  rw [BitVec.ofInt_natCast, BitVec.ofInt_natCast, BitVec.toNat_or, BitVec.toNat_ofNat, BitVec.toNat_ofNat, Nat.mod_eq_of_lt (by omega), Nat.mod_eq_of_lt (by omega), IntKind.wrap_i64]
  omega
/-- One group more. -/
theorem group_in (x y : Int) (k : Nat) (hk : k < 6) (h0 : 0 ≤ x) (h1 : x < 128 ^ k) (h2 : 0 ≤ y) (h3 : y ≤ 255) :
    bits .or .i64 x (wrap64 (bits .and .i64 y 127 * 2 ^ (7 * k))) = x + y % 128 * 128 ^ k := by
  obtain ⟨X, rfl⟩ : ∃ n : Nat, x = n := ⟨x.toNat, by omega⟩
  obtain ⟨Y, rfl⟩ : ∃ n : Nat, y = n := ⟨y.toNat, by omega⟩
  have hp := pow_6 k hk
  have hX : X < 128 ^ k := by
    have e : ((128 ^ k : Nat) : Int) = 128 ^ k := Int.natCast_pow 128 k
    omega
  rw [and_127 Y (by omega), pow7]
  have e1 : ((Y % 128 : Nat) : Int) * 128 ^ k = ((Y % 128 * 128 ^ k : Nat) : Int) := by rw [Int.natCast_mul, Int.natCast_pow]; rfl
  have hb : Y % 128 * 128 ^ k ≤ 127 * 34359738368 := Nat.mul_le_mul (by omega) hp
  rw [e1, IntWalk.wrap64_in _ ⟨by omega, by omega⟩, or_i64 _ _ (by omega) (by omega), Nat.or_comm, nat_join (7 * k) _ X (by rw [pow7n]; exact Nat.mul_mod_left ..) (by rw [pow7n]; exact hX),
    show (Y : Int) % 128 = ((Y % 128 : Nat) : Int) by omega, e1]
  omega


theorem and_u8 (y : Int) (h2 : 0 ≤ y) (h3 : y ≤ 255) : bits .and .u8 y 127 = bits .and .i64 y 127 := by
  obtain ⟨Y, rfl⟩ : ∃ n : Nat, y = n := ⟨y.toNat, by omega⟩
  rw [and_127 Y (by omega), show (127 : Int) = ((127 : Nat) : Int) from rfl, u8_and_nat Y 127 (by omega) (by omega), nat_mask7]
theorem group_in8 (x y : Int) (k : Nat) (hk : k < 6) (h0 : 0 ≤ x) (h1 : x < 128 ^ k) (h2 : 0 ≤ y) (h3 : y ≤ 255) :
    bits .or .i64 x (wrap64 (wrap64 (bits .and .u8 y 127) * 2 ^ (7 * k))) = x + y % 128 * 128 ^ k := by
  have e : wrap64 (bits .and .u8 y 127) = bits .and .u8 y 127 := by
    obtain ⟨Y, rfl⟩ : ∃ n : Nat, y = n := ⟨y.toNat, by omega⟩
    rw [and_u8 _ h2 h3, and_127 Y (by omega)]
    exact IntWalk.wrap64_in _ ⟨by omega, by omega⟩
  rw [e, and_u8 y h2 h3]; exact group_in x y k hk h0 h1 h2 h3

theorem minB_any (a b : Int) (w : World) :
    Calls Try.prog 64 #[.int .i64 a, .int .i64 b] w fun e w' => e = .returned (.int .i64 (min a b)) ∧ Below w.heap.size w w' := by
  have hc : (w.alloc (.cells #[.int .i64 b] 3)).cell? ⟨w.heap.size, 0, none⟩ = some (.int .i64 b) := by simp [go_sem]
  go_enter Try.func64, Try.ntmps64
  go_wp2_with (go_at_call 83; refine (L1.extremes_one _ _ _ _ hc).mono ?_; rintro e w' ⟨rfl, rfl⟩)
  go_ret
  exact ⟨rfl, by repeat (first | exact Below.refl _ _ | apply Below.drew | (refine Below.alloc ?_ (by simp) _))⟩
set_option maxHeartbeats 600000 in
theorem implRead_any (a : Option Addr) (c : Nat) (l : List Int) (off : Int) (w : World) (B : Nat) (hB : B ≤ w.heap.size) (hr : Reads w B a (ints .u8 l)) (hb : Byt l) (hc : l.length ≤ c) (hl : l.length ≤ 1099511627776) (ho1 : -9223372036854775808 ≤ off) (ho2 : off ≤ 9223372036854775807) :
    Calls Try.prog 39 #[.slice a l.length c, .int .i64 off] w fun e w' => e = RdE l off ∧ Below w.heap.size w w' := by
  obtain ⟨n, hn⟩ : ∃ n, n = l.length := ⟨_, rfl⟩
  have hl' : n ≤ 1099511627776 := by omega
  rw [← hn]
  have hc' : n ≤ c := by omega
  have HN := Lib.hid hn
  by_cases h0 : off < 0 ∨ (n : Int) < off
  · have hin : L1.inB off 0 n = false := L1.inB_false.mpr (by omega)
    have HR := Lib.hid (show rd l off = none by rcases h0 with h | h; exact rd_neg h; exact rd_beyond (by omega))
    clear hr hb hl hn hc h0
    go_enter Try.func39, Try.ntmps39
    go_wp2_with (go_at_call 48; refine (L1.inRange_any _ _ _ _).mono ?_; rw [hin]; rintro e w' ⟨rfl, rfl⟩)
    go_ret3
    exact ⟨(RdE.none HR.out).symm, Below.refl _ _⟩
  · obtain ⟨o, rfl⟩ : ∃ o : Nat, off = o := ⟨off.toNat, by omega⟩
    have hon : o ≤ n := by omega
    have hin : L1.inB (o : Int) 0 n = true := L1.inB_true.mpr (by omega)
    obtain ⟨t, ht⟩ : ∃ t : Nat, t = min (o + 6) n := ⟨_, rfl⟩
    have hmin : min ((o : Int) + 6) n = (t : Int) := by omega
    have hto : o ≤ t := by omega
    have htn : t ≤ n := by omega
    have hp := hr.partInts o t c hto (by omega) (by omega)
    obtain ⟨A, hA⟩ : ∃ A, (if c = o then a else a.map (·.add o)) = A := ⟨_, rfl⟩
    obtain ⟨p, hpl⟩ : ∃ p, p = (l.drop o).take (t - o) := ⟨_, rfl⟩
    rw [hA, ← hpl] at hp
    obtain ⟨m, hm⟩ : ∃ m, t - o = m := ⟨_, rfl⟩
    have hplen : p.length = m := by rw [hpl, ← hm]; simp; omega
    have HP := Lib.hid (And.intro hp (And.intro hplen hpl))
    have HT := Lib.hid ht
    have HM0 := Lib.hid hm
    have H := Lib.hid (And.intro hr hb)
    clear hr hb hl hn hc h0 hpl hplen hp ht
    go_enter Try.func39, Try.ntmps39
    go_wp2_with (first | (go_at_call 48; refine (L1.inRange_any _ _ _ _).mono ?_; rw [hin]; rintro e w' ⟨rfl, rfl⟩) | (go_at_call 64; refine (minB_any _ _ _).mono ?_; rw [hmin]; rintro e w1 ⟨rfl, hb1⟩))
    have HP1 := Lib.hid (HP.out.1.below (hb1.mono hB))
    have HB1 := Lib.hid hb1
    clear hb1 hmin hin
    go_loop [7, 25] (fun v i => ∃ (k : Nat) (x : Int), k ≤ m ∧ i = .int .i64 k ∧ v = .int .i64 x ∧ Hid (Mid l o k x)) (fun _ i => m - (intOf i).toNat)
    case atStart => exact ⟨0, 0, by omega, rfl, rfl, Mid.start l o⟩
    case round =>
      obtain ⟨k, x, hk, rfl, rfl, hrel⟩ := hrel
      by_cases hlt : k < m
      · have hk5 : k < 6 := by have := HT.out; have := HM0.out; omega
        have hol : o + k < l.length := by have := HT.out; have := HM0.out; have := HN.out; omega
        have HOL := Lib.hid hol
        obtain ⟨ad, rfl, -, hcell⟩ := HP1.out.int k (by rw [HP.out.2.1]; exact hlt)
        have hpk : p[k]'(by rw [HP.out.2.1]; exact hlt) = l[o + k]'hol := by
          have e : ∀ (q : List Int) (h : k < q.length), q = (l.drop o).take (t - o) → q[k]'h = l[o + k]'hol := by
            rintro q h rfl
            rw [List.getElem_take, List.getElem_drop]
          exact e p _ HP.out.2.2
        rw [hpk] at hcell
        have hby := H.out.2.get (o + k) hol
        have HM := Lib.hid (hrel.out.cons hol hk5)
        obtain ⟨y, hy⟩ : ∃ y, y = l[o + k]'hol := ⟨_, rfl⟩
        rw [← hy] at hcell hby HM
        have HY := Lib.hid hy
        clear hy hpk
        obtain ⟨hy0, hy1⟩ := hby
        have HG := Lib.hid (group_in8 x y k hk5 hrel.out.1 hrel.out.2.1 hy0 hy1)
        obtain ⟨z, hz⟩ : ∃ z, z = x + y % 128 * 128 ^ k := ⟨_, rfl⟩
        have HZ := Lib.hid hz
        clear hz
        have hzn : 0 ≤ z := by
          have := Int.mul_nonneg (show 0 ≤ y % 128 by omega) (Int.le_of_lt (Int.pow_pos (show (0 : Int) < 128 by decide) : 0 < (128 : Int) ^ k))
          have := HZ.out
          have := hrel.out.1
          omega
        by_cases hy2 : y < 128
        · by_cases hk0 : k = 0
          · subst hk0
            have hx0 : x = 0 := by have := hrel.out.1; have := hrel.out.2.1; simp at this; omega
            subst hx0
            have hz1 : z = y := by
              rw [HZ.out, Int.pow_zero, Int.mul_one, Int.zero_add]
              omega
            subst hz1
            have hn128 : ¬ (128 ≤ z) := by omega
            have hzm : ¬ (1000000000000 < z) := by omega
            have hg := HG.out
            rw [← HZ.out, Nat.mul_zero, Int.pow_zero, Int.mul_one] at hg
            have hcell0 : w1.cell? ad = some (.int .u8 z) := by simpa [Addr.add] using hcell
            go_wp2
            clear hg
            go_ret3
            refine ⟨(RdE.some (m := 1) ?_ (by omega)).symm, HB1.out⟩
            rw [HM.out, if_pos (by omega), if_neg (by rw [← HZ.out]; omega), ← HZ.out]
          · have hkp : ((k : Int) == 0) = false := by simp; omega
            have hkn : (k == 0) = false := by simp; omega
            by_cases hy3 : y = 0
            · subst hy3
              go_wp2
              go_ret3
              refine ⟨(RdE.none ?_).symm, HB1.out⟩
              rw [HM.out, if_pos (by omega), if_pos (Or.inl (And.intro (by simp) (by omega)))]
            · have hg := HG.out
              rw [← HZ.out] at hg
              have hne : (y == 0) = false := by simpa using hy3
              have hne' : (y != 0) = true := by simpa using hy3
              have hn128 : ¬ (128 ≤ y) := by omega
              by_cases hzm : z ≤ 1000000000000
              · go_wp2
                clear hg
                go_ret3
                refine ⟨(RdE.some (m := k + 1) ?_ (by omega)).symm, HB1.out⟩
                rw [HM.out, if_pos hy2, if_neg (by rw [← HZ.out]; omega), ← HZ.out]
              · have hzm' : 1000000000000 < z := by omega
                go_wp2
                go_ret3
                refine ⟨(RdE.none ?_).symm, HB1.out⟩
                rw [HM.out, if_pos hy2, if_pos (.inr (by rw [← HZ.out]; omega))]
        · have hg := HG.out
          rw [← HZ.out] at hg
          have hn128 : 128 ≤ y := by omega
          have HX := Lib.hid (hrel.out.next HOL.out hk5 (by rw [← HY.out]; exact hy2))
          go_wp2
          go_round
          case rel => exact ⟨k + 1, z, by omega, by go_num, rfl, by rw [HZ.out, HY.out]; exact HX.out⟩
          case measure => simp [intOf]; omega
      · go_wp2
        go_ret3
        refine ⟨(RdE.none ?_).symm, HB1.out⟩
        have h1 := HT.out
        have h2 := HM0.out
        by_cases h6 : k = 6
        · subst h6
          exact hrel.out.six
        · exact hrel.out.ends (by have := HN.out; omega)
end Go.Proofs.Ytephiilicebdcaa.L2

/-
  The contracts of chapter 2's ReadBytes, DecodeInts, EqualBytes and of chapter 3's EqualInts, specification and program. Conditions: the bytes read as a list of numbers from 0 to 255, of at most 2^40.
-/
namespace Go.Proofs.Ytephiilicebdcaa.L2
set_option maxRecDepth 100000
open Go.ChangeShapes Go.WideShapes Go.ChangeAt Go.RowKit Mem Sl Ex
set_option linter.unusedVariables false

/-- What ReadBytes gives. -/
def rbB (l : List Int) (off most : Int) : Bool := rdB l off && decide (rdN l off ≤ most) && decide (rdN l off ≤ (l.length : Int) - rdE l off)
def rbL (l : List Int) (off most : Int) : List Int := if rbB l off most = true then (l.drop (rdE l off).toNat).take (rdN l off).toNat else []
def rbE (l : List Int) (off most : Int) : Int := if rbB l off most = true then rdE l off + rdN l off else 0
theorem rb_no {l : List Int} {off most : Int} (h : rbB l off most = false) : rbL l off most = [] ∧ rbE l off most = 0 := by
  unfold rbL rbE
  rw [h]
  exact ⟨rfl, rfl⟩
theorem rb_yes {l : List Int} {off most : Int} (h : rbB l off most = true) : rbL l off most = (l.drop (rdE l off).toNat).take (rdN l off).toNat ∧ rbE l off most = rdE l off + rdN l off := by
  unfold rbL rbE
  rw [h]
  exact ⟨rfl, rfl⟩

/-- What a maker leaves that gives a slice, a number and a truth. -/
def GaveT (w : World) (B : Nat) (e : TypeId) (k : IntKind) (l : List Int) (v : Int) (b : Bool) (en : Ending) (w' : World) : Prop := ∃ a c, en = .returned (.tuple #[.slice a l.length c, .int .i64 v, .bool b]) ∧ Own w' B e k a c l ∧ Below B w w'
theorem GaveT.mk {w w' : World} {B : Nat} {e : TypeId} {k : IntKind} {l : List Int} {v v' : Int} {b b' : Bool} {a : Option Addr} {c n : Nat} (hn : n = l.length) (hv : v' = v) (hb : b' = b) (ho : Own w' B e k a c l) (hw : Below B w w') :
    GaveT w B e k l v b (.returned (.tuple #[.slice a n c, .int .i64 v', .bool b'])) w' := ⟨a, c, by rw [hn, hv, hb], ho, hw⟩

theorem implReadB_any (a : Option Addr) (c : Nat) (l : List Int) (off : Int) (w : World) (B : Nat) (hB : B ≤ w.heap.size) (hr : Reads w B a (ints .u8 l)) (hb : Byt l) (hc : l.length ≤ c) (hl : l.length ≤ 1099511627776) (ho1 : -9223372036854775808 ≤ off) (ho2 : off ≤ 9223372036854775807) :
    Calls Try.prog 39 #[.slice a l.length c, .int .i64 off] w fun e w' => e = RdE l off ∧ Below w.heap.size w w' :=
  implRead_any a c l off w B hB hr hb hc hl ho1 ho2

set_option maxHeartbeats 400000 in
theorem implReadBytes_any (a : Option Addr) (c : Nat) (l : List Int) (off most : Int) (w : World) (hr : Reads w w.heap.size a (ints .u8 l)) (hb : Byt l) (hc : l.length ≤ c) (hl : l.length ≤ 1099511627776) (ho1 : -9223372036854775808 ≤ off) (ho2 : off ≤ 9223372036854775807) :
    Calls Try.prog 65 #[.slice a l.length c, .int .i64 off, .int .i64 most] w (GaveT w w.heap.size 5 .u8 (rbL l off most) (rbE l off most) (rbB l off most)) := by
  obtain ⟨i0, hi, hz0, hz1, hz2⟩ := infoOf _ _ _ _ info8
  have hbd := rd_bounds hb off
  have HC := Lib.hid (implReadB_any a c l off w w.heap.size (Nat.le_refl _) hr hb hc hl ho1 ho2)
  unfold RdE at HC
  have HR := Lib.hid (And.intro hr (And.intro hb hc))
  obtain ⟨N, hN⟩ : ∃ N, N = rdN l off := ⟨_, rfl⟩
  obtain ⟨E, hE⟩ : ∃ E, E = rdE l off := ⟨_, rfl⟩
  obtain ⟨b, hbb⟩ : ∃ b, b = rdB l off := ⟨_, rfl⟩
  obtain ⟨n, hn⟩ : ∃ n, n = l.length := ⟨_, rfl⟩
  rw [← hN, ← hE, ← hbb, ← hn] at HC
  rw [← hN, ← hE, ← hn] at hbd
  rw [← hn] at hl hc ⊢
  have hz : b = false → N = 0 ∧ E = 0 := fun h => by rw [hN, hE]; exact rd_none (by rw [← hbb]; exact h)
  have hyes : ∀ (x : Bool), x = (b && decide (N ≤ most) && decide (N ≤ (n : Int) - E)) → rbB l off most = x := fun x hx => by rw [hx, hN, hE, hbb, hn]; rfl
  have HE := Lib.hid (And.intro hN (And.intro hE (And.intro hn hyes)))
  clear hr hb hN hE hbb hn hyes
  obtain ⟨hN0, hN1, hE0, hE1⟩ := hbd
  have hemp := fun w1 => Own.empty (B := w.heap.size) w1 5 .u8
  have HM := Lib.hid hemp
  clear hemp
  have hno : ∀ (w1 : World), Below w.heap.size w w1 → rbB l off most = false → GaveT w w.heap.size 5 .u8 (rbL l off most) (rbE l off most) (rbB l off most) (.returned (.tuple #[.slice (some ⟨w1.heap.size, 0, none⟩) 0 0, .int .i64 0, .bool false])) (w1.alloc (.cells #[] 5)) := fun w1 hb1 h => by
    obtain ⟨h1, h2⟩ := rb_no h
    rw [h, h1, h2]
    exact GaveT.mk rfl rfl rfl (HM.out w1 hb1.size) (below_alloc hb1 _ (Nat.le_refl _))
  have HNO := Lib.hid hno
  clear hno
  cases b with
  | false =>
    obtain ⟨hN', hE'⟩ := hz rfl
    clear hz
    subst hN' hE'
    go_enter Try.func65, Try.ntmps65
    go_wp2_with (go_at_call 39; refine HC.out.mono ?_; rintro e w1 ⟨rfl, hb1⟩)
    go_ret3
    exact HNO.out _ hb1 (HE.out.2.2.2 false rfl)
  | true =>
    clear hz
    by_cases h1 : N ≤ most
    · by_cases h2 : N ≤ (n : Int) - E
      · obtain ⟨N', rfl⟩ : ∃ k : Nat, N = k := ⟨N.toNat, by omega⟩
        obtain ⟨E', rfl⟩ : ∃ k : Nat, E = k := ⟨E.toNat, by omega⟩
        have hB1 := HE.out.2.2.2 true (by rw [decide_eq_true h1, decide_eq_true h2]; rfl)
        obtain ⟨h3, h4⟩ := rb_yes hB1
        have e3 : rbL l off most = (l.drop E').take (E' + N' - E') := by
          rw [h3, ← HE.out.1, ← HE.out.2.1]
          congr 1
          omega
        have e4 : rbE l off most = (E' : Int) + N' := by rw [h4, ← HE.out.1, ← HE.out.2.1]
        have H3 := Lib.hid e3
        have H4 := Lib.hid e4
        have H1 := Lib.hid hB1
        clear h3 h4 hB1 e3 e4
        have hlen : (rbL l off most).length = N' := by rw [H3.out]; have := HE.out.2.2.1; simp; omega
        have HLEN := Lib.hid hlen
        clear hlen
        obtain ⟨T, hT⟩ : ∃ T : Nat, T = E' + N' := ⟨_, rfl⟩
        have hend : (E' : Int) + (N' : Int) = (T : Int) := by omega
        have HTK := Lib.hid (fun (w1 : World) (h : Below w.heap.size w w1) => take_any a c l E' T w1 ((HR.out.1.below h).more h.size) (by have := HE.out.2.2.1; omega) (by have := HE.out.2.2.1; omega) (by omega) (by have := HE.out.2.2.1; omega))
        rw [← HE.out.2.2.1, hT, ← H3.out, ← hT] at HTK
        have HLEN2 := Lib.hid hT
        clear hT
        go_enter Try.func65, Try.ntmps65
        go_wp2_with (first | (go_at_call 39; refine HC.out.mono ?_; rintro e w1 ⟨rfl, hb1⟩) | (go_at_call 67; refine (HTK.out _ hb1).mono ?_; rintro e w2 ⟨a2, c2, rfl, ho2, hb2⟩))
        go_ret3
        refine GaveT.mk rfl ?_ H1.out.symm (ho2.base hb1.size) (hb1.trans (hb2.mono hb1.size))
        rw [H4.out]; omega
      · have hf := HNO.out
        have HF := Lib.hid (HE.out.2.2.2 false (by rw [decide_eq_false h2]; simp))
        clear hf
        go_enter Try.func65, Try.ntmps65
        go_wp2_with (go_at_call 39; refine HC.out.mono ?_; rintro e w1 ⟨rfl, hb1⟩)
        go_ret3
        exact HNO.out _ hb1 HF.out
    · have HF := Lib.hid (HE.out.2.2.2 false (by rw [decide_eq_false h1]; simp))
      go_enter Try.func65, Try.ntmps65
      go_wp2_with (go_at_call 39; refine HC.out.mono ?_; rintro e w1 ⟨rfl, hb1⟩)
      go_ret3
      exact HNO.out _ hb1 HF.out

/-! ### lists of numbers -/
def dc (l : List Int) : Int → Nat → Option (List Int × Int)
  | off, 0 => some ([], off)
  | off, n + 1 => match rd l off with
    | none => none
    | some (v, m) => (dc l (off + m) n).map fun p => (v :: p.1, p.2)
def dcO (l : List Int) (off count : Int) : Option (List Int × Int) := if L1.inB count 0 100 = true ∧ L1.inB off 0 l.length = true then dc l off count.toNat else none
def dcL (l : List Int) (off count : Int) : List Int := match dcO l off count with | some p => p.1 | none => []
def dcE (l : List Int) (off count : Int) : Int := match dcO l off count with | some p => p.2 | none => 0
def dcB (l : List Int) (off count : Int) : Bool := (dcO l off count).isSome
theorem dc_none {l : List Int} {off count : Int} (h : dcO l off count = none) : dcL l off count = [] ∧ dcE l off count = 0 ∧ dcB l off count = false := by
  unfold dcL dcE dcB
  rw [h]
  exact ⟨rfl, rfl, rfl⟩
theorem dc_some {l : List Int} {off count : Int} {p : List Int × Int} (h : dcO l off count = some p) : dcL l off count = p.1 ∧ dcE l off count = p.2 ∧ dcB l off count = true := by
  unfold dcL dcE dcB
  rw [h]
  exact ⟨rfl, rfl, rfl⟩
/-- k numbers in, acc so far, the next one lies at o. -/
def DcMid (l : List Int) (off : Int) (n k : Nat) (acc : List Int) (o : Int) : Prop := acc.length = k ∧ dc l off n = (dc l o (n - k)).map fun p => (acc ++ p.1, p.2)
theorem DcMid.start (l : List Int) (off : Int) (n : Nat) : DcMid l off n 0 [] off := ⟨rfl, by simp⟩
theorem DcMid.none {l : List Int} {off : Int} {n k : Nat} {acc : List Int} {o : Int} (h : DcMid l off n k acc o) (hk : k < n) (hr : rdB l o = false) : dc l off n = none := by
  rw [h.2, show n - k = (n - (k + 1)) + 1 by omega, dc]
  have e : rd l o = Option.none := by
    unfold rdB at hr
    cases hh : rd l o with
    | none => rfl
    | some p => rw [hh] at hr; cases hr
  rw [e]
  rfl
theorem DcMid.next {l : List Int} {off : Int} {n k : Nat} {acc : List Int} {o : Int} (h : DcMid l off n k acc o) (hk : k < n) (hr : rdB l o = true) : DcMid l off n (k + 1) (acc ++ [rdN l o]) (rdE l o) := by
  obtain ⟨h1, h2⟩ := rd_some hr
  refine ⟨by simp [h.1], ?_⟩
  rw [h.2, show n - k = (n - (k + 1)) + 1 by omega, dc, h1]
  simp only [Option.map_map]
  rw [show o + ((rdE l o - o).toNat : Int) = rdE l o by omega]
  congr 1
  funext p
  simp
theorem DcMid.done {l : List Int} {off : Int} {n : Nat} {acc : List Int} {o : Int} (h : DcMid l off n n acc o) : dc l off n = some (acc, o) := by
  rw [h.2, Nat.sub_self]
  simp [dc]

theorem info64 : (Try.prog.info? 3).map (fun i => (i.zero, i.size, i.bytes)) = some (some (.int .i64 0), 1, 8) := by kernel_rfl


/-! ### equality -/
theorem run_bytes_string {P : Program} (T E D : TypeId) (hs : P.underlying T = some (.slice E)) (he : P.underlying E = some (.int .u8)) (hd : P.underlying D = some .string) (a : Option Addr) (c : Nat) (l : List Int) (w : World) (B : Nat) (hr : Reads w B a (ints .u8 l)) :
    (convert T D (.slice a l.length c)).run P w = .ok (.string (strOfNums l)) w := by
  rcases a with _ | ad
  · have hl : l = [] := by
      rcases l with _ | ⟨x, l⟩
      · rfl
      · obtain ⟨ad, h, _⟩ := hr 0 (by simp [ints])
        cases h
    subst hl
    rw [run_convert_bytes_nil w T E hs he _ _ D hd]
    rfl
  · have hl : (loadCells ad l.length).run P w = .ok (l.map (Value.int .u8)).toArray w := by
      have := run_loadCells_list (P := P) w ad (l.map (Value.int .u8)) (fun j v hj => by
        have hjl := (List.getElem?_eq_some_iff.1 hj).1
        obtain ⟨ad', h, _, hc⟩ := hr j hjl
        injection h with h
        subst h
        rw [hc, ← hj, List.getElem?_eq_getElem hjl]
        rfl)
      simpa using this
    rw [run_convert_bytes_string w T D E _ l.length c hs he hd, run_bytesToString w _ l.length c l hl, foldl_push_bytes]
    simp [strOfNums, ByteArray.empty, ByteArray.emptyWithCapacity]
    rfl
theorem bytes_inj : ∀ (l m : List Int), Byt l → Byt m → (l.map fun n => UInt8.ofNat n.toNat) = (m.map fun n => UInt8.ofNat n.toNat) → l = m
  | [], [], _, _, _ => rfl
  | [], y :: m, _, _, h => by simp at h
  | x :: l, [], _, _, h => by simp at h
  | x :: l, y :: m, hl, hm, h => by
    simp only [List.map_cons, List.cons.injEq] at h
    have h1 := hl x (by simp)
    have h2 := hm y (by simp)
    have h3 := congrArg UInt8.toNat h.1
    simp only [UInt8.toNat_ofNat'] at h3
    rw [bytes_inj l m (fun z hz => hl z (by simp [hz])) (fun z hz => hm z (by simp [hz])) h.2]
    congr 1
    omega
theorem str_eq (l m : List Int) (hl : Byt l) (hm : Byt m) : ((strOfNums l).toList == (strOfNums m).toList) = eqB l m := by
  rw [ByteArray.toList_eq, ByteArray.toList_eq, strOfNums_data, strOfNums_data]
  unfold eqB
  rw [Bool.eq_iff_iff, beq_iff_eq, decide_eq_true_iff]
  exact ⟨bytes_inj l m hl hm, fun h => by rw [h]⟩

end Go.Proofs.Ytephiilicebdcaa.L2

/-
  The exact laws' steps over several owned things: an argument opens as a list of numbers; a copy, a comparison of two owned lists, marks and the look at the marks. No condition but a length below 2^40 where numbers are counted.
-/
namespace Go.Proofs.Ytephiilicebdcaa.Law
set_option maxRecDepth 100000
open Go.ChangeShapes Go.WideShapes Go.ChangeAt Go.RowKit Mem Sl Ex

section
variable {H : Type} {enc : TypeId × Value → H} {P : Program}
theorem open_list {W : World} {t e : TypeId} {k : IntKind} (ht : P.underlying t = some (.slice e)) (he : P.underlying e = some (.int k)) (hc : P.cellsOf e = 1) {b0 : Nat} {v : Value} {d : DataW H} {ps : List MemPlace}
    (hval : Value.okWide P W .any b0 t v) (h0 : DataW.Trod enc P W 0 (fun _ => true) true t v d ps) (hlt : ∀ x ∈ ps, x.block < W.heap.size) :
    ∃ (a : Option Addr) (l : List Int) (cap : Nat), v = .slice a l.length cap ∧ l.length ≤ cap ∧ cap ≤ 9223372036854775807 ∧ Reads W W.heap.size a (ints k l) ∧ ∀ n ∈ l, (Lit.int k n).wf = true := by
  obtain ⟨a0, len, cap, rfl⟩ := okWide_slice ht hval
  obtain ⟨fuel, hf⟩ := h0
  rcases open_ints ht he hc hf with ⟨hcs, hx⟩ | ⟨a, len', cap', zs, hcs, _, hl, hm, hz, hx, hcell, hwz⟩
  · simp [Value.cells] at hcs
    obtain ⟨rfl, rfl, rfl⟩ := hcs
    exact ⟨none, [], 0, rfl, Nat.le_refl _, by omega, Reads.nil, fun n hn => by simp at hn⟩
  · simp [Value.cells] at hcs
    obtain ⟨rfl, rfl, rfl⟩ := hcs
    simp only [Prod.mk.injEq] at hx
    obtain ⟨rfl, rfl⟩ := hx
    simp at hz
    have hlen : (zs.take len).length = len := by simp; omega
    refine ⟨some a, zs.take len, cap, by rw [hlen], by omega, by unfold maxLen at hm; omega, fun j hj => ?_, fun n hn => hwz n (List.mem_of_mem_take hn)⟩
    simp at hj
    refine ⟨a, rfl, ?_, ?_⟩
    · have := hlt (MemPlace.cell a.block (a.off + 0)) ?_
      · simpa [MemPlace.block] using this
      · exact List.mem_map.2 ⟨0, List.mem_range.2 (by omega), rfl⟩
    · rw [hcell j (by omega), ints_get _ _ _ (by simp; omega)]
      simp [List.getD_eq_getElem?_getD, List.getElem?_eq_getElem (show j < zs.length by omega)]
theorem wf_u8 {n : Int} (h : (Lit.int .u8 n).wf = true) : 0 ≤ n ∧ n ≤ 255 := by
  simpa [Lit.wf, IntKind.min, IntKind.max, IntKind.signed, IntKind.bits] using h
theorem wf_i64 {n : Int} (h : (Lit.int .i64 n).wf = true) : -9223372036854775808 ≤ n ∧ n ≤ 9223372036854775807 := by
  simpa [Lit.wf, IntKind.min, IntKind.max, IntKind.signed, IntKind.bits] using h
end

theorem Reads_of {W w : World} {rs : List Res} {a : Option Addr} {l : List Value} (h : Sep W w rs) (hr : Reads W W.heap.size a l) : Reads w w.heap.size a l := (hr.below h.old).more h.old.size
theorem Sep.drew {W w w' : World} {rs : List Res} (h : Sep W w rs) (hd : Drew w w') : Sep W w' rs := h.keep (hd.below _)

end Go.Proofs.Ytephiilicebdcaa.Law

/-
  The contracts of the specification's draws of chapter 1 (l1New, l1Byte, l1Below and what rests on them): which numbers and strings they can give, and that they write into nothing but their cursor. No condition beyond a cursor of the call's own.
-/
namespace Go.Proofs.Ytephiilicebdcaa.Draw
set_option maxRecDepth 100000
open Go.ChangeShapes Go.WideShapes Go.ChangeAt Go.RowKit Mem

theorem l1Byte_any (B c : Nat) (w : World) (hcur : Cur B w c) :
    Calls Try.prog 71 #[.pointer (some ⟨c, 0, none⟩)] w (Drawn B c w fun n => 0 ≤ n ∧ n ≤ 255) := by
  obtain ⟨hB, a, len, cap, i, h, hrow, hi, hlen, hby⟩ := hcur
  have c0 := hrow.cell 0
  have c1 := hrow.cell 1
  have c2 := hrow.cell 2
  have f1 := hrow.free 1
  have f2 := hrow.free 2
  simp at c0 c1 c2
  obtain ⟨X, hX⟩ : ∃ X : Int, X = wrap64 (wrap64 (h * 6364136223846793005) + 1442695040888963407) := ⟨_, rfl⟩
  have HX := Lib.hid hX
  clear hX
  have r1 := hrow.put 2 (.int .i64 X)
  have g1 := grownBy_put w c 2 (.int .i64 X)
  go_enter Try.func71, Try.ntmps71
  go_wp2
  rw [← HX.out]
  clear c0 c1 c2 f1 f2 HX
  generalize w.setCell ⟨c, 2, none⟩ (.int .i64 X) = w1 at r1 g1 ⊢
  have c0 := r1.cell 0
  have c1 := r1.cell 1
  have c2 := r1.cell 2
  have f1 := r1.free 1
  simp at c0 c1 c2
  go_quiet (fail)
  go_wp2
  have hx := and_mask (bits .xor .i64 (X / 8589934592) (X / 140737488355328)) 255 (by decide)
  generalize bits .and .i64 (bits .xor .i64 (X / 8589934592) (X / 140737488355328)) 255 = x at hx ⊢
  have g2 := grownBy_step g1 (grownBy_draws w1 nq (some c))
  replace r1 := r1.draws nq
  generalize w1.drewN _ = w2 at r1 g2 ⊢
  clear c0 c1 c2 f1 g1
  have c0 := r1.cell 0
  have c1 := r1.cell 1
  have f1 := r1.free 1
  simp at c0 c1
  obtain ⟨hx0, hx1⟩ := hx
  by_cases hlt : i < len
  · go_quiet (fail)
    go_wp2
    have g3 := grownBy_step g2 (grownBy_draws w2 nq (some c))
    replace r1 := r1.draws nq
    have hBw : B ≤ w.heap.size := Nat.le_trans hB (Nat.le_of_lt hrow.inside)
    have hby2 := hby.below (below_of g3 hBw (fun k hk => by cases hk; exact hB))
    generalize w2.drewN _ = w3 at r1 g3 hby2 ⊢
    clear c0 c1 f1 g2
    have c0 := r1.cell 0
    have c1 := r1.cell 1
    have f1 := r1.free 1
    simp at c0 c1
    obtain ⟨ad, y, rfl, -, hcy, hy0, hy1⟩ := hby2 i hlt
    go_quiet (fail)
    have HX := Lib.hid (and_mask (x + y) 255 (by decide))
    have g4 := grownBy_step (grownBy_step g3 (grownBy_draws w3 nq (some c))) (grownBy_put (w3.drewN nq) c 1 (.int .i64 (↑i + 1)))
    have r2 := (r1.draws nq).put 1 (.int .i64 (↑i + 1))
    have G := Lib.hid (And.intro g4 r2)
    clear g4 r2
    go_wp2
    go_ret
    obtain ⟨g4, r2⟩ := G.out
    exact ⟨_, rfl, HX.out, ⟨hB, _, len, cap, i + 1, X, by simpa using r2, by omega, hlen, hby.below (below_of g4 hBw (fun k hk => by cases hk; exact hB))⟩, g4⟩
  · go_quiet (fail)
    go_wp2
    go_ret
    have g4 := grownBy_step g2 (grownBy_draws w2 nq (some c))
    have hBw : B ≤ w.heap.size := Nat.le_trans hB (Nat.le_of_lt hrow.inside)
    exact ⟨_, rfl, ⟨hx0, hx1⟩, ⟨hB, a, len, cap, i, X, by simpa using r1.draws nq, hi, hlen, hby.below (below_of g4 hBw (fun k hk => by cases hk; exact hB))⟩, g4⟩

/-- The cursor stands, and since w0 no old block but the cursor's has turned. -/
def On (B c : Nat) (w0 w : World) : Prop := Cur B w c ∧ w0.grownBy w (some c)
theorem On.start {B c : Nat} {w : World} (h : Cur B w c) : On B c w w := ⟨h, grownBy_refl w _⟩
theorem On.alloc {B c : Nat} {w0 w : World} (h : On B c w0 w) (o : Obj) : On B c w0 (w.alloc o) := by
  have hB : B ≤ w.heap.size := by
    obtain ⟨hc, a, len, cap, i, x, hr, _⟩ := h.1
    exact Nat.le_trans hc (Nat.le_of_lt hr.inside)
  exact ⟨h.1.grown (World.grownBy_alloc w o none) (by simp) (by simp) hB, grownBy_step h.2 (World.grownBy_alloc w o _)⟩
/-- What a draw leaves: a number with P. -/
def Num (B c : Nat) (w0 : World) (P : Int → Prop) (e : Ending) (w' : World) : Prop := ∃ n, e = .returned (.int .i64 n) ∧ P n ∧ On B c w0 w'
theorem Num.weak {B c : Nat} {w0 : World} {P Q : Int → Prop} (h : ∀ n, P n → Q n) {e : Ending} {w' : World} (hd : Num B c w0 P e w') : Num B c w0 Q e w' := by
  obtain ⟨n, he, hp, ho⟩ := hd
  exact ⟨n, he, h n hp, ho⟩

theorem l1Byte_on {B c : Nat} {w0 w : World} (h : On B c w0 w) :
    Calls Try.prog 71 #[.pointer (some ⟨c, 0, none⟩)] w (Num B c w0 fun n => 0 ≤ n ∧ n ≤ 255) :=
  (l1Byte_any B c w h.1).mono fun _ _ ⟨n, he, hp, hc, hg⟩ => ⟨n, he, hp, hc, grownBy_step h.2 hg⟩

theorem l1Below_on {B c : Nat} {w0 w : World} (n : Int) (hn : 1 ≤ n) (hn2 : n ≤ 9223372036854775807) (h : On B c w0 w) :
    Calls Try.prog 49 #[.pointer (some ⟨c, 0, none⟩), .int .i64 n] w (Num B c w0 fun r => 0 ≤ r ∧ r < n) := by
  by_cases h256 : n ≤ 256
  · go_enter Try.func49, Try.ntmps49
    go_wp2_with (go_at_call 71; refine (l1Byte_on (by assumption)).mono ?_; rintro e w' ⟨x, rfl, ⟨hx0, hx1⟩, ho⟩)
    go_ret
    exact ⟨_, rfl, ⟨by first | exact Int.emod_nonneg _ (by omega) | exact Int.tmod_nonneg _ (by omega), by first | exact Int.emod_lt_of_pos _ (by omega) | exact Int.tmod_lt_of_pos _ (by omega)⟩, ho⟩
  · go_enter Try.func49, Try.ntmps49
    go_wp2_with (go_at_call 71; refine (l1Byte_on (by assumption)).mono ?_; rintro e w' ⟨x, rfl, ⟨hx0, hx1⟩, ho⟩)
    go_ret
    exact ⟨_, rfl, ⟨by first | exact Int.emod_nonneg _ (by omega) | exact Int.tmod_nonneg _ (by omega), by first | exact Int.emod_lt_of_pos _ (by omega) | exact Int.tmod_lt_of_pos _ (by omega)⟩, ho⟩

theorem l1Once_on {B c : Nat} {w0 w : World} (n : Int) (hn : 1 ≤ n) (hn2 : n ≤ 9223372036854775807) (h : On B c w0 w) :
    Calls Try.prog 45 #[.pointer (some ⟨c, 0, none⟩), .int .i64 n] w (fun e w' => ∃ b : Bool, e = .returned (.bool b) ∧ On B c w0 w') := by
  go_enter Try.func45, Try.ntmps45
  go_wp2_with (go_at_call 49; refine (l1Below_on _ (by assumption) (by assumption) (by assumption)).mono ?_; rintro e w' ⟨x, rfl, ⟨hx0, hx1⟩, ho⟩)
  go_ret
  exact ⟨_, rfl, ho⟩

/-- The cells of a list of numbers, each with P. -/
def Ints (w : World) (P : Int → Prop) (b len : Nat) : Prop := ∀ j, j < len → ∃ v, w.cell? ⟨b, j, none⟩ = some (.int .i64 v) ∧ P v
theorem Ints.on {B c b len : Nat} {w0 w : World} {P : Int → Prop} (h : Ints w0 P b len) (ho : On B c w0 w) (hb : b < w0.heap.size) (hbc : b ≠ c) : Ints w P b len := fun j hj => by
  obtain ⟨v, hc, hp⟩ := h j hj
  exact ⟨v, by rw [World.cell?_of_block (ho.2.block b hb (by simpa using hbc))]; exact hc, hp⟩

theorem l1Int_on {B c : Nat} {w0 w : World} {P : Int → Prop} (b len : Nat) (h1 : 1 ≤ len) (h2 : len ≤ 1000) (hP : Ints w P b len) (hb : b < w.heap.size) (hbc : b ≠ c) (h : On B c w0 w) :
    Calls Try.prog 32 #[.pointer (some ⟨c, 0, none⟩), .slice (some ⟨b, 0, none⟩) len len] w (Num B c w0 P) := by
  go_enter Try.func32, Try.ntmps32
  go_wp2_with (go_at_call 49; refine (l1Below_on _ (by omega) (by omega) (On.start h.1)).mono ?_; rintro e w' ⟨x, rfl, ⟨hx0, hx1⟩, ho⟩; obtain ⟨v, hcv, hpv⟩ := hP.on ho hb hbc x.toNat (by omega))
  go_ret
  exact ⟨v, rfl, hpv, ho.1, grownBy_step h.2 ho.2⟩

/-- The cells of a list of strings, each with P. -/
def Strs (w : World) (P : ByteArray → Prop) (b len : Nat) : Prop := ∀ j, j < len → ∃ v, w.cell? ⟨b, j, none⟩ = some (.string v) ∧ P v
theorem Strs.on {B c b len : Nat} {w0 w : World} {P : ByteArray → Prop} (h : Strs w0 P b len) (ho : On B c w0 w) (hb : b < w0.heap.size) (hbc : b ≠ c) : Strs w P b len := fun j hj => by
  obtain ⟨v, hc, hp⟩ := h j hj
  exact ⟨v, by rw [World.cell?_of_block (ho.2.block b hb (by simpa using hbc))]; exact hc, hp⟩
def Str (B c : Nat) (w0 : World) (P : ByteArray → Prop) (e : Ending) (w' : World) : Prop := ∃ s, e = .returned (.string s) ∧ P s ∧ On B c w0 w'

theorem l1Str_on {B c : Nat} {w0 w : World} {P : ByteArray → Prop} (b len : Nat) (h1 : 1 ≤ len) (h2 : len ≤ 1000) (hP : Strs w P b len) (hb : b < w.heap.size) (hbc : b ≠ c) (h : On B c w0 w) :
    Calls Try.prog 31 #[.pointer (some ⟨c, 0, none⟩), .slice (some ⟨b, 0, none⟩) len len] w (Str B c w0 P) := by
  go_enter Try.func31, Try.ntmps31
  go_wp2_with (go_at_call 49; refine (l1Below_on _ (by omega) (by omega) (On.start h.1)).mono ?_; rintro e w' ⟨x, rfl, ⟨hx0, hx1⟩, ho⟩; obtain ⟨v, hcv, hpv⟩ := hP.on ho hb hbc x.toNat (by omega))
  go_ret
  exact ⟨v, rfl, hpv, ho.1, grownBy_step h.2 ho.2⟩

/-- A list literal that the call has just laid. -/
theorem ints_lit (w : World) (t : TypeId) (l : List Int) (P : Int → Prop) (hP : ∀ v ∈ l, P v) : Ints (w.alloc (.cells (l.map (Value.int .i64)).toArray t)) P w.heap.size l.length := fun j hj => by
  refine ⟨l[j], ?_, hP _ (List.getElem_mem hj)⟩
  rw [(Row.made w t _).cell]
  simp [hj]
theorem strs_lit (w : World) (t : TypeId) (l : List ByteArray) (P : ByteArray → Prop) (hP : ∀ v ∈ l, P v) : Strs (w.alloc (.cells (l.map Value.string).toArray t)) P w.heap.size l.length := fun j hj => by
  refine ⟨l[j], ?_, hP _ (List.getElem_mem hj)⟩
  rw [(Row.made w t _).cell]
  simp [hj]
theorem On.lt {B c : Nat} {w0 w : World} (h : On B c w0 w) : c < w.heap.size := by
  obtain ⟨hc, a, len, cap, i, x, hr, _⟩ := h.1
  exact hr.inside


theorem mul_wrap {x y : Int} (h0 : 0 ≤ x) (h1 : x < 1000000) (h2 : 0 ≤ y) (h3 : y < 1000000) : 0 ≤ wrap64 (x * y) ∧ wrap64 (x * y) ≤ 1000000000000 := by
  have a := Int.mul_nonneg h0 h2
  have b : x * y ≤ 1000000 * 1000000 := Int.mul_le_mul (by omega) (by omega) h2 (by decide)
  rw [← IntWalk.i64_left, IntWalk.i64_in _ ⟨by omega, by omega⟩]
  omega




/-- A new cursor over the code. -/
def Made (B : Nat) (w : World) (e : Ending) (w' : World) : Prop := ∃ c, e = .returned (.pointer (some ⟨c, 0, none⟩)) ∧ w.heap.size ≤ c ∧ Cur B w' c ∧ Below w.heap.size w w'

theorem l1New_on {B : Nat} {w : World} (a : Option Addr) (len cap : Nat) (hB : B ≤ w.heap.size) (hlen : len ≤ 4611686018427387904) (hby : Bytes w B a len) :
    Calls Try.prog 29 #[.slice a len cap] w (Made B w) := by
  go_enter Try.func29, Try.ntmps29
  go_wp2
  go_loop [3, 4] (fun h i => ∃ (k : Nat) (x : Int), k ≤ len ∧ i = .int .i64 k ∧ h = .int .i64 x) (fun _ i => len - (intOf i).toNat)
  case atStart => exact ⟨0, _, Nat.zero_le _, rfl, rfl⟩
  case round =>
    obtain ⟨k, x, hk, rfl, rfl⟩ := hrel
    by_cases hlt : k < len
    · obtain ⟨ad, y, rfl, -, hcy, hy0, hy1⟩ := hby k hlt
      by_cases h4 : (k : Int) < 4000
      · go_wp2
        go_round
        case rel => exact ⟨k + 1, _, by omega, by go_num, rfl⟩
        case measure => simp [intOf]; omega
      · go_wp2
        go_ret
        refine ⟨_, rfl, Nat.le_refl _, ⟨hB, _, len, cap, 0, _, Row.made w _ _, Nat.zero_le _, hlen, hby.below ((Below.refl _ _).alloc hB _)⟩, (Below.refl _ _).alloc (Nat.le_refl _) _⟩
    · go_wp2
      go_ret
      refine ⟨_, rfl, Nat.le_refl _, ⟨hB, _, len, cap, 0, _, Row.made w _ _, Nat.zero_le _, hlen, hby.below ((Below.refl _ _).alloc hB _)⟩, (Below.refl _ _).alloc (Nat.le_refl _) _⟩
end Go.Proofs.Ytephiilicebdcaa.Draw

/-
  The draws' cursor as one of several things that lie apart; a draw of a number, an append and a made slice on this level; l1Bytes and the draws' start. No condition but that the code is a slice of bytes of at most 2^62 places.
-/
namespace Go.Proofs.Ytephiilicebdcaa.Sd
set_option maxRecDepth 100000
open Go.ChangeShapes Go.WideShapes Go.ChangeAt Go.RowKit Mem Sl Ex Draw

theorem set_same {α : Type} : ∀ {l : List α} {i : Nat} {x : α}, l[i]? = some x → l.set i x = l
  | [], _, _, h => by simp at h
  | y :: l, 0, x, h => by simp at h; simp [h]
  | y :: l, i + 1, x, h => by simp at h; simp [set_same h]
theorem at_left {α : Type} {l m : List α} {i : Nat} {x : α} (h : l[i]? = some x) : (l ++ m)[i]? = some x := by
  rw [List.getElem?_append_left (List.getElem?_eq_some_iff.1 h).1]; exact h
theorem at_last {α : Type} (l : List α) (x : α) : (l ++ [x])[l.length]? = some x := by simp
theorem set_last {α : Type} (l : List α) (x y : α) : (l ++ [x]).set l.length y = l ++ [y] := by simp

section
variable {W w w' : World} {rs : List Res} {r r' : Res}
/-- A thing is put in another's place; it may lie in new blocks. -/
theorem put_new (h : Sep W w rs) (i : Nat) (hi : rs[i]? = some r) (ht : Turned r.fp w w') (hr : r'.is w') (hf : ∀ b ∈ r'.fp, b ∈ r.fp ∨ (w.heap.size ≤ b ∧ b < w'.heap.size)) : Sep W w' (rs.set i r') := by
  have hlt : i < rs.length := (List.getElem?_eq_some_iff.1 hi).1
  have hsz := h.old.size
  have hcase : ∀ (j : Nat) (s : Res), (rs.set i r')[j]? = some s → (j ≠ i ∧ rs[j]? = some s) ∨ (j = i ∧ s = r') := fun j s hj => by
    rw [List.getElem?_set] at hj
    by_cases e : i = j
    · subst e
      rw [if_pos rfl, if_pos hlt] at hj
      exact .inr ⟨rfl, (Option.some.inj hj).symm⟩
    · rw [if_neg e] at hj
      exact .inl ⟨fun e' => e e'.symm, hj⟩
  refine ⟨h.old.trans (ht.below h.old.size (fun b hm => (h.lies i r hi b hm).1)), fun j s hj => ?_, fun j s hj b hm => ?_, fun j k s t hj hk hne b hm hm2 => ?_⟩
  · rcases hcase j s hj with ⟨hne, h1⟩ | ⟨rfl, rfl⟩
    · exact s.loc (fun b hm => ht.block b (h.lies j s h1 b hm).2 (h.apart j i s r h1 hi hne b hm)) (h.is j s h1)
    · exact hr
  · rcases hcase j s hj with ⟨hne, h1⟩ | ⟨rfl, rfl⟩
    · exact ⟨(h.lies j s h1 b hm).1, Nat.lt_of_lt_of_le (h.lies j s h1 b hm).2 ht.size⟩
    · rcases hf b hm with h2 | h2
      · exact ⟨(h.lies _ r hi b h2).1, Nat.lt_of_lt_of_le (h.lies _ r hi b h2).2 ht.size⟩
      · exact ⟨by omega, h2.2⟩
  · rcases hcase j s hj with ⟨hne1, h1⟩ | ⟨rfl, rfl⟩ <;> rcases hcase k t hk with ⟨hne2, h2⟩ | ⟨rfl, rfl⟩
    · exact h.apart j k s t h1 h2 hne b hm hm2
    · rcases hf b hm2 with h3 | h3
      · exact h.apart j _ s r h1 hi hne1 b hm h3
      · have := (h.lies j s h1 b hm).2; omega
    · rcases hf b hm with h3 | h3
      · exact h.apart k _ t r h2 hi hne2 b hm2 h3
      · have := (h.lies k t h2 b hm2).2; omega
    · exact hne rfl
end

/-- The cursor: its block; the code that it reads lies in the memory of the start. -/
def curR (W : World) (c : Nat) : Res where
  fp := [c]
  is w := ∃ (a : Option Addr) (len cap i : Nat) (h : Int), Row w c 88 #[.slice a len cap, .int .i64 i, .int .i64 h] ∧ i ≤ len ∧ len ≤ 4611686018427387904 ∧ Bytes W W.heap.size a len
  loc := fun hs ⟨a, len, cap, i, h, hr, r⟩ => ⟨a, len, cap, i, h, (hs c (by simp)).trans hr, r⟩

section
variable {W w w' : World} {rs : List Res} {c : Nat}
theorem cur_of (h : Sep W w rs) (i : Nat) (hi : rs[i]? = some (curR W c)) : Cur W.heap.size w c := by
  obtain ⟨a, len, cap, j, x, hr, h1, h2, h3⟩ := h.is i _ hi
  exact ⟨(h.lies i _ hi c (by simp [curR])).1, a, len, cap, j, x, hr, h1, h2, h3.below h.old⟩
theorem cur_on (h : Sep W w rs) (i : Nat) (hi : rs[i]? = some (curR W c)) : On W.heap.size c w w := On.start (cur_of h i hi)
theorem bytes_back {B : Nat} {a : Option Addr} {len : Nat} (h : Bytes w' B a len) (hb : Below B w w') : Bytes w B a len := fun j hj => by
  obtain ⟨ad, n, e, hB, hc, h0, h1⟩ := h j hj
  exact ⟨ad, n, e, hB, by rw [← hb.cell (by rw [add_block]; exact hB)]; exact hc, h0, h1⟩
theorem cur_is (hc : Cur W.heap.size w c) (hb : Below W.heap.size W w) : (curR W c).is w := by
  obtain ⟨_, a, len, cap, j, x, hr, h1, h2, h3⟩ := hc
  exact ⟨a, len, cap, j, x, hr, h1, h2, bytes_back h3 hb⟩
theorem moved (h : Sep W w rs) (i : Nat) (hi : rs[i]? = some (curR W c)) (ho : On W.heap.size c w w') : Sep W w' rs := by
  have ht : Turned (curR W c).fp w w' := Turned.of_grown ho.2
  have hb : Below W.heap.size W w' := h.old.trans (ht.below h.old.size (fun b hm => (h.lies i _ hi b hm).1))
  have := h.put i hi (r' := curR W c) ht (cur_is ho.1 hb) (fun b hb => hb)
  rwa [set_same hi] at this
/-- A draw of a number. -/
theorem num {F : Nat} {args : Array Value} {Q : Int → Prop} (h : Sep W w rs) (i : Nat) (hi : rs[i]? = some (curR W c)) (hC : Calls Try.prog F args w (Num W.heap.size c w Q)) :
    Calls Try.prog F args w fun e w' => ∃ n, e = .returned (.int .i64 n) ∧ Q n ∧ Sep W w' rs :=
  hC.mono fun _ _ ⟨n, he, hq, ho⟩ => ⟨n, he, hq, moved h i hi ho⟩
end

section
variable {W w : World} {rs : List Res} {c : Nat}
theorem byte_s (h : Sep W w rs) (i : Nat) (hi : rs[i]? = some (curR W c)) :
    Calls Try.prog 71 #[.pointer (some ⟨c, 0, none⟩)] w fun e w' => ∃ n, e = .returned (.int .i64 n) ∧ (0 ≤ n ∧ n ≤ 255) ∧ Sep W w' rs := num h i hi (l1Byte_on (cur_on h i hi))
theorem below_s (h : Sep W w rs) (i : Nat) (hi : rs[i]? = some (curR W c)) (n : Int) (h1 : 1 ≤ n) (h2 : n ≤ 9223372036854775807) :
    Calls Try.prog 49 #[.pointer (some ⟨c, 0, none⟩), .int .i64 n] w fun e w' => ∃ r, e = .returned (.int .i64 r) ∧ (0 ≤ r ∧ r < n) ∧ Sep W w' rs := num h i hi (l1Below_on n h1 h2 (cur_on h i hi))
theorem once_s (h : Sep W w rs) (i : Nat) (hi : rs[i]? = some (curR W c)) (n : Int) (h1 : 1 ≤ n) (h2 : n ≤ 9223372036854775807) :
    Calls Try.prog 45 #[.pointer (some ⟨c, 0, none⟩), .int .i64 n] w fun e w' => ∃ b : Bool, e = .returned (.bool b) ∧ Sep W w' rs :=
  (l1Once_on n h1 h2 (cur_on h i hi)).mono fun _ _ ⟨b, he, ho⟩ => ⟨b, he, moved h i hi ho⟩
/-- A number of a list that was just laid. -/
theorem int_s (h : Sep W w rs) (i : Nat) (hi : rs[i]? = some (curR W c)) (l : List Int) (Q : Int → Prop) (hQ : ∀ v ∈ l, Q v) (h1 : 1 ≤ l.length) (h2 : l.length ≤ 1000) :
    Calls Try.prog 32 #[.pointer (some ⟨c, 0, none⟩), .slice (some ⟨w.heap.size, 0, none⟩) l.length l.length] (w.alloc (.cells (l.map (Value.int .i64)).toArray 3)) fun e w' => ∃ r, e = .returned (.int .i64 r) ∧ Q r ∧ Sep W w' rs :=
  num (h.alloc _) i hi (l1Int_on w.heap.size l.length h1 h2 (ints_lit w 3 l Q hQ) (by simp) (fun e => by have := (cur_on h i hi).lt; omega) (cur_on (h.alloc _) i hi))
theorem new_s (h : Sep W w rs) (a : Option Addr) (len cap : Nat) (hlen : len ≤ 4611686018427387904) (hby : Bytes W W.heap.size a len) :
    Calls Try.prog 29 #[.slice a len cap] w fun e w' => ∃ c, e = .returned (.pointer (some ⟨c, 0, none⟩)) ∧ Sep W w' (rs ++ [curR W c]) :=
  (l1New_on a len cap h.old.size hlen (hby.below h.old)).mono fun _ w' ⟨c, he, hc, hcur, hb⟩ => ⟨c, he, by
    have hlt : c < w'.heap.size := by
      obtain ⟨_, a, len, cap, j, x, hr, _⟩ := hcur
      exact hr.inside
    exact h.push hb (cur_is hcur (h.old.trans (hb.mono h.old.size))) (fun b hm => by simp [curR] at hm; subst hm; exact ⟨hc, hlt⟩)⟩
end

/-! ### append -/
section
variable {P : Program} (w : World)
theorem run_append_own (B : Nat) (t ty e : TypeId) (i : TypeInfo) (z : Value) (bytes : Nat) (ht : P.underlying t = some (.slice e)) (hi : P.info? e = some i) (hz : i.zero = some z)
    (hsize : i.size = 1) (hby : i.bytes = bytes) (hzs : z.cells.size = 1) (k : IntKind) (a : Option Addr) (c : Nat) (l : List Int) (hown : Own w B e k a c l)
    (B' : Nat) (A : Option Addr) (c' : Nat) (m : List Int) (hr : Reads w B' A (ints k m))
    (h63 : l.length + m.length ≤ maxLen) (hbytes : (l.length + m.length) * bytes ≤ 140737488355328) (hbase : B ≤ w.heap.size) :
    ∃ a1 c1 w', (Builtin.append_ #[t, t] ty #[.slice a l.length c, .slice A m.length c']).run P w = .ok (.slice a1 (l.length + m.length) c1) w' ∧ Own w' B e k a1 c1 (l ++ m) ∧ w.grownBy w' (Value.slice a l.length c).ownBlock ∧
      ((Value.slice a1 (l ++ m).length c1).ownBlock = (Value.slice a l.length c).ownBlock ∨ (Value.slice a1 (l ++ m).length c1).ownBlock = some w.heap.size) := by
  have fin : ∀ {v' : Value} {w' : World}, w'.ownsRow B e 1 v' (l.length + m.length) (ints k l ++ ints k m) → ∃ a1 c1, v' = .slice a1 (l.length + m.length) c1 ∧ Own w' B e k a1 c1 (l ++ m) := by
    intro v' w' h
    rw [← ints_append] at h
    rcases h.2 with ⟨rfl, hn⟩ | ⟨g, cap, cur, rfl, _⟩
    · refine ⟨none, 0, by rw [hn], ?_⟩
      unfold Own
      rw [List.length_append, hn]
      rw [hn] at h
      exact h
    · refine ⟨_, cap, rfl, ?_⟩
      unfold Own
      rw [List.length_append]
      exact h
  rcases A with _ | ad
  · have hm : m = [] := by
      rcases m with _ | ⟨x, m⟩
      · rfl
      · obtain ⟨ad, h, _⟩ := hr 0 (by simp)
        cases h
    subst hm
    have hrun : (Builtin.append_ #[t, t] ty #[.slice a l.length c, .slice none 0 c']).run P w = .ok (.slice a l.length c) w := by
      rcases hown.form with ⟨rfl, rfl, rfl⟩ | ⟨g, rfl, _, _, h1, _⟩
      · simp [Builtin.append_, run_underlying ht, sizeOf, typeInfo, hi, Builtin.lenOf, Builtin.firstCells]
      · simp [Builtin.append_, run_underlying ht, sizeOf, typeInfo, hi, Builtin.lenOf, Builtin.firstCells, h1, storeCells]
    exact ⟨a, c, w, by simpa using hrun, by simpa using hown, grownBy_refl w _, .inl (by simp)⟩
  · have hcells : ∀ j u, (ints k m)[j]? = some u → w.cell? (ad.add j) = some u := by
      intro j u hu
      have hj := (List.getElem?_eq_some_iff.1 hu).1
      obtain ⟨ad', h, _, hc⟩ := hr j hj
      injection h with h
      subst h
      rw [hc, ← hu, List.getElem?_eq_getElem hj]
    obtain ⟨v', w', hrun, h2, h3, -, h5⟩ := run_append_own_at (P := P) w B t ty e i z 1 bytes ht hi hz hsize hby hzs (by omega) _ l.length (ints k l) hown ad m.length c' (ints k m) (by simp) hcells (ints_one k m) h63 hbytes hbase
    obtain ⟨a1, c1, rfl, ho⟩ := fin h2
    exact ⟨a1, c1, w', hrun, ho, h3, by rw [List.length_append]; exact h5⟩

theorem wpList_append_sep {ops : Array Oper} {rest : List Oper} {o : Oper} {act : Act} {Q : Exit → Act → World → Prop} (hgd : o.guard = none) (s x : Operand) (t : TypeId)
    (ho : o.op = .call { callee := .builtin .append, args := #[s, x], argTypes := #[t, t] })
    (e : TypeId) (i : TypeInfo) (z : Value) (bytes : Nat) (ht : P.underlying t = some (.slice e)) (hi : P.info? e = some i) (hz : i.zero = some z)
    (hsize : i.size = 1) (hby : i.bytes = bytes) (hzs : z.cells.size = 1) (k : IntKind) (a : Option Addr) (n c : Nat) (l : List Int) (hs : act.eval s = .slice a n c) (hn : n = l.length)
    (W : World) (rs : List Res) (hS : Sep W w rs) (ix : Nat) (hix : rs[ix]? = some (own e k a c l))
    (B' : Nat) (A : Option Addr) (n' c' : Nat) (m : List Int) (hx : act.eval x = .slice A n' c') (hn' : n' = m.length) (hr : Reads w B' A (ints k m))
    (h63 : l.length + m.length ≤ maxLen) (hbytes : (l.length + m.length) * bytes ≤ 140737488355328)
    (h : ∀ a1 c1 w', Sep W w' (rs.set ix (own e k a1 c1 (l ++ m))) → wpList P ops Q rest (act.put o.dst (.slice a1 (l.length + m.length) c1)) w') : wpList P ops Q (o :: rest) act w := by
  subst hn
  subst hn'
  refine wpList_plain hgd fun K hK => ?_
  obtain ⟨a1, c1, w', hrun, h2, h3, h4⟩ := run_append_own (P := P) w W.heap.size t o.type e i z bytes ht hi hz hsize hby hzs k a c l (hS.ownAt ix hix) B' A c' m hr h63 hbytes hS.old.size
  unfold Oper.wp execOp
  simp only [ho, resolve, invoke, builtin, Sem.run_bind, Sem.run_pure, Result.andThen_ok, List.map_toArray, List.map_cons, List.map_nil, hs, hx, hrun]
  refine hK _ _ (h a1 c1 w' (put_new hS ix hix (Turned.of_grown h3) (h2.base (Nat.zero_le _)) fun b hb => ?_))
  have hb' : (Value.slice a1 (l ++ m).length c1).ownBlock = some b := by simpa [own] using hb
  rcases h4 with h5 | h5
  · left
    have : (Value.slice a l.length c).ownBlock = some b := by rw [← h5]; exact hb'
    simpa [own] using this
  · right
    rw [hb'] at h5
    have hbe : b = w.heap.size := Option.some.inj h5
    have := h2.lt b (by simpa using hb')
    exact ⟨by omega, this.2⟩
end

theorem push_made {W w : World} {rs : List Res} (h : Sep W w rs) (e : TypeId) (k : IntKind) : Sep W (w.alloc (.cells #[] e)) (rs ++ [own e k (some ⟨w.heap.size, 0, none⟩) 0 []]) :=
  h.pushOwn ((Below.refl _ _).alloc (Nat.le_refl _) _) (Own.empty w e k (Nat.le_refl _))

theorem infoB : (Try.prog.info? 5).map (fun i => (i.zero, i.size, i.bytes)) = some (some (.int .u8 0), 1, 1) := by kernel_rfl
def Byts (l : List Int) : Prop := ∀ x ∈ l, 0 ≤ x ∧ x ≤ 255
theorem Byts.snoc {l : List Int} {x : Int} (h : Byts l) (h0 : 0 ≤ x) (h1 : x ≤ 255) : Byts (l ++ [x]) := fun y hy => by
  rcases List.mem_append.1 hy with h2 | h2
  · exact h y h2
  · simp at h2; subst h2; exact ⟨h0, h1⟩

end Go.Proofs.Ytephiilicebdcaa.Sd

/-
  More steps over several owned things: a maker's result, a thing let go; the laws' helpers at, big, sameBytes, sameInts; chapter 2's draws. No condition but that the code is a slice of bytes of at most 2^20 places where 'at' counts.
-/
namespace Go.Proofs.Ytephiilicebdcaa.Sd
set_option maxRecDepth 100000
open Go.ChangeShapes Go.WideShapes Go.ChangeAt Go.RowKit Mem Sl Ex Draw L2

section
variable {W w w' : World} {rs ts : List Res} {r : Res}
theorem Sep_of {rs' : List Res} (h : Sep W w rs) (f : Nat → Nat) (hinj : ∀ i j, f i = f j → i = j) (hf : ∀ i s, rs'[i]? = some s → rs[f i]? = some s) : Sep W w rs' :=
  ⟨h.old, fun i s hi => h.is _ s (hf i s hi), fun i s hi => h.lies _ s (hf i s hi), fun i j s t hi hj hne => h.apart _ _ s t (hf i s hi) (hf j t hj) (fun e => hne (hinj _ _ e))⟩
/-- A thing is let go. -/
theorem drop (h : Sep W w (rs ++ r :: ts)) : Sep W w (rs ++ ts) := by
  refine Sep_of h (fun i => if i < rs.length then i else i + 1) (fun i j e => ?_) (fun i s hi => ?_)
  · split at e <;> split at e <;> omega
  · by_cases hl : i < rs.length
    · rw [if_pos hl, List.getElem?_append_left hl]
      rw [List.getElem?_append_left hl] at hi
      exact hi
    · rw [if_neg hl]
      rw [List.getElem?_append_right (by omega)] at hi ⊢
      rw [show i + 1 - rs.length = (i - rs.length) + 1 by omega, List.getElem?_cons_succ]
      exact hi
end

theorem drew_s {W w : World} {rs : List Res} (h : Sep W w rs) : Sep W w.drew rs := h.keep ⟨rfl, rfl, rfl, Nat.le_refl _, fun _ _ => rfl⟩

section
variable {W w : World} {rs : List Res} {F : Nat} {args : Array Value} {e : TypeId} {k : IntKind}
theorem gave {r : List Int} (h : Sep W w rs) (hC : Calls Try.prog F args w (Gave w w.heap.size e k r)) :
    Calls Try.prog F args w fun en w' => ∃ a c x, en = .returned (.slice a x.length c) ∧ Hid (x = r) ∧ Sep W w' (rs ++ [own e k a c x]) :=
  hC.mono fun _ _ ⟨a, c, he, ho, hb⟩ => ⟨a, c, r, he, rfl, h.pushOwn hb ho⟩
theorem gaveT {r : List Int} {v : Int} {b : Bool} (h : Sep W w rs) (hC : Calls Try.prog F args w (GaveT w w.heap.size e k r v b)) :
    Calls Try.prog F args w fun en w' => ∃ a c x n m, en = .returned (.tuple #[.slice a x.length c, .int .i64 n, .bool m]) ∧ Hid (x = r ∧ n = v ∧ m = b) ∧ Sep W w' (rs ++ [own e k a c x]) :=
  hC.mono fun _ _ ⟨a, c, he, ho, hb⟩ => ⟨a, c, r, v, b, he, ⟨rfl, rfl, rfl⟩, h.pushOwn hb ho⟩
end

section
variable {W w : World} {rs : List Res} {a : Option Addr} {len : Nat}
theorem big_s (cap : Nat) (h : Sep W w rs) :
    Calls Try.prog 8 #[.slice a len cap] w fun e w' => e = .returned (.bool (decide (len > 1048576))) ∧ Sep W w' rs := by
  have H := Lib.hid h
  clear h
  by_cases h : (len : Int) > 1048576
  · have h' : decide (len > 1048576) = true := decide_eq_true (by omega)
    rw [h']
    go_enter Try.func8, Try.ntmps8
    go_wp2
    go_ret
    exact ⟨rfl, H.out⟩
  · have h' : decide (len > 1048576) = false := decide_eq_false (by omega)
    rw [h']
    go_enter Try.func8, Try.ntmps8
    go_wp2
    go_ret
    exact ⟨rfl, H.out⟩
end

section
variable {W w : World} {rs : List Res}
/-- Two lists that the call can read, equal. -/
theorem sameBytes_s (h : Sep W w rs) {a a2 : Option Addr} {l m : List Int} (n n2 c c2 : Nat) (B : Nat) (hn : n = l.length) (hn2 : n2 = m.length) (hr : Reads w B a (ints .u8 l)) (hr2 : Reads w B a2 (ints .u8 m)) (he : l = m) (hl : l.length ≤ 1099511627776) :
    Calls Try.prog 19 #[.slice a n c, .slice a2 n2 c2] w fun e w' => e = .returned (.bool true) ∧ Sep W w' rs := by
  subst he
  subst hn
  subst hn2
  exact (sameBytes_any a a2 c c2 l l w B hr hr2 (by omega) (by omega)).mono fun _ _ ⟨he, hd⟩ => ⟨by rw [he, eqB_true rfl], Law.Sep.drew h hd⟩
end

/-! ### chapter 2's draws -/
section
variable {W w : World} {rs : List Res} {a : Option Addr} {len : Nat}
end
end Go.Proofs.Ytephiilicebdcaa.Sd

