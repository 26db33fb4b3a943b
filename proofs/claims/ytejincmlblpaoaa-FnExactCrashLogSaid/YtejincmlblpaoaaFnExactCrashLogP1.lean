/-
  What the law FnExactCrashLog needs, laid by my program lawpack.py, part 1: the texts Reg, Tk, Frame, L1Base, Mem, Args, Sl, Ex, L2Num, L2App, Law, Sd, Sv, L4Num, L1Num, L4Par, L1Min, L2Rd, L2Rd2, L4Sp, L4Cmp, L4Law, Bag, Run, L3Num, L11Num, L3Hash, L3Fn, L11Sa, L5Num, L5Sp, Vg, VzNum, VByteSS, L11Fw, L11Mn, L11Ia, one behind the other; each begins with its own words.
-/
import Derived.Test.YtejincmlblpaoaaRows
import Derived.Deep.RegionHeld3
import Derived.WalkKit
import Derived.Lib.Hide
import Derived.ProofKit
import Derived.OpenShut
import Derived.Below
import Derived.Carry
import Derived.ChangeSame
import Derived.BigQuiet
import Derived.Deep.QuietTactic
import Derived.Laws.OwnMore
import Derived.Deep.Draws
import Derived.Laws.Rows
import Derived.Lib.BufferOwn
import Derived.Lib.SmallJoins
import Derived.Laws.Bits128
import Derived.Laws.BitsLemmas
import Derived.ChangeSlices
import Derived.SizedLaws
import Derived.OwnWalk
import Derived.Maps.AppendAt
import Derived.Laws.AppendOwnNone
import Derived.LoopTactic
import Derived.IntWalk
import Derived.Outline
import Derived.Laws.BitsAllLaws
import Derived.RegionTactic
import Derived.Lib.AtoiAllCases
import GoSem.Op.String
import Derived.Lib.ItoaNum
import Derived.Lib.ItoaLen
import Derived.Lib.AtoiTie
import Derived.Laws.BytesArg
import Derived.ChangeArms
import Derived.Lib.AppendZerosOnto
import Derived.Laws.IdiomCopy
import Derived.Deep.AppendSrc
import Derived.Lib.ConvBytes
import Derived.Deep.DeepCutAuto
import Derived.DataReads
import Derived.WalkMore
set_option linter.unusedSimpArgs false
set_option linter.unusedVariables false
set_option maxRecDepth 100000
namespace Go.Proofs.Ytejincmlblpaoaa.Args
end Go.Proofs.Ytejincmlblpaoaa.Args
namespace Go.Proofs.Ytejincmlblpaoaa.Bag
end Go.Proofs.Ytejincmlblpaoaa.Bag
namespace Go.Proofs.Ytejincmlblpaoaa.Closed
end Go.Proofs.Ytejincmlblpaoaa.Closed
namespace Go.Proofs.Ytejincmlblpaoaa.Draw
end Go.Proofs.Ytejincmlblpaoaa.Draw
namespace Go.Proofs.Ytejincmlblpaoaa.Ex
end Go.Proofs.Ytejincmlblpaoaa.Ex
namespace Go.Proofs.Ytejincmlblpaoaa.Frame
end Go.Proofs.Ytejincmlblpaoaa.Frame
namespace Go.Proofs.Ytejincmlblpaoaa.L1
end Go.Proofs.Ytejincmlblpaoaa.L1
namespace Go.Proofs.Ytejincmlblpaoaa.L11
end Go.Proofs.Ytejincmlblpaoaa.L11
namespace Go.Proofs.Ytejincmlblpaoaa.L2
end Go.Proofs.Ytejincmlblpaoaa.L2
namespace Go.Proofs.Ytejincmlblpaoaa.L3
end Go.Proofs.Ytejincmlblpaoaa.L3
namespace Go.Proofs.Ytejincmlblpaoaa.L4
end Go.Proofs.Ytejincmlblpaoaa.L4
namespace Go.Proofs.Ytejincmlblpaoaa.L5
end Go.Proofs.Ytejincmlblpaoaa.L5
namespace Go.Proofs.Ytejincmlblpaoaa.Law
end Go.Proofs.Ytejincmlblpaoaa.Law
namespace Go.Proofs.Ytejincmlblpaoaa.Mem
end Go.Proofs.Ytejincmlblpaoaa.Mem
namespace Go.Proofs.Ytejincmlblpaoaa.Reg
end Go.Proofs.Ytejincmlblpaoaa.Reg
namespace Go.Proofs.Ytejincmlblpaoaa.Run
end Go.Proofs.Ytejincmlblpaoaa.Run
namespace Go.Proofs.Ytejincmlblpaoaa.Sd
end Go.Proofs.Ytejincmlblpaoaa.Sd
namespace Go.Proofs.Ytejincmlblpaoaa.Sl
end Go.Proofs.Ytejincmlblpaoaa.Sl
namespace Go.Proofs.Ytejincmlblpaoaa.Sv
end Go.Proofs.Ytejincmlblpaoaa.Sv
namespace Go.Proofs.Ytejincmlblpaoaa.V
end Go.Proofs.Ytejincmlblpaoaa.V
namespace Go.Proofs.Ytejincmlblpaoaa.Wv
end Go.Proofs.Ytejincmlblpaoaa.Wv
namespace Go.Proofs.Ytejincmlblpaoaa.lawFnExactCrashLog
end Go.Proofs.Ytejincmlblpaoaa.lawFnExactCrashLog
namespace Go.Proofs.Ytejincmlblpaoaa.Reg
def nthO {α : Type} : Nat → List α → Option α
 | _, [] => none
 | 0, x :: _ => some x
 | i + 1, _ :: l => nthO i l
theorem nthO_eq {α : Type} : ∀ (l : List α) (i : Nat), l.toArray[i]? = nthO i l
 | [], i => by simp [nthO]
 | x :: l, 0 => by simp [nthO]
 | x :: l, i + 1 => by
  have := nthO_eq l i
  simp only [List.getElem?_toArray, List.getElem?_cons_succ] at this ⊢
  exact this
section
variable {P : Program} {l : List Oper} {Q : Exit → Act → World → Prop} {md : Region.Mode} {S : World → Prop} {fuel i : Nat} {oi : Oper} {v : Value} {listed : Array Bool} {a : Act} {w : World}
theorem take_op (hi : nthO i l = some oi) (hs : Region.noSelect l.toArray = true) (hf : Region.free md l.toArray listed i = true) (hr : (Region.ready md l.toArray listed).contains i = true)
  (hQ : ∀ c a w, Q (.panic c) (a.put oi.dst v) w → Q (.panic c) a w) (hw : Region.wanted oi (yielded l.toArray a.tmps) = true) (hy : ∀ w, S w → (execOp a.eval oi).run P w = .ok (.value v) w) (hS : S w)
  (h : wpAnyH P md l.toArray Q S fuel (listed.setIfInBounds i true) (a.put oi.dst v) w) : wpAnyH P md l.toArray Q S (fuel + 1) listed a w :=
 wpAnyH_take (by rw [nthO_eq]; exact hi) hs hf hr hQ (.inl ⟨hw, hy⟩) hS h
theorem skip_op (hi : nthO i l = some oi) (hs : Region.noSelect l.toArray = true) (hf : Region.free md l.toArray listed i = true) (hr : (Region.ready md l.toArray listed).contains i = true)
  (hQ : ∀ c a w, Q (.panic c) (a.put oi.dst undef) w → Q (.panic c) a w) (hw : Region.wanted oi (yielded l.toArray a.tmps) = false) (hS : S w)
  (h : wpAnyH P md l.toArray Q S fuel (listed.setIfInBounds i true) (a.put oi.dst undef) w) : wpAnyH P md l.toArray Q S (fuel + 1) listed a w :=
 wpAnyH_take (by rw [nthO_eq]; exact hi) hs hf hr hQ (.inr ⟨hw, rfl⟩) hS h
end
end Go.Proofs.Ytejincmlblpaoaa.Reg

set_option linter.unusedSimpArgs false
namespace Go.Proofs.Ytejincmlblpaoaa
open Go.RowKit
def Reg.okOp (md : Region.Mode) (l : List Oper) (listed : Array Bool) (i : Nat) : Bool := Region.noSelect l.toArray && (Region.free md l.toArray listed i && (Region.ready md l.toArray listed).contains i)
theorem zp0 (a : Act) (i : Nat) (v : Value) : a.put (some i) v = { a with tmps := a.tmps.setIfInBounds i v } := rfl
theorem zp1 {α : Type} (l : List α) (i : Nat) (x : α) : l.toArray.setIfInBounds i x = (l.set i x).toArray := List.setIfInBounds_toArray ..
theorem zp2 {α : Type} (l : List α) (x y : α) : (x :: l).set 0 y = y :: l := rfl
theorem zp3 {α : Type} (l : List α) (x y : α) (i : Nat) : (x :: l).set (i + 1) y = x :: l.set i y := rfl
theorem zp4 (a : Act) (v : Value) : a.put none v = a := rfl
theorem zp : (∀ (a : Act) (i : Nat) (v : Value), a.put (some i) v = { a with tmps := a.tmps.setIfInBounds i v }) ∧ (∀ (l : List Value) (i : Nat) (x : Value), l.toArray.setIfInBounds i x = (l.set i x).toArray) ∧ (∀ (l : List Value) (x y : Value), (x :: l).set 0 y = y :: l) ∧ (∀ (l : List Value) (x y : Value) (i : Nat), (x :: l).set (i + 1) y = x :: l.set i y) ∧ (∀ (a : Act) (v : Value), a.put none v = a) ∧ (∀ (l : List Bool) (i : Nat) (x : Bool), l.toArray.setIfInBounds i x = (l.set i x).toArray) ∧ (∀ (l : List Bool) (x y : Bool), (x :: l).set 0 y = y :: l) ∧ (∀ (l : List Bool) (x y : Bool) (i : Nat), (x :: l).set (i + 1) y = x :: l.set i y) :=
 ⟨fun _ _ _ => rfl, fun _ _ _ => List.setIfInBounds_toArray .., fun _ _ _ => rfl, fun _ _ _ _ => rfl, fun _ _ => rfl, fun _ _ _ => List.setIfInBounds_toArray .., fun _ _ _ => rfl, fun _ _ _ _ => rfl⟩
theorem Hd {p : Prop} (h : p) : Hid p := Lib.hid h
section
variable {P : Program} {l : List Oper} {Q : Exit → Act → World → Prop} {md : Region.Mode} {S : World → Prop} {fuel : Nat} {oi : Oper} {v : Value} {listed : Array Bool} {a : Act} {w : World}
open Reg
theorem Reg.okOp_spec {i : Nat} (h : okOp md l listed i = true) : Region.noSelect l.toArray = true ∧ Region.free md l.toArray listed i = true ∧ (Region.ready md l.toArray listed).contains i = true := by
 unfold okOp at h
 simp only [Bool.and_eq_true] at h
 exact h
theorem tk (i : Nat) (hi : nthO i l = some oi) (h : wpAnyH P md l.toArray Q S fuel (listed.setIfInBounds i true) (a.put oi.dst v) w)
  (hk : okOp md l listed i = true := by kernel_rfl) (hw : Region.wanted oi (yielded l.toArray a.tmps) = true := by rfl)
  (hy : ∀ w, S w → (execOp a.eval oi).run P w = .ok (.value v) w := by (intro w hSw; (try dsimp only at hSw); go_simp; try with_reducible rfl))
  (hQ : ∀ c a w, Q (.panic c) (a.put oi.dst v) w → Q (.panic c) a w := by exact fun _ _ _ h => h) (hS : S w := by assumption) :
  wpAnyH P md l.toArray Q S (fuel + 1) listed a w :=
 take_op hi (okOp_spec hk).1 (okOp_spec hk).2.1 (okOp_spec hk).2.2 hQ hw hy hS h
theorem sk (i : Nat) (hi : nthO i l = some oi) (h : wpAnyH P md l.toArray Q S fuel (listed.setIfInBounds i true) (a.put oi.dst undef) w)
  (hk : okOp md l listed i = true := by kernel_rfl) (hw : Region.wanted oi (yielded l.toArray a.tmps) = false := by rfl)
  (hQ : ∀ c a w, Q (.panic c) (a.put oi.dst undef) w → Q (.panic c) a w := by exact fun _ _ _ h => h) (hS : S w := by assumption) :
  wpAnyH P md l.toArray Q S (fuel + 1) listed a w :=
 skip_op hi (okOp_spec hk).1 (okOp_spec hk).2.1 (okOp_spec hk).2.2 hQ hw hS h
end
end Go.Proofs.Ytejincmlblpaoaa

namespace Go.Proofs.Ytejincmlblpaoaa.Frame
open Go.ChangeShapes Go.WideShapes Go.ChangeAt Go.RowKit

section
variable {H : Type} {enc : TypeId × Value → H} {P : Program}

theorem trodAll_below (hl : laidOutB P = true) {W W' : World} (hb : Below W.heap.size W W') (sp : Nat → Bool) :
  ∀ {ts : List TypeId} {vs : List Value} {ds : List (DataW H)} {ps : List MemPlace}, (ts.all fun t => P.readableRec t && decide (t < P.types.size)) = true →
  DataW.TrodAll enc P W 0 (fun _ => true) true ts vs ds ps → (∀ x ∈ ps, x.block < W.heap.size) → (∀ p ∈ ps, sp p.block = true) → DataW.TrodAll enc P W' 0 sp true ts vs ds ps
 | [], vs, ds, ps, _, h, _, _ => by
  obtain ⟨rfl, rfl, rfl⟩ := trodAll_nil h
  exact trodAll_mk0
 | t :: ts, vs, ds, ps, hr, h, hlt, hs => by
  simp only [List.all_cons, Bool.and_eq_true, decide_eq_true_eq] at hr
  obtain ⟨v, vs', d, ds', p, q, rfl, rfl, rfl, h0, hr0⟩ := trodAll_cons h
  refine trodAll_cons_mk (WideElems.Trod_stays hl hr.1.1 hr.1.2 h0 (fun x hx => hb.same (hlt x (by simp [hx]))) (fun x hx => hs x (by simp [hx]))) ?_
  exact trodAll_below hl hb sp hr.2 hr0 (fun x hx => hlt x (by simp [hx])) (fun x hx => hs x (by simp [hx]))

theorem law_post {f : Func} {s : ChangeSpec} {apart fresh handsOn : Bool} {W W' : World} {args : Array Value} {ds : List (DataW H)} {p : List MemPlace} {tb : TypeId}
  (hvars : s.vars = []) (hW : DataW.Whole enc P f.params.toList s.vars apart W args.toList ds [] p)
  (hA : DataW.TrodAll enc P W 0 (fun _ => true) true f.params.toList args.toList ds p)
  (hs1 : (s.fn H (ds ++ [])).results = [.lit (.bool true)]) (hs2 : (s.fn H (ds ++ [])).args = ds) (hs3 : (s.fn H (ds ++ [])).vars = [])
  (hl : laidOutB P = true) (hr : (f.params.toList.all fun t => P.readableRec t && decide (t < P.types.size)) = true)
  (htb : f.resultTypes = #[tb]) (hb2 : P.underlying tb = some .bool) (hb : Below W.heap.size W W') :
  s.post enc P f apart fresh handsOn false W args (.bool true) W' := by
 have hlt : ∀ x ∈ p, x.block < W.heap.size := fun x hx => hW.lt x hx
 refine ⟨ds, [], p, [], p, [], hW, ?_, ?_, ?_, hb.frame _, fun h => by cases h⟩
 ·
  rw [hs1, htb]; exact trodAll_mk1 (shut_bool hb2 _)
 ·
  rw [hs2]; exact trodAll_below hl hb _ hr hA hlt (fun x hx => by simpa using hlt x hx)
 ·
  rw [hs3, hvars]; rfl
end
end Go.Proofs.Ytejincmlblpaoaa.Frame

namespace Go.Proofs.Ytejincmlblpaoaa.L1
open Go.ChangeShapes Go.WideShapes Go.ChangeAt Go.RowKit

def inB (n lo hi : Int) : Bool := decide (lo ≤ n) && decide (n ≤ hi)
theorem ret_int {k : IntKind} {a b : Int} (h : a = b) : Ending.returned (.int k a) = .returned (.int k b) := by rw [h]

end Go.Proofs.Ytejincmlblpaoaa.L1

namespace Go.Proofs.Ytejincmlblpaoaa.Mem
open Go.RowKit

def Row (w : World) (g : Nat) (t : TypeId) (cs : Array Value) : Prop := w.heap[g]? = some (.cells cs t (0, 0))

section
variable {w w' : World} {g : Nat} {t : TypeId} {cs : Array Value}
theorem Row.inside (h : Row w g t cs) : g < w.heap.size := (Array.getElem?_eq_some_iff.1 h).1
theorem Row.cell (h : Row w g t cs) (i : Nat) : w.cell? ⟨g, i, none⟩ = cs[i]? := cell_of_row w g i cs t (0, 0) h
theorem Row.free (h : Row w g t cs) (i : Nat) : w.frozen? ⟨g, i, none⟩ = false := by
 have h' : w.heap[g]? = some (.cells cs t (0, 0)) := h
 simp [World.frozen?, h']
theorem Row.more (h : Row w g t cs) (o : Obj) : Row (w.alloc o) g t cs := (Below.heap_alloc w o g h.inside).trans h
theorem Row.put (h : Row w g t cs) (i : Nat) (u : Value) : Row (w.setCell ⟨g, i, none⟩ u) g t (cs.setIfInBounds i u) := by
 have h' : w.heap[g]? = some (.cells cs t (0, 0)) := h
 show (w.setCell ⟨g, i, none⟩ u).heap[g]? = _
 simp [World.setCell, Array.getElem?_modify, h']
theorem Row.grown {row : Option Nat} (h : Row w g t cs) (hb : w.grownBy w' row) (hg : some g ≠ row) : Row w' g t cs := (hb.block g h.inside hg).trans h
theorem Row.below {B : Nat} (h : Row w g t cs) (hb : Below B w w') (hg : g < B) : Row w' g t cs := (hb.block g hg).trans h
end

theorem grownBy_refl (w : World) (row : Option Nat) : w.grownBy w row := ⟨rfl, rfl, rfl, Nat.le_refl _, fun _ _ _ => rfl⟩
theorem grownBy_step {a w w' : World} {row : Option Nat} (h : a.grownBy w row) (k : w.grownBy w' row) : a.grownBy w' row := _root_.Go.Lib.grownBy_trans h k
theorem add_block (a : Addr) (n : Nat) : (a.add n).block = a.block := by unfold Addr.add; split <;> rfl

def Bytes (w : World) (B : Nat) (a : Option Addr) (len : Nat) : Prop :=
 ∀ j, j < len → ∃ ad n, a = some ad ∧ ad.block < B ∧ w.cell? (ad.add j) = some (.int .u8 n) ∧ 0 ≤ n ∧ n ≤ 255

theorem Bytes.below {w w' : World} {B : Nat} {a : Option Addr} {len : Nat} (h : Bytes w B a len) (hb : Below B w w') : Bytes w' B a len := fun j hj => by
 obtain ⟨ad, n, e, hB, hc, h0, h1⟩ := h j hj
 exact ⟨ad, n, e, hB, by rw [hb.cell (by rw [add_block]; exact hB)]; exact hc, h0, h1⟩

end Go.Proofs.Ytejincmlblpaoaa.Mem

namespace Go.Proofs.Ytejincmlblpaoaa.Args
open Go.ChangeShapes Go.WideShapes Go.ChangeAt Go.RowKit Mem

def Holds (w : World) (B : Nat) (a : Option Addr) (l : List UInt8) : Prop :=
 ∀ j (hj : j < l.length), ∃ ad, a = some ad ∧ ad.block < B ∧ w.cell? (ad.add j) = some (.int .u8 (l[j].toNat : Int))
theorem Holds.bytes {w : World} {B : Nat} {a : Option Addr} {l : List UInt8} (h : Holds w B a l) : Bytes w B a l.length := fun j hj => by
 obtain ⟨ad, e, hb, hc⟩ := h j hj
 exact ⟨ad, _, e, hb, hc, by omega, by have := l[j].toNat_lt; omega⟩
theorem Holds.below {w w' : World} {B : Nat} {a : Option Addr} {l : List UInt8} (h : Holds w B a l) (hb : Below B w w') : Holds w' B a l := fun j hj => by
 obtain ⟨ad, e, hB, hc⟩ := h j hj
 exact ⟨ad, e, hB, by rw [hb.cell (by rw [add_block]; exact hB)]; exact hc⟩

section
variable {H : Type} {enc : TypeId × Value → H} {P : Program}

end
end Go.Proofs.Ytejincmlblpaoaa.Args

namespace Go.Proofs.Ytejincmlblpaoaa.Sl
open Go.ChangeShapes Go.WideShapes Go.ChangeAt Go.RowKit Mem

def Reads (w : World) (B : Nat) (a : Option Addr) (l : List Value) : Prop :=
 ∀ j (hj : j < l.length), ∃ ad, a = some ad ∧ ad.block < B ∧ w.cell? (ad.add j) = some l[j]

def ints (k : IntKind) (l : List Int) : List Value := l.map (Value.int k)
@[simp] theorem ints_length (k : IntKind) (l : List Int) : (ints k l).length = l.length := List.length_map ..
theorem ints_append (k : IntKind) (l m : List Int) : ints k (l ++ m) = ints k l ++ ints k m := List.map_append
theorem ints_get (k : IntKind) (l : List Int) (j : Nat) (h : j < l.length) : (ints k l)[j]'(by simpa using h) = .int k l[j] := List.getElem_map ..
theorem ints_one (k : IntKind) (l : List Int) : ∀ u ∈ ints k l, u.oneCell' = true := ints_oneCell k l

theorem add_add (a : Addr) (i j : Nat) : (a.add i).add j = a.add (i + j) := by
 unfold Addr.add
 by_cases hi : i = 0 <;> by_cases hj : j = 0 <;> simp [hi, hj, Nat.add_assoc]

section
variable {w w' : World} {B B' : Nat} {a : Option Addr} {l : List Value}
theorem Reads.nil : Reads w B a [] := fun _ hj => absurd hj (by simp)
theorem Reads.keep (h : Reads w B a l) (hk : ∀ p : Addr, p.block < B → w'.cell? p = w.cell? p) : Reads w' B a l := fun j hj => by
 obtain ⟨ad, e, hb, hc⟩ := h j hj
 exact ⟨ad, e, hb, (hk _ (by rw [add_block]; exact hb)).trans hc⟩
theorem Reads.below (h : Reads w B a l) (hb : Below B w w') : Reads w' B a l := h.keep fun _ hp => hb.cell hp
theorem Reads.more (h : Reads w B a l) (hB : B ≤ B') : Reads w B' a l := fun j hj => by
 obtain ⟨ad, e, hb, hc⟩ := h j hj
 exact ⟨ad, e, by omega, hc⟩
theorem Reads.int {k : IntKind} {l : List Int} (h : Reads w B a (ints k l)) (j : Nat) (hj : j < l.length) : ∃ ad, a = some ad ∧ ad.block < B ∧ w.cell? (ad.add j) = some (.int k l[j]) := by
 obtain ⟨ad, e, hb, hc⟩ := h j (by simpa using hj)
 exact ⟨ad, e, hb, by rw [hc, ints_get k l j hj]⟩
theorem Reads.part (h : Reads w B a l) (s t m : Nat) (hst : s ≤ t) (ht : t ≤ l.length) (hm : t ≤ m) : Reads w B (if m = s then a else a.map (·.add s)) ((l.drop s).take (t - s)) := fun j hj => by
 have hj' : j < t - s := by simp at hj; omega
 obtain ⟨ad, e, hb, hc⟩ := h (s + j) (by omega)
 rw [if_neg (by omega)]
 subst e
 refine ⟨ad.add s, rfl, by rw [add_block]; exact hb, ?_⟩
 rw [add_add, hc]
 simp
theorem Reads.partInts {k : IntKind} {l : List Int} (h : Reads w B a (ints k l)) (s t m : Nat) (hst : s ≤ t) (ht : t ≤ l.length) (hm : t ≤ m) : Reads w B (if m = s then a else a.map (·.add s)) (ints k ((l.drop s).take (t - s))) := by
 have := h.part s t m hst (by simpa using ht) hm
 rwa [show ints k ((l.drop s).take (t - s)) = ((ints k l).drop s).take (t - s) by simp [ints, List.map_drop, List.map_take]]
end

def Own (w : World) (B : Nat) (e : TypeId) (k : IntKind) (a : Option Addr) (c : Nat) (l : List Int) : Prop :=
 w.ownsRow B e 1 (.slice a l.length c) l.length (ints k l)

section
variable {w w' : World} {B B' : Nat} {e : TypeId} {k : IntKind} {a : Option Addr} {c : Nat} {l : List Int}
theorem Own.form (h : Own w B e k a c l) : (a = none ∧ l = [] ∧ c = 0) ∨ ∃ g, a = some ⟨g, 0, none⟩ ∧ B ≤ g ∧ g < w.heap.size ∧ l.length ≤ c ∧ c ≤ maxLen := by
 rcases h.2 with ⟨hv, hn⟩ | ⟨g, cap, cur, hv, hb, hg, h1, h2, _⟩
 ·
  injection hv with h1 h2 h3
  exact .inl ⟨h1, List.eq_nil_of_length_eq_zero hn, h3⟩
 ·
  injection hv with h3 h4 h5
  exact .inr ⟨g, h3, hb, (Array.getElem?_eq_some_iff.1 hg).1, by omega, by omega⟩
theorem Own.reads (h : Own w B e k a c l) : Reads w w.heap.size a (ints k l) := fun j hj => by
 rcases h.form with ⟨_, rfl, _⟩ | ⟨g, rfl, hb, hg, _⟩
 ·
  simp [ints] at hj
 ·
  exact ⟨_, rfl, hg, h.cells (g := g) rfl j _ (List.getElem?_eq_getElem hj)⟩
theorem Own.cap (h : Own w B e k a c l) : l.length ≤ c := by
 rcases h.form with ⟨_, rfl, _⟩ | ⟨g, rfl, hb, hg, h1, _⟩
 ·
  simp
 ·
  exact h1
theorem Own.base (h : Own w B e k a c l) (hB : B' ≤ B) : Own w B' e k a c l := by
 refine ⟨h.1, ?_⟩
 rcases h.2 with hv | ⟨g, cap, cur, hv, hb, r⟩
 ·
  exact .inl hv
 ·
  exact .inr ⟨g, cap, cur, hv, by omega, r⟩
theorem Own.lift (h : Own w B e k a c l) (hB : ∀ b ∈ (Value.slice a l.length c).ownBlock.toList, B' ≤ b) : Own w B' e k a c l := by
 refine ⟨h.1, ?_⟩
 rcases h.2 with hv | ⟨g, cap, cur, hv, hb, r⟩
 ·
  exact .inl hv
 ·
  exact .inr ⟨g, cap, cur, hv, hB g (by rw [hv]; simp [Value.ownBlock]), r⟩
theorem Own.below (h : Own w B e k a c l) (hb : Below w.heap.size w w') : Own w' B e k a c l := by
 refine ⟨h.1, ?_⟩
 rcases h.2 with hv | ⟨g, cap, cur, hv, hB, hg, r⟩
 ·
  exact .inl hv
 ·
  exact .inr ⟨g, cap, cur, hv, hB, (hb.block g (Array.getElem?_eq_some_iff.1 hg).1).trans hg, r⟩
theorem Own.empty (w : World) (e : TypeId) (k : IntKind) (hB : B ≤ w.heap.size) : Own (w.alloc (.cells #[] e)) B e k (some ⟨w.heap.size, 0, none⟩) 0 [] :=
 World.ownsRow_made w #[] 0 hB (Nat.zero_le _) rfl
end

def Gave (w : World) (B : Nat) (e : TypeId) (k : IntKind) (l : List Int) (en : Ending) (w' : World) : Prop := ∃ a c, en = .returned (.slice a l.length c) ∧ Own w' B e k a c l ∧ Below B w w'
theorem Gave.mk {w w' : World} {B : Nat} {e : TypeId} {k : IntKind} {l : List Int} {a : Option Addr} {c n : Nat} (hn : n = l.length) (ho : Own w' B e k a c l) (hb : Below B w w') : Gave w B e k l (.returned (.slice a n c)) w' := ⟨a, c, by rw [hn], ho, hb⟩


structure Res where
 fp : List Nat
 is : World → Prop
 loc : ∀ {w w' : World}, (∀ b ∈ fp, w'.heap[b]? = w.heap[b]?) → is w → is w'

def own (e : TypeId) (k : IntKind) (a : Option Addr) (c : Nat) (l : List Int) : Res where
 fp := (Value.slice a l.length c).ownBlock.toList
 is w := Own w 0 e k a c l
 loc := fun hs h => ⟨h.1, by
  rcases h.2 with hv | ⟨g, cap, cur, hv, hB, hg, r⟩
  ·
   exact .inl hv
  ·
   exact .inr ⟨g, cap, cur, hv, hB, (hs g (by rw [hv]; simp [Value.ownBlock])).trans hg, r⟩⟩

structure Turned (fp : List Nat) (w w' : World) : Prop where
 os : w'.os = w.os
 tape : w'.tape = w.tape
 output : w'.output = w.output
 size : w.heap.size ≤ w'.heap.size
 block : ∀ b, b < w.heap.size → b ∉ fp → w'.heap[b]? = w.heap[b]?
theorem Turned.of_grown {w w' : World} {r : Option Nat} (h : w.grownBy w' r) : Turned r.toList w w' :=
 ⟨h.os, h.tape, h.output, h.size, fun b hb hn => h.block b hb (fun e => hn (by rw [← e]; simp))⟩
theorem Turned.refl (fp : List Nat) (w : World) : Turned fp w w := ⟨rfl, rfl, rfl, Nat.le_refl _, fun _ _ _ => rfl⟩
theorem Turned.trans {fp : List Nat} {w w1 w2 : World} (h : Turned fp w w1) (k : Turned fp w1 w2) : Turned fp w w2 :=
 ⟨k.os.trans h.os, k.tape.trans h.tape, k.output.trans h.output, Nat.le_trans h.size k.size, fun b hb hn => (k.block b (Nat.lt_of_lt_of_le hb h.size) hn).trans (h.block b hb hn)⟩
theorem Turned.below {fp : List Nat} {w w' : World} {B : Nat} (h : Turned fp w w') (hB : B ≤ w.heap.size) (hf : ∀ b ∈ fp, B ≤ b) : Below B w w' :=
 ⟨h.os, h.tape, h.output, h.size, fun b hb => h.block b (by omega) (fun hm => by have := hf b hm; omega)⟩

structure Sep (W w : World) (rs : List Res) : Prop where
 old : Below W.heap.size W w
 is : ∀ (i : Nat) (r : Res), rs[i]? = some r → r.is w
 lies : ∀ (i : Nat) (r : Res), rs[i]? = some r → ∀ b ∈ r.fp, W.heap.size ≤ b ∧ b < w.heap.size
 apart : ∀ (i j : Nat) (r s : Res), rs[i]? = some r → rs[j]? = some s → i ≠ j → ∀ b ∈ r.fp, b ∉ s.fp

section
variable {W w w' : World} {rs : List Res} {r r' : Res}
theorem Sep.start (W : World) : Sep W W [] := ⟨Below.refl _ _, fun i r h => by simp at h, fun i r h => by simp at h, fun i j r s h => by simp at h⟩
theorem Sep.keep (h : Sep W w rs) (hb : Below w.heap.size w w') : Sep W w' rs :=
 ⟨h.old.trans (hb.mono h.old.size), fun i r hi => r.loc (fun b hm => hb.block b (h.lies i r hi b hm).2) (h.is i r hi), fun i r hi b hm => ⟨(h.lies i r hi b hm).1, Nat.lt_of_lt_of_le (h.lies i r hi b hm).2 hb.size⟩, h.apart⟩
theorem Sep.push (h : Sep W w rs) (hb : Below w.heap.size w w') (hr : r.is w') (hf : ∀ b ∈ r.fp, w.heap.size ≤ b ∧ b < w'.heap.size) : Sep W w' (rs ++ [r]) := by
 have hk := h.keep hb
 have hsz := h.old.size
 have hlast : ∀ (i : Nat) (s : Res), (rs ++ [r])[i]? = some s → (rs[i]? = some s ∧ i < rs.length) ∨ (s = r ∧ i = rs.length) := fun i s hi => by
  rcases Nat.lt_trichotomy i rs.length with hl | hl | hl
  ·
   rw [List.getElem?_append_left hl] at hi
   exact .inl ⟨hi, hl⟩
  ·
   subst hl
   simp at hi
   exact .inr ⟨hi.symm, rfl⟩
  ·
   rw [List.getElem?_eq_none (by simp; omega)] at hi
   cases hi
 refine ⟨hk.old, fun i s hi => ?_, fun i s hi => ?_, fun i j s t hi hj hne => ?_⟩
 ·
  rcases hlast i s hi with ⟨h1, _⟩ | ⟨rfl, _⟩
  ·
   exact hk.is i s h1
  ·
   exact hr
 ·
  rcases hlast i s hi with ⟨h1, _⟩ | ⟨rfl, _⟩
  ·
   exact hk.lies i s h1
  ·
   exact fun b hm => ⟨by have := (hf b hm).1; omega, (hf b hm).2⟩
 ·
  rcases hlast i s hi with ⟨h1, e1⟩ | ⟨rfl, e1⟩ <;> rcases hlast j t hj with ⟨h2, e2⟩ | ⟨rfl, e2⟩
  ·
   exact h.apart i j s t h1 h2 hne
  ·
   exact fun b hm hm2 => by have := (h.lies i s h1 b hm).2; have := (hf b hm2).1; omega
  ·
   exact fun b hm hm2 => by have := (h.lies j t h2 b hm2).2; have := (hf b hm).1; omega
  ·
   omega
theorem Sep.put (h : Sep W w rs) (i : Nat) (hi : rs[i]? = some r) (ht : Turned r.fp w w') (hr : r'.is w') (hf : ∀ b ∈ r'.fp, b ∈ r.fp) : Sep W w' (rs.set i r') := by
 have hlt : i < rs.length := (List.getElem?_eq_some_iff.1 hi).1
 have hcase : ∀ (j : Nat) (s : Res), (rs.set i r')[j]? = some s → (j ≠ i ∧ rs[j]? = some s) ∨ (j = i ∧ s = r') := fun j s hj => by
  rw [List.getElem?_set] at hj
  by_cases e : i = j
  ·
   subst e
   rw [if_pos rfl, if_pos hlt] at hj
   exact .inr ⟨rfl, (Option.some.inj hj).symm⟩
  ·
   rw [if_neg e] at hj
   exact .inl ⟨fun e' => e e'.symm, hj⟩
 refine ⟨h.old.trans (ht.below h.old.size (fun b hm => (h.lies i r hi b hm).1)), fun j s hj => ?_, fun j s hj b hm => ?_, fun j k s t hj hk hne b hm hm2 => ?_⟩
 ·
  rcases hcase j s hj with ⟨hne, h1⟩ | ⟨rfl, rfl⟩
  ·
   exact s.loc (fun b hm => ht.block b (h.lies j s h1 b hm).2 (h.apart j i s r h1 hi hne b hm)) (h.is j s h1)
  ·
   exact hr
 ·
  rcases hcase j s hj with ⟨hne, h1⟩ | ⟨rfl, rfl⟩
  ·
   exact ⟨(h.lies j s h1 b hm).1, Nat.lt_of_lt_of_le (h.lies j s h1 b hm).2 ht.size⟩
  ·
   exact ⟨(h.lies _ r hi b (hf b hm)).1, Nat.lt_of_lt_of_le (h.lies _ r hi b (hf b hm)).2 ht.size⟩
 ·
  rcases hcase j s hj with ⟨hne1, h1⟩ | ⟨rfl, rfl⟩ <;> rcases hcase k t hk with ⟨hne2, h2⟩ | ⟨rfl, rfl⟩
  ·
   exact h.apart j k s t h1 h2 hne b hm hm2
  ·
   exact h.apart j _ s r h1 hi hne1 b hm (hf b hm2)
  ·
   exact h.apart k _ t r h2 hi hne2 b hm2 (hf b hm)
  ·
   exact hne rfl
theorem Sep.pushOwn {e : TypeId} {k : IntKind} {a : Option Addr} {c : Nat} {l : List Int} (h : Sep W w rs) (hb : Below w.heap.size w w') (ho : Own w' w.heap.size e k a c l) : Sep W w' (rs ++ [own e k a c l]) :=
 h.push hb (ho.base (Nat.zero_le _)) fun b hm => ho.lt b (by simpa [own] using hm)
theorem Sep.own {e : TypeId} {k : IntKind} {a : Option Addr} {c : Nat} {l : List Int} (h : Sep W w rs) (i : Nat) (hi : rs[i]? = some (Sl.own e k a c l)) : Own w 0 e k a c l := h.is i _ hi
theorem Sep.ownAt {e : TypeId} {k : IntKind} {a : Option Addr} {c : Nat} {l : List Int} (h : Sep W w rs) (i : Nat) (hi : rs[i]? = some (Sl.own e k a c l)) : Own w W.heap.size e k a c l :=
 (h.is i _ hi : Own w 0 e k a c l).lift fun b hm => (h.lies i _ hi b hm).1
theorem Sep.alloc (h : Sep W w rs) (o : Obj) : Sep W (w.alloc o) rs := h.keep ((Below.refl _ _).alloc (Nat.le_refl _) o)
end

section
variable {P : Program} (w : World)
theorem run_append_src (B : Nat) (t ty e : TypeId) (i : TypeInfo) (z : Value) (bytes : Nat) (ht : P.underlying t = some (.slice e)) (hi : P.info? e = some i) (hz : i.zero = some z)
  (hsize : i.size = 1) (hby : i.bytes = bytes) (hzs : z.cells.size = 1) (k : IntKind) (a : Option Addr) (c : Nat) (l : List Int) (hown : Own w B e k a c l)
  (B' : Nat) (A : Option Addr) (c' : Nat) (m : List Int) (hr : Reads w B' A (ints k m))
  (h63 : l.length + m.length ≤ maxLen) (hbytes : (l.length + m.length) * bytes ≤ 140737488355328) (hbase : B ≤ w.heap.size) :
  ∃ a1 c1 w', (Builtin.append_ #[t, t] ty #[.slice a l.length c, .slice A m.length c']).run P w = .ok (.slice a1 (l.length + m.length) c1) w' ∧ Own w' B e k a1 c1 (l ++ m) ∧ w.grownBy w' (Value.slice a l.length c).ownBlock := by
 have fin : ∀ {v' : Value} {w' : World}, w'.ownsRow B e 1 v' (l.length + m.length) (ints k l ++ ints k m) → ∃ a1 c1, v' = .slice a1 (l.length + m.length) c1 ∧ Own w' B e k a1 c1 (l ++ m) := by
  intro v' w' h
  rw [← ints_append] at h
  rcases h.2 with ⟨rfl, hn⟩ | ⟨g, cap, cur, rfl, _⟩
  ·
   refine ⟨none, 0, by rw [hn], ?_⟩
   unfold Own
   rw [List.length_append, hn]
   rw [hn] at h
   exact h
  ·
   refine ⟨_, cap, rfl, ?_⟩
   unfold Own
   rw [List.length_append]
   exact h
 rcases A with _ | ad
 ·
  have hm : m = [] := by
   rcases m with _ | ⟨x, m⟩
   ·
    rfl
   ·
    obtain ⟨ad, h, _⟩ := hr 0 (by simp)
    cases h
  subst hm
  have hrun : (Builtin.append_ #[t, t] ty #[.slice a l.length c, .slice none 0 c']).run P w = .ok (.slice a l.length c) w := by
   rcases hown.form with ⟨rfl, rfl, rfl⟩ | ⟨g, rfl, _, _, h1, _⟩
   ·
    simp [Builtin.append_, run_underlying ht, sizeOf, typeInfo, hi, Builtin.lenOf, Builtin.firstCells]
   ·
    simp [Builtin.append_, run_underlying ht, sizeOf, typeInfo, hi, Builtin.lenOf, Builtin.firstCells, h1, storeCells]
  exact ⟨a, c, w, by simpa using hrun, by simpa using hown, grownBy_refl w _⟩
 ·
  have hcells : ∀ j u, (ints k m)[j]? = some u → w.cell? (ad.add j) = some u := by
   intro j u hu
   have hj := (List.getElem?_eq_some_iff.1 hu).1
   obtain ⟨ad', h, _, hc⟩ := hr j hj
   injection h with h
   subst h
   rw [hc, ← hu, List.getElem?_eq_getElem hj]
  obtain ⟨v', w', hrun, h2, h3, -, -⟩ := run_append_own_at (P := P) w B t ty e i z 1 bytes ht hi hz hsize hby hzs (by omega) _ l.length (ints k l) hown ad m.length c' (ints k m) (by simp) hcells (ints_one k m) h63 hbytes hbase
  obtain ⟨a1, c1, rfl, ho⟩ := fin h2
  exact ⟨a1, c1, w', hrun, ho, h3⟩

theorem wpList_append_src {ops : Array Oper} {rest : List Oper} {o : Oper} {act : Act} {Q : Exit → Act → World → Prop} (hgd : o.guard = none) (s x : Operand) (t : TypeId)
  (ho : o.op = .call { callee := .builtin .append, args := #[s, x], argTypes := #[t, t] })
  (B : Nat) (e : TypeId) (i : TypeInfo) (z : Value) (bytes : Nat) (ht : P.underlying t = some (.slice e)) (hi : P.info? e = some i) (hz : i.zero = some z)
  (hsize : i.size = 1) (hby : i.bytes = bytes) (hzs : z.cells.size = 1) (k : IntKind) (a : Option Addr) (n c : Nat) (l : List Int) (hs : act.eval s = .slice a n c) (hn : n = l.length) (hown : Own w B e k a c l)
  (B' : Nat) (A : Option Addr) (n' c' : Nat) (m : List Int) (hx : act.eval x = .slice A n' c') (hn' : n' = m.length) (hr : Reads w B' A (ints k m))
  (h63 : l.length + m.length ≤ maxLen) (hbytes : (l.length + m.length) * bytes ≤ 140737488355328) (hbase : B ≤ w.heap.size)
  (h : ∀ a1 c1 w', Own w' B e k a1 c1 (l ++ m) → w.grownBy w' (Value.slice a l.length c).ownBlock → wpList P ops Q rest (act.put o.dst (.slice a1 (l.length + m.length) c1)) w') : wpList P ops Q (o :: rest) act w := by
 subst hn
 subst hn'
 refine wpList_plain hgd fun K hK => ?_
 obtain ⟨a1, c1, w', hrun, h2, h3⟩ := run_append_src (P := P) w B t o.type e i z bytes ht hi hz hsize hby hzs k a c l hown B' A c' m hr h63 hbytes hbase
 unfold Oper.wp execOp
 simp only [ho, resolve, invoke, builtin, Sem.run_bind, Sem.run_pure, Result.andThen_ok, List.map_toArray, List.map_cons, List.map_nil, hs, hx, hrun]
 exact hK _ _ (h a1 c1 w' h2 h3)
end

end Go.Proofs.Ytejincmlblpaoaa.Sl

namespace Go.Proofs.Ytejincmlblpaoaa.Ex
open Go.ChangeShapes Go.WideShapes Go.ChangeAt Go.RowKit Mem Sl

def marks (kd : IntKind) (k : Int) (n : Nat) : List Int := (List.range n).map fun (i : Nat) => kd.wrap (k + (i : Int))
@[simp] theorem marks_length (kd : IntKind) (k : Int) (n : Nat) : (marks kd k n).length = n := by simp [marks]
theorem marks_get (kd : IntKind) (k : Int) (n j : Nat) (h : j < n) : (marks kd k n)[j]'(by simpa using h) = kd.wrap (k + (j : Int)) := by simp [marks]

theorem set_step {α : Type} (x : α) (p q : List α) (y : α) (k : Nat) (hk : p.length = k) : (p ++ y :: q).set k x = (p ++ [x]) ++ q := by
 subst hk
 simp

theorem infoOf (e : TypeId) (z : Value) (s b : Nat) (h : (Try.prog.info? e).map (fun i => (i.zero, i.size, i.bytes)) = some (some z, s, b)) : ∃ i, Try.prog.info? e = some i ∧ i.zero = some z ∧ i.size = s ∧ i.bytes = b := info_parts h

theorem replicate_cons {α : Type} (x : α) (n k : Nat) (h : k < n) : List.replicate (n - k) x = x :: List.replicate (n - (k + 1)) x := by
 rw [show n - k = (n - (k + 1)) + 1 by omega, List.replicate_succ]

theorem infoByteS : (Try.prog.info? 5).map (fun i => (i.zero, i.size, i.bytes)) = some (some (.int .u8 0), 1, 1) := by kernel_rfl
theorem toByteS_any (a : Option Addr) (c : Nat) (l : List Int) (w : World) (hr : Reads w w.heap.size a (ints .u8 l)) (hl : l.length ≤ 1099511627776) :
  Calls Try.prog 19 #[.slice a l.length c] w fun e w' => ∃ a' c', e = .returned (.slice a' l.length c') ∧ Own w' w.heap.size 5 .u8 a' c' l ∧ Below w.heap.size w w' := by
 obtain ⟨i0, hi, hz0, hz1, hz2⟩ := infoOf _ _ _ _ infoByteS
 obtain ⟨n, hn⟩ : ∃ n, n = l.length := ⟨_, rfl⟩
 rw [← hn]
 have HN := Lib.hid hn
 have hl' : n ≤ 1099511627776 := by omega
 clear hn hl
 have HR := Lib.hid hr
 clear hr
 go_enter Try.func19, Try.ntmps19
 go_wp2_with (at_make; refine wpList_make_full _ rfl _ _ 22 rfl w.heap.size 5 i0 (.int .u8 0) 1 Try.underlying22 hi hz0 hz1 _ _ _ _ n rfl rfl rfl rfl (by rw [hz2]; omega) (by unfold maxLen; omega) (Nat.le_refl _) ?_; intro w1 hown hgrow)
 rw [show (Value.int .u8 0).cells = #[.int .u8 0] from rfl, Nat.mul_one, toList_madeCells_one] at hown
 have hB := (Below.refl w.heap.size w).grown hgrow (Nat.le_refl _) (by simp)
 clear hgrow
 have H0 := Lib.hid (And.intro hown hB)
 clear hown hB
 go_loopw [4] (fun i wr => ∃ k : Nat, k ≤ n ∧ i = .int .i64 k ∧ Hid (wr.ownsRow w.heap.size 5 1 (.slice (some ⟨w.heap.size, 0, none⟩) n n) n (ints .u8 (l.take k) ++ List.replicate (n - k) (.int .u8 0)) ∧ Below w.heap.size w wr)) (fun i _ => n - (intOf i).toNat)
 case atStart => exact ⟨0, Nat.zero_le _, rfl, by simpa [ints] using H0.out.1, H0.out.2⟩
 case round =>
  obtain ⟨k, hk, rfl, hrel⟩ := hrel
  obtain ⟨hown, hB⟩ := hrel.out
  by_cases hlt : k < n
  ·
   have hr := (HR.out.below hB).int k (by have := HN.out; omega)
   obtain ⟨ad, rfl, -, hcell⟩ := hr
   have hc0 := hown.cellAt k (by omega)
   have hf0 := hown.frozenAt k
   have hst := hown.stored k (.int .u8 (l[k]'(by have := HN.out; omega)))
   have hlen : (ints .u8 (l.take k)).length = k := by have := HN.out; simp; omega
   rw [List.getElem?_append_right (by omega), hlen, Nat.sub_self, List.getElem?_replicate, if_pos (by omega)] at hc0
   rw [replicate_cons _ _ _ hlt, set_step _ _ _ _ _ hlen] at hst
   have HS := Lib.hid hst
   clear hst hlen hown hrel
   obtain ⟨x, hx⟩ : ∃ x, x = l[k]'(by have := HN.out; omega) := ⟨_, rfl⟩
   rw [← hx] at hcell HS
   have HX := Lib.hid hx
   clear hx
   go_wp2
   go_roundw
   case rel =>
    refine ⟨k + 1, by omega, by go_num, And.intro ?_ ?_⟩
    ·
     have h1 := HS.out.1
     have e1 : ints .u8 (l.take k) ++ [Value.int .u8 x] = ints .u8 (l.take (k + 1)) := by
      rw [List.take_succ_eq_append_getElem (by have := HN.out; omega), ints_append, ← HX.out]
      rfl
     rw [e1] at h1
     exact h1
    ·
     exact hB.grown HS.out.2 hB.size (by simp)
   case measure => simp [intOf]; omega
  ·
   go_wp2
   go_ret
   obtain rfl : k = n := by omega
   refine ⟨_, _, rfl, ?_, hB⟩
   have hl0 := HN.out
   have e1 : l.take k = l := by rw [hl0, List.take_length]
   rw [e1, Nat.sub_self, List.replicate_zero, List.append_nil] at hown
   rw [hl0] at hown ⊢
   exact hown

def Drew (w w' : World) : Prop := ∃ n, w' = w.drewN n
theorem Drew.refl (w : World) : Drew w w := ⟨0, rfl⟩
theorem Drew.more {w w1 : World} (h : Drew w w1) (n : Nat) : Drew w (w1.drewN n) := by
 obtain ⟨m, rfl⟩ := h
 exact ⟨m + n, World.drewN_drewN ..⟩
theorem Drew.below {w w' : World} (h : Drew w w') (B : Nat) : Below B w w' := by
 obtain ⟨n, rfl⟩ := h
 exact ⟨rfl, rfl, rfl, Nat.le_refl _, fun _ _ => rfl⟩
theorem Drew.trans {w w1 w2 : World} (h : Drew w w1) (k : Drew w1 w2) : Drew w w2 := by
 obtain ⟨n, rfl⟩ := k
 exact h.more n

theorem take_eq_step {l m : List Int} {k : Nat} (hl : k < l.length) (hm : k < m.length) (h : l.take k = m.take k) (e : l[k] = m[k]) : l.take (k + 1) = m.take (k + 1) := by
 rw [List.take_succ_eq_append_getElem hl, List.take_succ_eq_append_getElem hm, h, e]
theorem eq_of_take {l m : List Int} (hn : l.length = m.length) (h : l.take l.length = m.take l.length) : l = m := by
 rw [List.take_length, hn, List.take_length] at h
 exact h
def eqB (l m : List Int) : Bool := decide (l = m)
theorem eqB_true {l m : List Int} (h : l = m) : eqB l m = true := decide_eq_true h
theorem eqB_false {l m : List Int} (h : l ≠ m) : eqB l m = false := decide_eq_false h

set_option maxHeartbeats 400000 in
theorem eqByteS_any (a a2 : Option Addr) (c c2 : Nat) (l m : List Int) (w : World) (B : Nat) (hr : Reads w B a (ints .u8 l)) (hr2 : Reads w B a2 (ints .u8 m)) (hl : l.length ≤ 4611686018427387904) (hm : m.length ≤ 4611686018427387904) :
  Calls Try.prog 21 #[.slice a l.length c, .slice a2 m.length c2] w fun e w' => e = .returned (.bool (eqB l m)) ∧ Drew w w' := by
 obtain ⟨n, hn⟩ : ∃ n, n = l.length := ⟨_, rfl⟩
 obtain ⟨n2, hn2⟩ : ∃ n, n = m.length := ⟨_, rfl⟩
 have hl' : n ≤ 4611686018427387904 := by omega
 have hm' : n2 ≤ 4611686018427387904 := by omega
 obtain ⟨b, hb⟩ : ∃ b, b = eqB l m := ⟨_, rfl⟩
 rw [← hb, ← hn, ← hn2]
 have HN := Lib.hid hn
 have HN2 := Lib.hid hn2
 have HB := Lib.hid hb
 have HR := Lib.hid (And.intro hr hr2)
 clear hn hn2 hr hr2 hl hm hb
 by_cases hlen : n = n2
 ·
  subst hlen
  go_enter Try.func21, Try.ntmps21
  go_wp2
  go_loopw [5] (fun i wr => ∃ k : Nat, k ≤ n ∧ i = .int .i64 k ∧ Hid (l.take k = m.take k ∧ Drew w wr)) (fun i _ => n - (intOf i).toNat)
  case atStart => exact ⟨0, Nat.zero_le _, rfl, by simp, Drew.refl w⟩
  case round =>
   obtain ⟨k, hk, rfl, hrel⟩ := hrel
   obtain ⟨htk, hD⟩ := hrel.out
   have HT := Lib.hid htk
   have HD := Lib.hid hD
   clear htk hrel
   by_cases hlt : k < n
   ·
    obtain ⟨ad, rfl, -, hcell⟩ := (HR.out.1.below (hD.below B)).int k (by have := HN.out; omega)
    obtain ⟨ad2, rfl, -, hcell2⟩ := (HR.out.2.below (hD.below B)).int k (by have := HN2.out; omega)
    clear hD
    obtain ⟨x, hx⟩ : ∃ x, x = l[k]'(by have := HN.out; omega) := ⟨_, rfl⟩
    obtain ⟨y, hy⟩ : ∃ y, y = m[k]'(by have := HN2.out; omega) := ⟨_, rfl⟩
    rw [← hx] at hcell
    rw [← hy] at hcell2
    have HX := Lib.hid hx
    have HY := Lib.hid hy
    clear hx hy
    have hkn : (k : Int) < n := by omega
    by_cases hxy : x = y
    ·
     subst hxy
     go_wp2
     go_quiet (fail)
     go_wp2
     go_roundw
     case rel =>
      exact ⟨k + 1, by omega, by go_num, take_eq_step (by have := HN.out; omega) (by have := HN2.out; omega) HT.out (HX.out.symm.trans HY.out), HD.out.more _⟩
     case measure => simp [intOf]; omega
    ·
     have hne : (x == y) = false := by simpa using hxy
     go_wp2
     go_quiet (fail)
     go_wp2
     go_ret
     refine ⟨?_, HD.out.more _⟩
     obtain rfl : b = false := by
      rw [HB.out]
      exact eqB_false (fun e => hxy (by rw [HX.out, HY.out]; subst e; rfl))
     rfl
   ·
    clear hD
    go_wp2
    go_ret
    obtain rfl : k = n := by omega
    refine ⟨?_, HD.out⟩
    obtain rfl : b = true := by
     rw [HB.out]
     have h1 := HT.out
     rw [HN.out] at h1
     exact eqB_true (eq_of_take (HN.out.symm.trans HN2.out) h1)
    rfl
 ·
  have hne : ((n : Int) == (n2 : Int)) = false := by simp; omega
  go_enter Try.func21, Try.ntmps21
  go_wp2
  go_ret
  refine ⟨?_, Drew.refl w⟩
  obtain rfl : b = false := by
   rw [HB.out]
   exact eqB_false (fun e => hlen (by rw [HN.out, HN2.out, e]))
  rfl
theorem marks_step (kd : IntKind) (k : Int) (n : Nat) : marks kd k (n + 1) = marks kd k n ++ [kd.wrap (k + (n : Int))] := by
 simp [marks, List.range_succ]

set_option maxHeartbeats 400000 in
theorem markByteS_any (a : Option Addr) (c : Nat) (l : List Int) (k : Int) (w : World) (h : Own w 0 5 .u8 a c l) (hl : l.length ≤ 1099511627776) (hk0 : 0 ≤ k) (hk1 : k ≤ 4611686018427387904) :
  Calls Try.prog 23 #[.slice a l.length c, .int .i64 k] w fun e w' => e = .returned (.int .i64 (k + l.length)) ∧ Own w' 0 5 .u8 a c (marks .u8 k l.length) ∧ Turned (Value.slice a l.length c).ownBlock.toList w w' := by
 rcases h.form with ⟨rfl, rfl, rfl⟩ | ⟨g, rfl, -, hg, -, -⟩
 ·
  have H := Lib.hid h
  clear h
  go_enter Try.func23, Try.ntmps23
  go_wp2
  refine wp_loop_rounds 1 ?_
  rw [rounds_succ]
  go_wp2
  go_ret
  exact ⟨by simp, H.out, Turned.refl _ _⟩
 ·
  obtain ⟨n, hn⟩ : ∃ n, n = l.length := ⟨_, rfl⟩
  have hl' : n ≤ 1099511627776 := by omega
  unfold Own at h
  rw [← hn] at h ⊢
  have hlen : (ints .u8 l).length = n := by simp [hn]
  obtain ⟨L, hL⟩ : ∃ L, L = ints .u8 l := ⟨_, rfl⟩
  rw [← hL] at h hlen
  have H := Lib.hid h
  have HL := Lib.hid hlen
  clear h hn hl hL hlen
  go_enter Try.func23, Try.ntmps23
  go_wp2
  go_loopw [1, 5] (fun v i wr => ∃ j : Nat, j ≤ n ∧ i = .int .i64 j ∧ v = .int .i64 (k + j) ∧ Hid (wr.ownsRow 0 5 1 (.slice (some ⟨g, 0, none⟩) n c) n (ints .u8 (marks .u8 k j) ++ L.drop j) ∧ w.grownBy wr (some g))) (fun _ i _ => n - (intOf i).toNat)
  case atStart => exact ⟨0, Nat.zero_le _, rfl, by simp, by simpa [marks, ints] using H.out, grownBy_refl w _⟩
  case round =>
   obtain ⟨j, hj, rfl, rfl, hrel⟩ := hrel
   obtain ⟨hown, hgr⟩ := hrel.out
   by_cases hlt : j < n
   ·
    have hc0 := hown.cellAt j (by omega)
    have hf0 := hown.frozenAt j
    have hst := hown.stored j (.int .u8 (IntKind.u8.wrap (k + j)))
    try rw [show IntKind.i64.wrap (k + (j : Int)) = k + (j : Int) from IntWalk.i64_in _ ⟨by omega, by omega⟩] at hst
    have hlen : (ints .u8 (marks .u8 k j)).length = j := by simp
    have hcell : ∃ u, (ints .u8 (marks .u8 k j) ++ L.drop j)[j]? = some u := by
     rw [List.getElem?_append_right (by omega), hlen, Nat.sub_self]
     exact ⟨_, List.getElem?_eq_getElem (by have := HL.out; simp; omega)⟩
    obtain ⟨u, hu⟩ := hcell
    rw [hu] at hc0
    have hdr : L.drop j = L[j]'(by have := HL.out; omega) :: L.drop (j + 1) := List.drop_eq_getElem_cons (by have := HL.out; omega)
    rw [hdr, set_step _ _ _ _ _ hlen] at hst
    have HS := Lib.hid (And.intro hst (And.intro hgr hown.frozenAt))
    clear hst hlen hown hrel hu hdr hgr
    go_wp2
    go_roundw
    case rel =>
     refine ⟨j + 1, by omega, by go_num, by go_num, And.intro ?_ ?_⟩
     ·
      have h1 := HS.out.1.1
      rw [marks_step, ints_append]
      first
      | exact h1
      | (rw [show IntKind.i64.wrap (k + (j : Int)) = k + (j : Int) from IntWalk.i64_in _ ⟨by omega, by omega⟩]; exact h1)
     ·
      exact grownBy_step HS.out.2.1 HS.out.1.2
    case measure => simp [intOf]; omega
   ·
    go_wp2
    go_ret
    obtain rfl : j = n := by omega
    refine ⟨rfl, ?_, Turned.of_grown hgr⟩
    rw [List.drop_eq_nil_of_le (by have := HL.out; omega), List.append_nil] at hown
    unfold Own
    rw [marks_length]
    exact hown
set_option maxHeartbeats 400000 in
theorem heldByteS_any (a : Option Addr) (c n : Nat) (k : Int) (w : World) (B : Nat) (h : Reads w B a (ints .u8 (marks .u8 k n))) (hl : n ≤ 1099511627776) (hk0 : 0 ≤ k) (hk1 : k ≤ 4611686018427387904) :
  Calls Try.prog 24 #[.slice a n c, .int .i64 k] w fun e w' => e = .returned (.int .i64 (k + n)) ∧ Drew w w' := by
 have H := Lib.hid h
 clear h
 go_enter Try.func24, Try.ntmps24
 go_wp2
 go_loopw [1, 5] (fun v i wr => ∃ j : Nat, j ≤ n ∧ i = .int .i64 j ∧ v = .int .i64 (k + j) ∧ Hid (Drew w wr)) (fun _ i _ => n - (intOf i).toNat)
 case atStart => exact ⟨0, Nat.zero_le _, rfl, by simp, Drew.refl w⟩
 case round =>
  obtain ⟨j, hj, rfl, rfl, hrel⟩ := hrel
  by_cases hlt : j < n
  ·
   obtain ⟨ad, rfl, -, hcell⟩ := (H.out.below (hrel.out.below B)).int j (by simpa using hlt)
   rw [marks_get _ _ _ _ hlt] at hcell
   go_wp2
   go_roundw
   case rel => exact ⟨j + 1, by omega, by go_num, by go_num, hrel.out⟩
   case measure => simp [intOf]; omega
  ·
   go_wp2
   go_ret
   obtain rfl : j = n := by omega
   exact ⟨rfl, hrel.out⟩

end Go.Proofs.Ytejincmlblpaoaa.Ex

namespace Go.Proofs.Ytejincmlblpaoaa.L2

def uv (n : Nat) : List Int := if n < 128 then [(n : Int)] else ((n % 128 + 128 : Nat) : Int) :: uv (n / 128)
termination_by n
decreasing_by omega
def enc (n : Int) : List Int := if L1.inB n 0 1000000000000 = true then uv n.toNat else []
def rdAux : Nat → Int → List Int → Option (Int × Nat)
 | _, _, [] => none
 | k, v, c :: s =>
  if 6 ≤ k then none
  else if c < 128 then (if (c = 0 ∧ 0 < k) ∨ 1000000000000 < v + c % 128 * 128 ^ k then none else some (v + c % 128 * 128 ^ k, k + 1))
  else rdAux (k + 1) (v + c % 128 * 128 ^ k) s
def rd (l : List Int) (off : Int) : Option (Int × Nat) := if 0 ≤ off then rdAux 0 0 (l.drop off.toNat) else none
def rdN (l : List Int) (off : Int) : Int := match rd l off with | some (v, _) => v | none => 0
def rdE (l : List Int) (off : Int) : Int := match rd l off with | some (_, m) => off + m | none => 0
def rdB (l : List Int) (off : Int) : Bool := (rd l off).isSome

theorem rdN_of {l : List Int} {off v : Int} {m : Nat} (h : rd l off = some (v, m)) : rdN l off = v := by unfold rdN; rw [h]
theorem rdE_of {l : List Int} {off v : Int} {m : Nat} (h : rd l off = some (v, m)) : rdE l off = off + m := by unfold rdE; rw [h]
theorem rdB_of {l : List Int} {off v : Int} {m : Nat} (h : rd l off = some (v, m)) : rdB l off = true := by unfold rdB; rw [h]; rfl
end Go.Proofs.Ytejincmlblpaoaa.L2

namespace Go.Proofs.Ytejincmlblpaoaa.L2
open Go.ChangeShapes Go.WideShapes Go.ChangeAt Go.RowKit Mem Sl Ex

theorem info8 : (Try.prog.info? 5).map (fun i => (i.zero, i.size, i.bytes)) = some (some (.int .u8 0), 1, 1) := by kernel_rfl

theorem below_alloc {B : Nat} {w w' : World} (h : Below B w w') (o : Obj) (hB : B ≤ w.heap.size) : Below B w (w'.alloc o) := h.alloc (Nat.le_trans hB h.size) o
theorem below_own {B : Nat} {w w' : World} {e : TypeId} {k : IntKind} {a : Option Addr} {c : Nat} {l : List Int} (ho : Own w B e k a c l) (hg : w.grownBy w' (Value.slice a l.length c).ownBlock) (hB : B ≤ w.heap.size) : Below B w w' :=
 (Below.refl _ _).grown hg hB (fun k hk => (ho.lt k hk).1)

theorem take_any (a : Option Addr) (c : Nat) (l : List Int) (s t : Nat) (w : World) (hr : Reads w w.heap.size a (ints .u8 l)) (hc : l.length ≤ c) (hl : l.length ≤ 1099511627776) (hst : s ≤ t) (ht : t ≤ l.length) :
  Calls Try.prog 34 #[.slice a l.length c, .int .i64 s, .int .i64 t] w (Gave w w.heap.size 5 .u8 ((l.drop s).take (t - s))) := by
 obtain ⟨i0, hi, hz0, hz1, hz2⟩ := infoOf _ _ _ _ info8
 obtain ⟨n, hn⟩ : ∃ n, n = l.length := ⟨_, rfl⟩
 rw [← hn] at ht hl hc ⊢
 have hp := (hr.below (below_alloc (Below.refl _ _) (.cells #[] 5) (Nat.le_refl _))).partInts s t t hst (by omega) (Nat.le_refl _)
 have hlen : ((l.drop s).take (t - s)).length = t - s := by simp; omega
 obtain ⟨m, hm⟩ : ∃ m, m = (l.drop s).take (t - s) := ⟨_, rfl⟩
 rw [← hm] at hp hlen ⊢
 have HP := Lib.hid (And.intro hp hlen)
 clear hr hn hm hp hlen
 go_enter Try.func34, Try.ntmps34
 go_wp2_with (at_builtin; refine wpList_append_src _ rfl _ _ 22 rfl w.heap.size 5 i0 (.int .u8 0) 1 Try.underlying22 hi hz0 hz1 hz2 rfl .u8 _ _ _ [] rfl rfl (Own.empty w 5 .u8 (Nat.le_refl _)) w.heap.size _ _ _ m rfl HP.out.2.symm HP.out.1 (by have := HP.out.2; simp [maxLen]; omega) (by have := HP.out.2; simp; omega) (by simp) ?_; intro a2 c2 w2 ho2 hg2)
 all_goals
  go_ret
  refine Gave.mk (by simp) ho2 ?_
  exact (below_alloc (Below.refl _ _) _ (Nat.le_refl _)).trans (below_own (Own.empty w 5 .u8 (Nat.le_refl _)) hg2 (by simp))

end Go.Proofs.Ytejincmlblpaoaa.L2

namespace Go.Proofs.Ytejincmlblpaoaa.Law
open Go.ChangeShapes Go.WideShapes Go.ChangeAt Go.RowKit Mem Sl Ex

section
variable {H : Type} {enc : TypeId × Value → H} {P : Program}
theorem wf_i64 {n : Int} (h : (Lit.int .i64 n).wf = true) : -9223372036854775808 ≤ n ∧ n ≤ 9223372036854775807 := by
 simpa [Lit.wf, IntKind.min, IntKind.max, IntKind.signed, IntKind.bits] using h
end

theorem Sep.drew {W w w' : World} {rs : List Res} (h : Sep W w rs) (hd : Drew w w') : Sep W w' rs := h.keep (hd.below _)

theorem markByteS {W w : World} {rs : List Res} (h : Sep W w rs) (i : Nat) {a : Option Addr} {c : Nat} {l : List Int} (hi : rs[i]? = some (own 5 .u8 a c l)) (k : Int) (hl : l.length ≤ 1099511627776) (hk0 : 0 ≤ k) (hk1 : k ≤ 4611686018427387904) :
  Calls Try.prog 23 #[.slice a l.length c, .int .i64 k] w fun e w' => e = .returned (.int .i64 (k + l.length)) ∧ Sep W w' (rs.set i (own 5 .u8 a c (marks .u8 k l.length))) :=
 (markByteS_any a c l k w (h.own i hi) hl hk0 hk1).mono fun _ _ ⟨he, ho, ht⟩ => ⟨he, h.put i hi ht ho (by
  rcases a with _ | g
  ·
   exact fun b hb => by simp [own, Value.ownBlock] at hb
  ·
   exact fun b hb => by simpa [own, Value.ownBlock] using hb)⟩
end Go.Proofs.Ytejincmlblpaoaa.Law

namespace Go.Proofs.Ytejincmlblpaoaa.Sd
open Go.ChangeShapes Go.WideShapes Go.ChangeAt Go.RowKit Mem Sl Ex Draw

section
variable {W w w' : World} {rs : List Res} {r r' : Res}
theorem put_new (h : Sep W w rs) (i : Nat) (hi : rs[i]? = some r) (ht : Turned r.fp w w') (hr : r'.is w') (hf : ∀ b ∈ r'.fp, b ∈ r.fp ∨ (w.heap.size ≤ b ∧ b < w'.heap.size)) : Sep W w' (rs.set i r') := by
 have hlt : i < rs.length := (List.getElem?_eq_some_iff.1 hi).1
 have hsz := h.old.size
 have hcase : ∀ (j : Nat) (s : Res), (rs.set i r')[j]? = some s → (j ≠ i ∧ rs[j]? = some s) ∨ (j = i ∧ s = r') := fun j s hj => by
  rw [List.getElem?_set] at hj
  by_cases e : i = j
  ·
   subst e
   rw [if_pos rfl, if_pos hlt] at hj
   exact .inr ⟨rfl, (Option.some.inj hj).symm⟩
  ·
   rw [if_neg e] at hj
   exact .inl ⟨fun e' => e e'.symm, hj⟩
 refine ⟨h.old.trans (ht.below h.old.size (fun b hm => (h.lies i r hi b hm).1)), fun j s hj => ?_, fun j s hj b hm => ?_, fun j k s t hj hk hne b hm hm2 => ?_⟩
 ·
  rcases hcase j s hj with ⟨hne, h1⟩ | ⟨rfl, rfl⟩
  ·
   exact s.loc (fun b hm => ht.block b (h.lies j s h1 b hm).2 (h.apart j i s r h1 hi hne b hm)) (h.is j s h1)
  ·
   exact hr
 ·
  rcases hcase j s hj with ⟨hne, h1⟩ | ⟨rfl, rfl⟩
  ·
   exact ⟨(h.lies j s h1 b hm).1, Nat.lt_of_lt_of_le (h.lies j s h1 b hm).2 ht.size⟩
  ·
   rcases hf b hm with h2 | h2
   ·
    exact ⟨(h.lies _ r hi b h2).1, Nat.lt_of_lt_of_le (h.lies _ r hi b h2).2 ht.size⟩
   ·
    exact ⟨by omega, h2.2⟩
 ·
  rcases hcase j s hj with ⟨hne1, h1⟩ | ⟨rfl, rfl⟩ <;> rcases hcase k t hk with ⟨hne2, h2⟩ | ⟨rfl, rfl⟩
  ·
   exact h.apart j k s t h1 h2 hne b hm hm2
  ·
   rcases hf b hm2 with h3 | h3
   ·
    exact h.apart j _ s r h1 hi hne1 b hm h3
   ·
    have := (h.lies j s h1 b hm).2; omega
  ·
   rcases hf b hm with h3 | h3
   ·
    exact h.apart k _ t r h2 hi hne2 b hm2 h3
   ·
    have := (h.lies k t h2 b hm2).2; omega
  ·
   exact hne rfl
end

section
variable {W w w' : World} {rs : List Res} {c : Nat}
end

section
variable {W w : World} {rs : List Res} {c : Nat}
end

section
variable {P : Program} (w : World)
theorem run_append_own (B : Nat) (t ty e : TypeId) (i : TypeInfo) (z : Value) (bytes : Nat) (ht : P.underlying t = some (.slice e)) (hi : P.info? e = some i) (hz : i.zero = some z)
  (hsize : i.size = 1) (hby : i.bytes = bytes) (hzs : z.cells.size = 1) (k : IntKind) (a : Option Addr) (c : Nat) (l : List Int) (hown : Own w B e k a c l)
  (B' : Nat) (A : Option Addr) (c' : Nat) (m : List Int) (hr : Reads w B' A (ints k m))
  (h63 : l.length + m.length ≤ maxLen) (hbytes : (l.length + m.length) * bytes ≤ 140737488355328) (hbase : B ≤ w.heap.size) :
  ∃ a1 c1 w', (Builtin.append_ #[t, t] ty #[.slice a l.length c, .slice A m.length c']).run P w = .ok (.slice a1 (l.length + m.length) c1) w' ∧ Own w' B e k a1 c1 (l ++ m) ∧ w.grownBy w' (Value.slice a l.length c).ownBlock ∧
   ((Value.slice a1 (l ++ m).length c1).ownBlock = (Value.slice a l.length c).ownBlock ∨ (Value.slice a1 (l ++ m).length c1).ownBlock = some w.heap.size) := by
 have fin : ∀ {v' : Value} {w' : World}, w'.ownsRow B e 1 v' (l.length + m.length) (ints k l ++ ints k m) → ∃ a1 c1, v' = .slice a1 (l.length + m.length) c1 ∧ Own w' B e k a1 c1 (l ++ m) := by
  intro v' w' h
  rw [← ints_append] at h
  rcases h.2 with ⟨rfl, hn⟩ | ⟨g, cap, cur, rfl, _⟩
  ·
   refine ⟨none, 0, by rw [hn], ?_⟩
   unfold Own
   rw [List.length_append, hn]
   rw [hn] at h
   exact h
  ·
   refine ⟨_, cap, rfl, ?_⟩
   unfold Own
   rw [List.length_append]
   exact h
 rcases A with _ | ad
 ·
  have hm : m = [] := by
   rcases m with _ | ⟨x, m⟩
   ·
    rfl
   ·
    obtain ⟨ad, h, _⟩ := hr 0 (by simp)
    cases h
  subst hm
  have hrun : (Builtin.append_ #[t, t] ty #[.slice a l.length c, .slice none 0 c']).run P w = .ok (.slice a l.length c) w := by
   rcases hown.form with ⟨rfl, rfl, rfl⟩ | ⟨g, rfl, _, _, h1, _⟩
   ·
    simp [Builtin.append_, run_underlying ht, sizeOf, typeInfo, hi, Builtin.lenOf, Builtin.firstCells]
   ·
    simp [Builtin.append_, run_underlying ht, sizeOf, typeInfo, hi, Builtin.lenOf, Builtin.firstCells, h1, storeCells]
  exact ⟨a, c, w, by simpa using hrun, by simpa using hown, grownBy_refl w _, .inl (by simp)⟩
 ·
  have hcells : ∀ j u, (ints k m)[j]? = some u → w.cell? (ad.add j) = some u := by
   intro j u hu
   have hj := (List.getElem?_eq_some_iff.1 hu).1
   obtain ⟨ad', h, _, hc⟩ := hr j hj
   injection h with h
   subst h
   rw [hc, ← hu, List.getElem?_eq_getElem hj]
  obtain ⟨v', w', hrun, h2, h3, -, h5⟩ := run_append_own_at (P := P) w B t ty e i z 1 bytes ht hi hz hsize hby hzs (by omega) _ l.length (ints k l) hown ad m.length c' (ints k m) (by simp) hcells (ints_one k m) h63 hbytes hbase
  obtain ⟨a1, c1, rfl, ho⟩ := fin h2
  exact ⟨a1, c1, w', hrun, ho, h3, by rw [List.length_append]; exact h5⟩

theorem wpList_append_sep {ops : Array Oper} {rest : List Oper} {o : Oper} {act : Act} {Q : Exit → Act → World → Prop} (hgd : o.guard = none) (s x : Operand) (t : TypeId)
  (ho : o.op = .call { callee := .builtin .append, args := #[s, x], argTypes := #[t, t] })
  (e : TypeId) (i : TypeInfo) (z : Value) (bytes : Nat) (ht : P.underlying t = some (.slice e)) (hi : P.info? e = some i) (hz : i.zero = some z)
  (hsize : i.size = 1) (hby : i.bytes = bytes) (hzs : z.cells.size = 1) (k : IntKind) (a : Option Addr) (n c : Nat) (l : List Int) (hs : act.eval s = .slice a n c) (hn : n = l.length)
  (W : World) (rs : List Res) (hS : Sep W w rs) (ix : Nat) (hix : rs[ix]? = some (own e k a c l))
  (B' : Nat) (A : Option Addr) (n' c' : Nat) (m : List Int) (hx : act.eval x = .slice A n' c') (hn' : n' = m.length) (hr : Reads w B' A (ints k m))
  (h63 : l.length + m.length ≤ maxLen) (hbytes : (l.length + m.length) * bytes ≤ 140737488355328)
  (h : ∀ a1 c1 w', Sep W w' (rs.set ix (own e k a1 c1 (l ++ m))) → wpList P ops Q rest (act.put o.dst (.slice a1 (l.length + m.length) c1)) w') : wpList P ops Q (o :: rest) act w := by
 subst hn
 subst hn'
 refine wpList_plain hgd fun K hK => ?_
 obtain ⟨a1, c1, w', hrun, h2, h3, h4⟩ := run_append_own (P := P) w W.heap.size t o.type e i z bytes ht hi hz hsize hby hzs k a c l (hS.ownAt ix hix) B' A c' m hr h63 hbytes hS.old.size
 unfold Oper.wp execOp
 simp only [ho, resolve, invoke, builtin, Sem.run_bind, Sem.run_pure, Result.andThen_ok, List.map_toArray, List.map_cons, List.map_nil, hs, hx, hrun]
 refine hK _ _ (h a1 c1 w' (put_new hS ix hix (Turned.of_grown h3) (h2.base (Nat.zero_le _)) fun b hb => ?_))
 have hb' : (Value.slice a1 (l ++ m).length c1).ownBlock = some b := by simpa [own] using hb
 rcases h4 with h5 | h5
 ·
  left
  have : (Value.slice a l.length c).ownBlock = some b := by rw [← h5]; exact hb'
  simpa [own] using this
 ·
  right
  rw [hb'] at h5
  have hbe : b = w.heap.size := Option.some.inj h5
  have := h2.lt b (by simpa using hb')
  exact ⟨by omega, this.2⟩
end

theorem infoB : (Try.prog.info? 5).map (fun i => (i.zero, i.size, i.bytes)) = some (some (.int .u8 0), 1, 1) := by kernel_rfl
end Go.Proofs.Ytejincmlblpaoaa.Sd

namespace Go.Proofs.Ytejincmlblpaoaa.Sv
open Go.ChangeShapes Go.WideShapes Go.ChangeAt Go.RowKit Mem Sl

def OwnV (w : World) (B : Nat) (e : TypeId) (k : Nat) (a : Option Addr) (c n : Nat) (xs : List Value) : Prop := w.ownsRow B e k (.slice a n c) n xs

section
variable {w w' : World} {B B' : Nat} {e : TypeId} {k : Nat} {a : Option Addr} {c n : Nat} {xs : List Value}
theorem OwnV.len (h : OwnV w B e k a c n xs) : xs.length = n * k := h.1
theorem OwnV.form (h : OwnV w B e k a c n xs) : (a = none ∧ n = 0 ∧ xs = [] ∧ c = 0) ∨ ∃ g, a = some ⟨g, 0, none⟩ ∧ B ≤ g ∧ g < w.heap.size ∧ n ≤ c ∧ c ≤ maxLen := by
 rcases h.2 with ⟨hv, hn⟩ | ⟨g, cap, cur, hv, hb, hg, h1, h2, _⟩
 ·
  injection hv with h1 h2 h3
  exact .inl ⟨h1, hn, List.eq_nil_of_length_eq_zero (by rw [h.1, hn, Nat.zero_mul]), h3⟩
 ·
  injection hv with h3 h4 h5
  exact .inr ⟨g, h3, hb, (Array.getElem?_eq_some_iff.1 hg).1, by omega, by omega⟩
theorem OwnV.cap (h : OwnV w B e k a c n xs) : n ≤ c := by
 rcases h.form with ⟨_, rfl, _⟩ | ⟨g, rfl, hb, hg, h1, _⟩
 ·
  simp
 ·
  exact h1
theorem OwnV.reads (h : OwnV w B e k a c n xs) : Reads w w.heap.size a xs := fun j hj => by
 rcases h.form with ⟨_, _, rfl, _⟩ | ⟨g, rfl, hb, hg, _⟩
 ·
  simp at hj
 ·
  exact ⟨_, rfl, hg, World.ownsRow.cells (g := g) h rfl j _ (List.getElem?_eq_getElem hj)⟩
theorem OwnV.base (h : OwnV w B e k a c n xs) (hB : B' ≤ B) : OwnV w B' e k a c n xs := by
 refine ⟨h.1, ?_⟩
 rcases h.2 with hv | ⟨g, cap, cur, hv, hb, r⟩
 ·
  exact .inl hv
 ·
  exact .inr ⟨g, cap, cur, hv, by omega, r⟩
theorem OwnV.lift (h : OwnV w B e k a c n xs) (hB : ∀ b ∈ (Value.slice a n c).ownBlock.toList, B' ≤ b) : OwnV w B' e k a c n xs := by
 refine ⟨h.1, ?_⟩
 rcases h.2 with hv | ⟨g, cap, cur, hv, hb, r⟩
 ·
  exact .inl hv
 ·
  exact .inr ⟨g, cap, cur, hv, hB g (by rw [hv]; simp [Value.ownBlock]), r⟩
theorem OwnV.below (h : OwnV w B e k a c n xs) (hb : Below w.heap.size w w') : OwnV w' B e k a c n xs := by
 refine ⟨h.1, ?_⟩
 rcases h.2 with hv | ⟨g, cap, cur, hv, hB, hg, r⟩
 ·
  exact .inl hv
 ·
  exact .inr ⟨g, cap, cur, hv, hB, (hb.block g (Array.getElem?_eq_some_iff.1 hg).1).trans hg, r⟩
theorem OwnV.alloc (h : OwnV w B e k a c n xs) (o : Obj) : OwnV (w.alloc o) B e k a c n xs := h.below ((Below.refl _ _).alloc (Nat.le_refl _) o)
theorem OwnV.nil (w : World) (B : Nat) (e : TypeId) (k : Nat) : OwnV w B e k none 0 0 [] := ⟨(Nat.zero_mul k).symm, .inl ⟨rfl, rfl⟩⟩
theorem OwnV.empty (w : World) (e : TypeId) (k : Nat) (hB : B ≤ w.heap.size) : OwnV (w.alloc (.cells #[] e)) B e k (some ⟨w.heap.size, 0, none⟩) 0 0 [] := by
 have := World.ownsRow_made (base := B) (e := e) (size := k) w #[] 0 hB (Nat.zero_le _) (Nat.zero_mul k).symm
 exact this
theorem OwnV.cell {g : Nat} (h : OwnV w B e k (some ⟨g, 0, none⟩) c n xs) (j : Nat) (hj : j < xs.length) : w.cell? ⟨g, j, none⟩ = some xs[j] := by
 have := World.ownsRow.cells (g := g) h rfl j _ (List.getElem?_eq_getElem hj)
 rwa [Addr.add_lit, Nat.zero_add] at this
theorem OwnV.free {g : Nat} (h : OwnV w B e k (some ⟨g, 0, none⟩) c n xs) (j : Nat) : w.frozen? ⟨g, j, none⟩ = false := by
 rcases h.2 with ⟨hv, hn⟩ | ⟨g', cap, cur, hv, hb, hg, _⟩
 ·
  injection hv with h1; cases h1
 ·
  injection hv with h1
  injection h1 with h1
  injection h1 with h1
  subst h1
  simp [World.frozen?, hg]
theorem OwnV.set {g : Nat} (h : OwnV w B e k (some ⟨g, 0, none⟩) c n xs) (j : Nat) (hj : j < xs.length) (v : Value) : OwnV (w.setCell ⟨g, j, none⟩ v) B e k (some ⟨g, 0, none⟩) c n (xs.set j v) := by
 refine ⟨by simpa using h.1, ?_⟩
 rcases h.2 with ⟨hv, hn⟩ | ⟨g', cap, cur, hv, hb, hg, h1, h2, h3, h4⟩
 ·
  injection hv with h1; cases h1
 ·
  injection hv with e1 e2 e3
  injection e1 with e1
  injection e1 with e1
  subst e1
  refine .inr ⟨g, cap, cur.setIfInBounds j v, by rw [e3], hb, Row.put (w := w) (t := e) (cs := cur) hg j v, h1, h2, by simpa using h3, ?_⟩
  rw [Array.toList_setIfInBounds, List.take_set, h4]
end

def ownV (e : TypeId) (k : Nat) (a : Option Addr) (c n : Nat) (xs : List Value) : Res where
 fp := (Value.slice a n c).ownBlock.toList
 is w := OwnV w 0 e k a c n xs
 loc := fun hs h => ⟨h.1, by
  rcases h.2 with hv | ⟨g, cap, cur, hv, hB, hg, r⟩
  ·
   exact .inl hv
  ·
   exact .inr ⟨g, cap, cur, hv, hB, (hs g (by rw [hv]; simp [Value.ownBlock])).trans hg, r⟩⟩
section
variable {W w w' : World} {rs : List Res} {e : TypeId} {k : Nat} {a : Option Addr} {c n : Nat} {xs : List Value}
end

theorem sep_sub {W w : World} {rs ts : List Res} (h : Sep W w rs) (f : Nat → Nat) (hf : ∀ i r, ts[i]? = some r → rs[f i]? = some r) (hi : ∀ i j, i < ts.length → j < ts.length → f i = f j → i = j) : Sep W w ts :=
 ⟨h.old, fun i r hr => h.is (f i) r (hf i r hr), fun i r hr => h.lies (f i) r (hf i r hr), fun i j r s hr hs hne => h.apart (f i) (f j) r s (hf i r hr) (hf j s hs) (fun e => hne (hi i j (List.getElem?_eq_some_iff.1 hr).1 (List.getElem?_eq_some_iff.1 hs).1 e))⟩
section
variable {P : Program} (w : World)
end
end Go.Proofs.Ytejincmlblpaoaa.Sv

namespace Go.Proofs.Ytejincmlblpaoaa.L4
open Go.Op (bytesLess)

theorem less_irrefl : ∀ (a : List UInt8), bytesLess a a = false
 | [] => rfl
 | x :: r => by simp [bytesLess, less_irrefl r]
theorem less_total : ∀ (a b : List UInt8), a ≠ b → bytesLess a b = false → bytesLess b a = true
 | [], [], h, _ => absurd rfl h
 | _ :: _, [], _, _ => rfl
 | [], _ :: _, _, h => by simp [bytesLess] at h
 | a :: x, b :: y, hne, h => by
  simp only [bytesLess, Bool.or_eq_false_iff, decide_eq_false_iff_not, UInt8.not_lt] at h
  obtain ⟨h1, h2⟩ := h
  by_cases e : a = b
  ·
   subst e
   simp at h2
   have := less_total x y (fun e2 => hne (by rw [e2])) h2
   simp [bytesLess, this]
  ·
   have : b < a := by
    rcases UInt8.lt_or_eq_of_le h1 with h3 | h3
    ·
     exact h3
    ·
     exact absurd h3.symm e
   simp [bytesLess, this]
theorem less_asymm : ∀ (a b : List UInt8), bytesLess a b = true → bytesLess b a = false
 | [], [], h => by simp [bytesLess] at h
 | _ :: _, [], h => by simp [bytesLess] at h
 | [], _ :: _, _ => rfl
 | a :: x, b :: y, h => by
  simp only [bytesLess, Bool.or_eq_true, decide_eq_true_eq, Bool.and_eq_true, beq_iff_eq] at h
  simp only [bytesLess, Bool.or_eq_false_iff, decide_eq_false_iff_not, UInt8.not_lt, Bool.and_eq_false_imp, beq_iff_eq]
  rcases h with h | ⟨rfl, h⟩
  ·
   exact ⟨UInt8.le_of_lt h, fun e => by subst e; exact absurd h (UInt8.lt_irrefl _)⟩
  ·
   exact ⟨UInt8.le_refl _, fun _ => less_asymm x y h⟩
theorem less_trans : ∀ (a b c : List UInt8), bytesLess a b = true → bytesLess b c = true → bytesLess a c = true
 | [], [], _, h1, _ => by simp [bytesLess] at h1
 | _ :: _, [], _, h1, _ => by simp [bytesLess] at h1
 | _, _ :: _, [], _, h2 => by simp [bytesLess] at h2
 | [], _ :: _, _ :: _, _, _ => by simp [bytesLess]
 | a :: x, b :: y, c :: z, h1, h2 => by
  simp only [bytesLess, Bool.or_eq_true, decide_eq_true_eq, Bool.and_eq_true, beq_iff_eq] at h1 h2 ⊢
  rcases h1 with h1 | ⟨rfl, h1⟩ <;> rcases h2 with h2 | ⟨rfl, h2⟩
  ·
   exact .inl (UInt8.lt_trans h1 h2)
  ·
   exact .inl h1
  ·
   exact .inl h2
  ·
   exact .inr ⟨rfl, less_trans x y z h1 h2⟩
def be : Nat → Nat → List UInt8
 | 0, _ => []
 | k + 1, m => UInt8.ofNat (m / 256 ^ k % 256) :: be k m
@[simp] theorem be_length : ∀ (k m : Nat), (be k m).length = k
 | 0, _ => rfl
 | k + 1, m => by simp [be, be_length k m]
structure K where
 kind : Int
 n : Int
 text : ByteArray
def K.t (k : K) : List UInt8 := k.text.data.toList
def K.zero : K := ⟨0, 0, ⟨#[]⟩⟩
def chr (b : UInt8) : Bool := (decide (97 ≤ b.toNat) && decide (b.toNat ≤ 122)) || (decide (48 ≤ b.toNat) && decide (b.toNat ≤ 57))
def isT (l : List UInt8) : Bool := l.all chr && decide (l.length ≤ 12)
structure Good (k : K) : Prop where
 k0 : 1 ≤ k.kind
 k1 : k.kind ≤ 3
 n0 : -1000000000000 ≤ k.n
 n1 : k.n ≤ 1000000000000
 n2 : k.kind = 2 → k.n = 0
 t : isT k.t = true
 t1 : k.kind = 1 → k.t = []
end Go.Proofs.Ytejincmlblpaoaa.L4

namespace Go.Proofs.Ytejincmlblpaoaa.L1

theorem decFrom_snoc (l : List UInt8) (b : UInt8) : ∀ acc, Lib.decFrom acc (l ++ [b]) = (Lib.decFrom acc l).bind fun n => (Lib.digitVal b).map fun d => n * 10 + d := by
 induction l with
 | nil =>
  intro acc
  simp only [List.nil_append, Lib.decFrom]
  cases Lib.digitVal b <;> rfl
 | cons a t ih =>
  intro acc
  simp only [List.cons_append, Lib.decFrom]
  cases Lib.digitVal a with
  | none => rfl
  | some d => exact ih _

theorem digitVal_dig (d : Nat) (h : d < 10) : Lib.digitVal (UInt8.ofNat (48 + d)) = some d := by
 have e : (UInt8.ofNat (48 + d)).toNat = 48 + d := by
  rw [UInt8.toNat_ofNat']; omega
 unfold Lib.digitVal
 rw [if_pos (by rw [e]; omega), e]
 congr 1; omega

theorem decFrom_dec (u : Nat) : Lib.decFrom 0 (Lib.decDigits u) = some u := by
 induction u using Nat.strongRecOn with
 | _ u ih =>
  by_cases h10 : u < 10
  ·
   rw [Lib.decDigits_one h10]
   simp only [Lib.decFrom, digitVal_dig u h10]
   simp
  ·
   rw [Lib.decDigits, dif_neg h10, decFrom_snoc, ih (u / 10) (by omega), digitVal_dig _ (by omega)]
   simp only [Option.bind_some, Option.map_some]
   congr 1; omega

theorem nDigits_pow (k u : Nat) (h : u < 10 ^ (k + 1)) : Lib.nDigits u ≤ k + 1 := by
 induction k generalizing u with
 | zero => rw [Lib.nDigits_small (by simpa using h)]; exact Nat.le_refl _
 | succ k ih =>
  by_cases h10 : u < 10
  ·
   rw [Lib.nDigits_small h10]; omega
  ·
   rw [Lib.nDigits_big h10]
   have := ih (u / 10) (by rw [Nat.pow_succ] at h; omega)
   omega

def Num (l : List UInt8) (n : Int) : Prop := 0 ≤ n ∧ n ≤ 1000000000000 ∧ Lib.itoa n = l

theorem itoa_nonneg {n : Int} (h : 0 ≤ n) : Lib.itoa n = Lib.decDigits n.toNat := by
 unfold Lib.itoa; rw [if_neg (by omega)]
theorem Num.length {l : List UInt8} {n : Int} (h : Num l n) : 1 ≤ l.length ∧ l.length ≤ 13 := by
 obtain ⟨h0, h1, h2⟩ := h
 rw [← h2, itoa_nonneg h0, Lib.decDigits_length]
 exact ⟨Lib.nDigits_pos _, nDigits_pow 12 _ (by show _ < 10000000000000; omega)⟩
theorem Num.dec {l : List UInt8} {n : Int} (h : Num l n) : Lib.decFrom 0 l = some n.toNat := by
 obtain ⟨h0, h1, h2⟩ := h
 rw [← h2, itoa_nonneg h0]; exact decFrom_dec _
theorem Num.digit {l : List UInt8} {n : Int} (h : Num l n) (k : Nat) (b : UInt8) (hb : l[k]? = some b) : 48 ≤ b.toNat ∧ b.toNat ≤ 57 := by
 obtain ⟨d, hd⟩ := Lib.digit_of_decFrom l 0 _ h.dec k b hb
 unfold Lib.digitVal at hd
 split at hd
 ·
  assumption
 ·
  cases hd
theorem Num.atoi {l : List UInt8} {n : Int} (h : Num l n) : Lib.atoiAll l = .ok n := by
 have hl := h.length
 have hd := h.dec
 rw [Lib.atoiAll_short l (by omega)]
 have ha : Lib.atoi l = some n := by
  cases l with
  | nil => simp at hl
  | cons b r =>
   have hb := h.digit 0 b rfl
   have e1 : (b == 45) = false := by
    rw [beq_eq_false_iff_ne]; intro e; subst e; revert hb; decide
   have e2 : (b == 43) = false := by
    rw [beq_eq_false_iff_ne]; intro e; subst e; revert hb; decide
   simp only [Lib.atoi, e1, e2, Lib.decNat, List.isEmpty_cons, Bool.false_eq_true, if_false, hd, Option.map_some]
   congr 1
   have := h.1
   omega
 rw [ha]; rfl
def pOk (l : List UInt8) : Bool := match Lib.atoiAll l with
 | .ok v => decide (0 ≤ v) && decide (v ≤ 1000000000000) && (Lib.itoa v == l)
 | _ => false
theorem Num.ok {l : List UInt8} {n : Int} (h : Num l n) : pOk l = true := by
 unfold pOk; rw [h.atoi]; simp [h.1, h.2.1, h.2.2]
end Go.Proofs.Ytejincmlblpaoaa.L1

namespace Go.Proofs.Ytejincmlblpaoaa.L4
open L1

def hd (s : List UInt8) : List UInt8 := s.takeWhile (· != 39)
end Go.Proofs.Ytejincmlblpaoaa.L4

namespace Go.Proofs.Ytejincmlblpaoaa.L1
open Go.ChangeShapes Go.WideShapes Go.ChangeAt Go.RowKit

theorem specMin_any (a b : Int) (w : World) :
    Calls Try.prog 48 #[.int .i64 a, .int .i64 b] w fun e w' => e = .returned (.int .i64 (min a b)) ∧ w = w' := by
  by_cases h : b < a <;>
    (go_enter Try.func48, Try.ntmps48
     go_wp2
     go_ret
     exact ⟨ret_int (by omega), rfl⟩)

theorem specMax_any (a b : Int) (w : World) :
    Calls Try.prog 47 #[.int .i64 a, .int .i64 b] w fun e w' => e = .returned (.int .i64 (max a b)) ∧ w = w' := by
  by_cases h : a < b <;>
    (go_enter Try.func47, Try.ntmps47
     go_wp2
     go_ret
     exact ⟨ret_int (by omega), rfl⟩)

theorem extremes_one (a b : Int) (B : Nat) (w : World) (hc : w.cell? ⟨B, 0, none⟩ = some (.int .i64 b)) :
    Calls Try.prog 51 #[.int .i64 a, .slice (some ⟨B, 0, none⟩) 1 1] w fun e w' => e = .returned (.tuple #[.int .i64 (min a b), .int .i64 (max a b)]) ∧ w = w' := by
  go_enter Try.func51, Try.ntmps51
  go_wp2
  go_loop [14, 6, 7] (fun i l g => (i = .int .i64 0 ∧ l = .int .i64 a ∧ g = .int .i64 a) ∨ (i = .int .i64 1 ∧ l = .int .i64 (min a b) ∧ g = .int .i64 (max a b))) (fun i _ _ => 1 - (intOf i).toNat)
  case atStart => exact Or.inl ⟨rfl, rfl, rfl⟩
  case round =>
    rcases hrel with ⟨rfl, rfl, rfl⟩ | ⟨rfl, rfl, rfl⟩
    · by_cases h1 : b < a <;> by_cases h2 : b > a
      · omega
      all_goals
        go_wp2
        go_round
        case rel => exact Or.inr ⟨by go_num, by congr 1; omega, by congr 1; omega⟩
        case measure => simp [intOf]
    · go_wp2
      go_ret2
      exact ⟨rfl, rfl⟩

end Go.Proofs.Ytejincmlblpaoaa.L1

namespace Go.Proofs.Ytejincmlblpaoaa.L2
open Go.ChangeShapes Go.WideShapes Go.ChangeAt Go.RowKit Mem Sl Ex

def RdE (l : List Int) (off : Int) : Ending := .returned (.tuple #[.int .i64 (rdN l off), .int .i64 (rdE l off), .bool (rdB l off)])
theorem RdE.none {l : List Int} {off : Int} (h : rd l off = none) : RdE l off = .returned (.tuple #[.int .i64 0, .int .i64 0, .bool false]) := by
 unfold RdE rdN rdE rdB
 rw [h]; rfl
theorem RdE.some {l : List Int} {off v e : Int} {m : Nat} (h : rd l off = some (v, m)) (he : off + m = e) : RdE l off = .returned (.tuple #[.int .i64 v, .int .i64 e, .bool true]) := by
 unfold RdE
 rw [rdN_of h, rdE_of h, rdB_of h, he]
def Mid (l : List Int) (o k : Nat) (v : Int) : Prop := 0 ≤ v ∧ v < 128 ^ k ∧ rd l o = rdAux k v (l.drop (o + k))
theorem Mid.start (l : List Int) (o : Nat) : Mid l o 0 0 := ⟨by omega, by decide, by
 unfold rd
 rw [if_pos (by omega)]
 simp⟩
theorem Mid.cons {l : List Int} {o k : Nat} {v : Int} (h : Mid l o k v) (hk : o + k < l.length) (h6 : k < 6) :
  rd l o = if l[o + k] < 128 then (if (l[o + k] = 0 ∧ 0 < k) ∨ 1000000000000 < v + l[o + k] % 128 * 128 ^ k then none else some (v + l[o + k] % 128 * 128 ^ k, k + 1)) else rdAux (k + 1) (v + l[o + k] % 128 * 128 ^ k) (l.drop (o + (k + 1))) := by
 rw [h.2.2, List.drop_eq_getElem_cons hk, rdAux, if_neg (by omega)]
 rfl
end Go.Proofs.Ytejincmlblpaoaa.L2

namespace Go.Proofs.Ytejincmlblpaoaa.L2
open Go.ChangeShapes Go.WideShapes Go.ChangeAt Go.RowKit Mem Sl Ex

def GaveT (w : World) (B : Nat) (e : TypeId) (k : IntKind) (l : List Int) (v : Int) (b : Bool) (en : Ending) (w' : World) : Prop := ∃ a c, en = .returned (.tuple #[.slice a l.length c, .int .i64 v, .bool b]) ∧ Own w' B e k a c l ∧ Below B w w'
theorem GaveT.mk {w w' : World} {B : Nat} {e : TypeId} {k : IntKind} {l : List Int} {v v' : Int} {b b' : Bool} {a : Option Addr} {c n : Nat} (hn : n = l.length) (hv : v' = v) (hb : b' = b) (ho : Own w' B e k a c l) (hw : Below B w w') :
  GaveT w B e k l v b (.returned (.tuple #[.slice a n c, .int .i64 v', .bool b'])) w' := ⟨a, c, by rw [hn, hv, hb], ho, hw⟩

def dc (l : List Int) : Int → Nat → Option (List Int × Int)
 | off, 0 => some ([], off)
 | off, n + 1 => match rd l off with
  | none => none
  | some (v, m) => (dc l (off + m) n).map fun p => (v :: p.1, p.2)
def DcMid (l : List Int) (off : Int) (n k : Nat) (acc : List Int) (o : Int) : Prop := acc.length = k ∧ dc l off n = (dc l o (n - k)).map fun p => (acc ++ p.1, p.2)
theorem DcMid.start (l : List Int) (off : Int) (n : Nat) : DcMid l off n 0 [] off := ⟨rfl, by simp⟩
theorem DcMid.none {l : List Int} {off : Int} {n k : Nat} {acc : List Int} {o : Int} (h : DcMid l off n k acc o) (hk : k < n) (hr : rdB l o = false) : dc l off n = none := by
 rw [h.2, show n - k = (n - (k + 1)) + 1 by omega, dc]
 have e : rd l o = Option.none := by
  unfold rdB at hr
  cases hh : rd l o with
  | none => rfl
  | some p => rw [hh] at hr; cases hr
 rw [e]
 rfl
end Go.Proofs.Ytejincmlblpaoaa.L2

namespace Go.Proofs.Ytejincmlblpaoaa.L4
open Go.ChangeShapes Go.WideShapes Go.ChangeAt Go.RowKit Mem Sl Ex L2

def K.v (k : K) : Value := .agg #[.int .i64 k.kind, .int .i64 k.n, .string k.text]
def K.cells (k : K) : Array Value := #[.int .i64 k.kind, .int .i64 k.n, .string k.text]

end Go.Proofs.Ytejincmlblpaoaa.L4

namespace Go.Proofs.Ytejincmlblpaoaa.L4
open Go.Op (bytesLess)
open Go.ChangeShapes Go.WideShapes Go.ChangeAt Go.RowKit Mem Sl Ex L2


def Box (w : World) (g : Nat) (t : TypeId) (k : K) : Prop := Row w g t k.cells
theorem Box.below {w w' : World} {g : Nat} {t : TypeId} {k : K} (h : Box w g t k) (hb : Below w.heap.size w w') : Box w' g t k := Row.below h hb (Row.inside h)
theorem Box.more {w : World} {g : Nat} {t : TypeId} {k : K} (h : Box w g t k) (o : Obj) : Box (w.alloc o) g t k := Row.more h o

structure R where
 hl : Bool
 hh : Bool
 lo : K
 hi : K
def R.v (r : R) : Value := .agg #[.bool r.hl, .bool r.hh, .int .i64 r.lo.kind, .int .i64 r.lo.n, .string r.lo.text, .int .i64 r.hi.kind, .int .i64 r.hi.n, .string r.hi.text]
def R.cells (r : R) : Array Value := #[.bool r.hl, .bool r.hh, .int .i64 r.lo.kind, .int .i64 r.lo.n, .string r.lo.text, .int .i64 r.hi.kind, .int .i64 r.hi.n, .string r.hi.text]
structure St (w wr : World) (kt rt : TypeId) (k : K) (r : R) : Prop where
 k : Row wr w.heap.size kt k.cells
 r : Row wr (w.heap.size + 1) rt r.cells
 b : Below w.heap.size w wr
end Go.Proofs.Ytejincmlblpaoaa.L4

namespace Go.Proofs.Ytejincmlblpaoaa.L4
open Go.ChangeShapes Go.WideShapes Go.ChangeAt Go.RowKit Mem Sl Ex L2

def left (n : Int) (s : ByteArray) : Int := if n - s.size < 0 then -1 else n - s.size

def R.left (n : Int) (r : R) : Int := if L4.left n r.lo.text < 0 then -1 else L4.left (L4.left n r.lo.text) r.hi.text
structure Tri (w wr : World) (t u : TypeId) (r : R) (x : Array Value) : Prop where
 r : Row wr w.heap.size t r.cells
 z : Row wr (w.heap.size + 1) u #[.bool false, .bool false, .int .i64 0, .int .i64 0, .string ⟨#[]⟩, .int .i64 0, .int .i64 0, .string ⟨#[]⟩]
 x : Row wr (w.heap.size + 1 + 1) u x
 b : Below w.heap.size w wr
theorem Row.apart {w : World} {g g' : Nat} {t : TypeId} {cs : Array Value} (h : Row w g t cs) (i : Nat) (v : Value) (hne : g ≠ g') : Row (w.setCell ⟨g', i, none⟩ v) g t cs := (Below.heap_setCell w ⟨g', i, none⟩ v g hne).trans h
theorem Tri.put {w wr : World} {t u : TypeId} {r : R} {x : Array Value} (h : Hid (Tri w wr t u r x)) (i : Nat) (v : Value) : Hid (Tri w (wr.setCell ⟨w.heap.size + 1 + 1, i, none⟩ v) t u r (x.setIfInBounds i v)) :=
 ⟨Row.apart h.out.r i v (by omega), Row.apart h.out.z i v (by omega), h.out.x.put i v, h.out.b.setCell (by show w.heap.size ≤ w.heap.size + 1 + 1; omega) v⟩
end Go.Proofs.Ytejincmlblpaoaa.L4

namespace Go.Proofs.Ytejincmlblpaoaa.Bag
open Go.ChangeShapes Go.WideShapes Go.ChangeAt Go.RowKit Mem Sl Sv

structure RowS where
 e : TypeId
 k : Nat
 a : Option Addr
 c : Nat
 n : Nat
 xs : List Value
def RowS.fp (r : RowS) : List Nat := (Value.slice r.a r.n r.c).ownBlock.toList
def RowS.Own (w : World) (B : Nat) (r : RowS) : Prop := OwnV w B r.e r.k r.a r.c r.n r.xs
def RowS.res (r : RowS) : Res := ownV r.e r.k r.a r.c r.n r.xs
structure RowS.Rd (w : World) (B : Nat) (r : RowS) : Prop where
 reads : Reads w B r.a r.xs
 cap : r.n ≤ r.c
 zero : r.a = none → r.c = 0
def Apart (r s : RowS) : Prop := ∀ b ∈ r.fp, b ∉ s.fp
theorem Apart.symm {r s : RowS} (h : Apart r s) : Apart s r := fun b hs hr => h b hr hs
structure BagOwn (w : World) (B : Nat) (rows : List RowS) : Prop where
 own : ∀ r ∈ rows, r.Own w B
 apart : rows.Pairwise Apart
def RowsRd (w : World) (B : Nat) (rows : List RowS) : Prop := ∀ r ∈ rows, r.Rd w B

section
variable {w w' : World} {B B' : Nat} {rows ys : List RowS} {r : RowS}
theorem RowS.Own.lt (h : r.Own w B) : ∀ b ∈ r.fp, B ≤ b ∧ b < w.heap.size := fun b hb => by
 rcases h.form with ⟨e, _⟩ | ⟨g, e, h1, h2, _⟩
 ·
  simp [RowS.fp, e, Value.ownBlock] at hb
 ·
  simp [RowS.fp, e, Value.ownBlock] at hb
  subst hb
  exact ⟨h1, h2⟩
theorem RowS.Own.rd (h : r.Own w B) : r.Rd w w.heap.size := ⟨h.reads, h.cap, fun e => by
 rcases h.form with ⟨_, _, _, h1⟩ | ⟨g, e2, _⟩
 ·
  exact h1
 ·
  rw [e] at e2; cases e2⟩
theorem RowS.Rd.below (h : r.Rd w B) (hb : Below B w w') : r.Rd w' B := ⟨h.reads.below hb, h.cap, h.zero⟩
theorem RowS.Rd.more (h : r.Rd w B) (hB : B ≤ B') : r.Rd w B' := ⟨h.reads.more hB, h.cap, h.zero⟩
theorem RowsRd.below (h : RowsRd w B rows) (hb : Below B w w') : RowsRd w' B rows := fun r hr => (h r hr).below hb
theorem RowsRd.more (h : RowsRd w B rows) (hB : B ≤ B') : RowsRd w B' rows := fun r hr => (h r hr).more hB
theorem BagOwn.rd (h : BagOwn w B rows) : RowsRd w w.heap.size rows := fun r hr => (h.own r hr).rd
theorem BagOwn.nil (w : World) (B : Nat) : BagOwn w B [] := ⟨fun r hr => (by cases hr), List.Pairwise.nil⟩
theorem BagOwn.base (h : BagOwn w B rows) (hB : B' ≤ B) : BagOwn w B' rows := ⟨fun r hr => OwnV.base (h.own r hr) hB, h.apart⟩
theorem BagOwn.lt (h : BagOwn w B rows) : ∀ b ∈ rows.flatMap RowS.fp, B ≤ b ∧ b < w.heap.size := fun b hb => by
 obtain ⟨r, hr, hm⟩ := List.mem_flatMap.1 hb
 exact (h.own r hr).lt b hm
theorem BagOwn.one (h : r.Own w B) : BagOwn w B [r] := ⟨fun s hs => by rw [List.mem_singleton] at hs; rw [hs]; exact h, List.pairwise_singleton ..⟩
theorem BagOwn.lift (h : BagOwn w B rows) (hB : ∀ b ∈ rows.flatMap RowS.fp, B' ≤ b) : BagOwn w B' rows := ⟨fun r hr => OwnV.lift (h.own r hr) fun b hb => hB b (List.mem_flatMap.2 ⟨r, hr, hb⟩), h.apart⟩
end

def bag (rows : List RowS) : Res where
 fp := rows.flatMap RowS.fp
 is w := BagOwn w 0 rows
 loc := fun hs h => ⟨fun r hr => r.res.loc (fun b hb => hs b (List.mem_flatMap.2 ⟨r, hr, hb⟩)) (h.own r hr), h.apart⟩

section
variable {W w w' : World} {rs : List Res} {rows xs ys : List RowS} {r : RowS}
theorem turn {r r' : Res} (h : Sep W w rs) (i : Nat) (hi : rs[i]? = some r) (hr : r.is w → r'.is w) (hf : ∀ b ∈ r'.fp, b ∈ r.fp) : Sep W w (rs.set i r') := h.put i hi (Turned.refl _ _) (hr (h.is i r hi)) hf
theorem bag_at (h : Sep W w rs) (i : Nat) (hi : rs[i]? = some (bag rows)) : BagOwn w 0 rows := h.is i _ hi
theorem bag_rd (h : Sep W w rs) (i : Nat) (hi : rs[i]? = some (bag rows)) : RowsRd w w.heap.size rows := (bag_at h i hi).rd
theorem push_bag (h : Sep W w rs) (hb : Below w.heap.size w w') (ho : BagOwn w' w.heap.size rows) : Sep W w' (rs ++ [bag rows]) :=
 h.push hb (ho.base (Nat.zero_le _)) fun b hm => ho.lt b hm
theorem bag_of_one (h : Sep W w rs) (i : Nat) (hi : rs[i]? = some r.res) : Sep W w (rs.set i (bag [r])) :=
 turn h i hi (fun ho => BagOwn.one ho) (fun b hb => by simpa [bag, RowS.res, RowS.fp, ownV] using hb)
theorem one_of_bag (h : Sep W w rs) (i : Nat) (hi : rs[i]? = some (bag [r])) : Sep W w (rs.set i r.res) :=
 turn h i hi (fun ho => ho.own r (List.mem_singleton_self r)) (fun b hb => by simpa [bag, RowS.res, RowS.fp, ownV] using hb)
end
section
variable {W w : World} {rs ts : List Res} {g : Nat} {t : TypeId} {cs : Array Value} {v : Value}
theorem take (h : Sep W w rs) (is : List Nat) (he : is.map (fun i => rs[i]?) = ts.map some) (hd : is.Nodup) : Sep W w ts := by
 have hl : is.length = ts.length := by simpa using congrArg List.length he
 refine sep_sub h (fun i => is.getD i 0) (fun i r hr => ?_) (fun i j hi hj e => ?_)
 ·
  have hi : i < ts.length := (List.getElem?_eq_some_iff.1 hr).1
  have h2 := congrArg (fun l => l[i]?) he
  simp only [List.getElem?_map, List.getElem?_eq_getElem (show i < is.length by omega), hr, Option.map_some] at h2
  rw [List.getD_eq_getElem?_getD, List.getElem?_eq_getElem (show i < is.length by omega)]
  simpa using h2
 ·
  simp only [List.getD_eq_getElem?_getD, List.getElem?_eq_getElem (show i < is.length by omega), List.getElem?_eq_getElem (show j < is.length by omega), Option.getD_some] at e
  exact (List.getElem_inj hd).1 e
end
end Go.Proofs.Ytejincmlblpaoaa.Bag

namespace Go.Proofs.Ytejincmlblpaoaa.Run
open Go.ChangeShapes Go.WideShapes Go.ChangeAt Go.RowKit Mem Sl Sv Bag

def over (xs : List Value) (o : Nat) (vs : List Value) : List Value := xs.take o ++ (vs ++ xs.drop (o + vs.length))
section
variable {w w' : World} {B : Nat} {e : TypeId} {k c n g : Nat} {a : Option Addr} {xs : List Value}
end
section
variable {W w w' : World} {rs : List Res} {e : TypeId} {k c n g : Nat} {a : Option Addr} {xs : List Value}
end
section
variable {P : Program}
end
section
variable {P : Program} {W w : World} {rs : List Res} {e : TypeId} {k g c n : Nat} {xs : List Value}
end
end Go.Proofs.Ytejincmlblpaoaa.Run

namespace Go.Proofs.Ytejincmlblpaoaa.L3

def hstep (d v : Int) : Int := (d * 1000003 + v % 2147483647 + 13) % 2147483647
def hfold (d : Int) (l : List Int) : Int := l.foldl hstep d
def hs (l : List Int) : Int := hfold 11 l
def kh (k : Int) (l : List Int) : Int := hs (k :: (l ++ [k]))
def encB (k : Int) (i : Nat) (b : Int) : Int := (b + kh k [(i : Int)] % 256) % 256
def decB (k : Int) (i : Nat) (b : Int) : Int := (b - kh k [(i : Int)] % 256) % 256
def encL (k : Int) (l : List Int) : List Int := l.mapIdx (encB k)
def decL (k : Int) (l : List Int) : List Int := l.mapIdx (decB k)
@[simp] theorem encL_length (k : Int) (l : List Int) : (encL k l).length = l.length := by simp [encL]
@[simp] theorem decL_length (k : Int) (l : List Int) : (decL k l).length = l.length := by simp [decL]
end Go.Proofs.Ytejincmlblpaoaa.L3

namespace Go.Proofs.Ytejincmlblpaoaa.L11
open L2 L3
def crashL (log : List Int) (n : Int) (g : List Int) : List Int := log.take (max 0 (min n log.length)).toNat ++ g
end Go.Proofs.Ytejincmlblpaoaa.L11

namespace Go.Proofs.Ytejincmlblpaoaa.L3
open Go.ChangeShapes Go.WideShapes Go.ChangeAt Go.RowKit Mem Sl Ex L2

theorem own_lit (w : World) (e : TypeId) (k : IntKind) (l : List Int) {B : Nat} (hB : B ≤ w.heap.size) (hl : l.length ≤ maxLen) : Own (w.alloc (.cells (ints k l).toArray e)) B e k (some ⟨w.heap.size, 0, none⟩) l.length l :=
 ⟨by simp, .inr ⟨w.heap.size, l.length, (ints k l).toArray, rfl, hB, heap_alloc_new w _, Nat.le_refl _, hl, by simp, by rw [Nat.mul_one]; exact List.take_of_length_le (by simp)⟩⟩
end Go.Proofs.Ytejincmlblpaoaa.L3

namespace Go.Proofs.Ytejincmlblpaoaa.L3
open Go.ChangeShapes Go.WideShapes Go.ChangeAt Go.RowKit Mem Sl Ex L2

theorem implMax_b (a b : Int) (w : World) :
  Calls Try.prog 36 #[.int .i64 a, .int .i64 b] w fun e w' => e = .returned (.int .i64 (max a b)) ∧ Below w.heap.size w w' := by
 have hc : (w.alloc (.cells #[.int .i64 b] 3)).cell? ⟨w.heap.size, 0, none⟩ = some (.int .i64 b) := by simp [go_sem]
 go_enter Try.func36, Try.ntmps36
 go_wp2_with (go_at_call 51; refine (L1.extremes_one _ _ _ _ hc).mono ?_; rintro e w' ⟨rfl, rfl⟩)
 go_ret
 exact ⟨rfl, by repeat (first | exact Below.refl _ _ | apply Below.drew | (refine Below.alloc ?_ (Nat.le_refl _) _))⟩
end Go.Proofs.Ytejincmlblpaoaa.L3

namespace Go.Proofs.Ytejincmlblpaoaa.L11
open L2 L3 Ex
open Go.ChangeShapes Go.WideShapes Go.ChangeAt Go.RowKit Mem Sl Sv Bag

theorem infoB : ∃ i, Try.prog.info? 5 = some i ∧ i.zero = some (.int .u8 0) ∧ i.size = 1 ∧ i.bytes = 1 := Ex.infoOf _ _ _ _ (by kernel_rfl)
theorem rd_take {w : World} {B : Nat} {a : Option Addr} {k : IntKind} {l : List Int} (h : Reads w B a (ints k l)) (n : Nat) : Reads w B a (ints k (l.take n)) := fun j hj => by
 have hj' : j < (ints k l).length := by simp at hj ⊢; omega
 obtain ⟨ad, e, hb, hc⟩ := h j hj'
 exact ⟨ad, e, hb, by rw [hc, ints_get _ _ _ (by simpa using hj'), ints_get _ _ _ (by simpa using hj)]; simp⟩
set_option maxHeartbeats 4000000 in
theorem specCrashLog_any (a a2 : Option Addr) (c c2 : Nat) (l g : List Int) (n : Int) (w : World) (hr : Reads w w.heap.size a (ints .u8 l)) (hc : l.length ≤ c) (hl : l.length ≤ 100000000) (hr2 : Reads w w.heap.size a2 (ints .u8 g)) (hg : g.length ≤ 100000000) :
  Calls Try.prog 29 #[.slice a l.length c, .int .i64 n, .slice a2 g.length c2] w (Gave w w.heap.size 5 .u8 (crashL l n g)) := by
 have HMN := Lib.hid (fun w => L1.specMin_any n l.length w)
 have HMX := Lib.hid (fun w => L1.specMax_any 0 (min n l.length) w)
 obtain ⟨q0, hq0⟩ : ∃ x, min n (l.length : Int) = x := ⟨_, rfl⟩
 rw [hq0] at HMN HMX
 obtain ⟨k, hk⟩ : ∃ x : Nat, max 0 q0 = (x : Int) := ⟨(max 0 q0).toNat, by omega⟩
 rw [hk] at HMX
 have hkl : k ≤ l.length := by omega
 have HE := Lib.hid (show crashL l n g = l.take k ++ g from by unfold crashL; rw [hq0, hk]; rfl)
 obtain ⟨R, hR⟩ : ∃ x, crashL l n g = x := ⟨_, rfl⟩
 rw [hR] at HE ⊢
 have HL := Lib.hid (And.intro hr hr2)
 clear hr hr2 hR hq0 hk
 obtain ⟨L, hL⟩ : ∃ x, l.length = x := ⟨_, rfl⟩
 have HLL := Lib.hid hL
 obtain ⟨M, hM⟩ : ∃ x, g.length = x := ⟨_, rfl⟩
 have HLM := Lib.hid hM
 rw [hL] at HMN hc hl hkl ⊢
 rw [hM] at hg ⊢
 clear hL hM
 have hkc : k ≤ c := by omega
 obtain ⟨iB, hi1, hi2, hi3, hi4⟩ := infoB
 have HIB := Lib.hid (And.intro hi1 (And.intro hi2 (And.intro hi3 hi4)))
 clear hi1 hi2 hi3 hi4
 have S1 := Lib.hid (show Sl.Sep w w [] from Sl.Sep.start w)
 go_enter Try.func29, Try.ntmps29
 have S2 := Lib.hid (show Sl.Sep w (World.alloc w (.cells #[] 5)) [Sl.own 5 .u8 (some ⟨w.heap.size, 0, none⟩) 0 ([])] from Sl.Sep.pushOwn S1.out ((Below.refl _ _).alloc (Nat.le_refl _) _) (show Own (World.alloc w (.cells #[] 5)) w.heap.size 5 .u8 (some ⟨w.heap.size, 0, none⟩) 0 [] from own_lit w 5 .u8 [] (Nat.le_refl _) (by simp [maxLen])))
 clear S1
 go_wp2_with (first | (go_at_call 48; refine (HMN.out _).mono ?_; rintro e wq ⟨rfl, rfl⟩) | (go_at_call 47; refine (HMX.out _).mono ?_; rintro e wq ⟨rfl, rfl⟩) | (at_builtin; (refine Sd.wpList_append_sep _ rfl _ _ 22 rfl 5 iB (.int .u8 0) 1 Try.underlying22 HIB.out.1 HIB.out.2.1 HIB.out.2.2.1 HIB.out.2.2.2 rfl .u8 _ 0 _ [] rfl rfl _ _ S2.out 0 rfl _ _ _ _ (l.take k) rfl (by rw [List.length_take, HLL.out]; omega) (rd_take ((HL.out.1.below S2.out.old).more S2.out.old.size) k) (by unfold maxLen; rw [List.length_take, HLL.out, List.length_nil]; omega) (by rw [List.length_take, HLL.out, List.length_nil]; omega) ?_; intro a2' c2' w2 hA)) | (at_builtin; go_loud (refine Sd.wpList_append_sep _ rfl _ _ 22 rfl 5 iB (.int .u8 0) 1 Try.underlying22 HIB.out.1 HIB.out.2.1 HIB.out.2.2.1 HIB.out.2.2.2 rfl .u8 _ _ _ ([] ++ l.take k) rfl (by simp) _ _ hA 0 rfl _ _ _ _ g rfl HLM.out.symm ((HL.out.2.below hA.old).more hA.old.size) (by unfold maxLen; simp only [List.nil_append, List.length_take, HLL.out, HLM.out]; omega) (by simp only [List.nil_append, List.length_take, HLL.out, HLM.out]; omega) ?_; intro a3' c3' w3 hA2)))
 have S3 := Lib.hid (show Sl.Sep w w3 [Sl.own 5 .u8 a3' c3' ([] ++ l.take k ++ g)] from hA2)
 clear S2
 clear hA hA2
 go_ret
 rw [HE.out]
 exact Gave.mk (by simp) (Sl.Sep.ownAt S3.out 0 rfl) S3.out.old
end Go.Proofs.Ytejincmlblpaoaa.L11

namespace Go.Proofs.Ytejincmlblpaoaa.L5
open Go.Op (bytesLess)
open L4 (less_irrefl less_total less_asymm less_trans)

structure F where
 name : ByteArray
 n : Int
def F.t (f : F) : List UInt8 := f.name.data.toList
end Go.Proofs.Ytejincmlblpaoaa.L5

namespace Go.Proofs.Ytejincmlblpaoaa.L5
open Go.Op (bytesLess)
open Go.ChangeShapes Go.WideShapes Go.ChangeAt Go.RowKit Mem Sl Ex L2 Sv

def F.cells (f : F) : List Value := [.string f.name, .int .i64 f.n]
def cellsF (l : List F) : List Value := l.flatMap F.cells
theorem cellsF_cons (f : F) (l : List F) : cellsF (f :: l) = .string f.name :: .int .i64 f.n :: cellsF l := rfl
@[simp] theorem cellsF_length : ∀ (l : List F), (cellsF l).length = l.length * 2
 | [] => rfl
 | f :: l => by rw [cellsF_cons, List.length_cons, List.length_cons, cellsF_length l, List.length_cons]; omega
end Go.Proofs.Ytejincmlblpaoaa.L5

namespace Go.Proofs.Ytejincmlblpaoaa.V
open Go.ChangeShapes Go.WideShapes Go.ChangeAt Go.RowKit Mem Sl Sv Bag

section
variable {α β : Type}
theorem rd_nil (w : World) (B : Nat) : RowsRd w B [] := fun r hr => (by cases hr)
theorem rd_cons {w : World} {B : Nat} {r : RowS} {ys : List RowS} (h : r.Rd w B) (k : RowsRd w B ys) : RowsRd w B (r :: ys) := fun s hs => by
 rcases List.mem_cons.1 hs with rfl | h1
 ·
  exact h
 ·
  exact k s h1
theorem rd_head {w : World} {B : Nat} {r : RowS} {ys : List RowS} (h : RowsRd w B (r :: ys)) : r.Rd w B := h r (List.mem_cons_self ..)
end

section
variable {H : Type} {enc : TypeId × Value → H} {W : World} {b : Nat} {sp : Nat → Bool} {hd : Bool} {α : Type}
end
end Go.Proofs.Ytejincmlblpaoaa.V

namespace Go.Proofs.Ytejincmlblpaoaa.V
open Go.ChangeShapes Go.WideShapes Go.ChangeAt Go.RowKit Mem Sl Sv Bag Ex

section
variable {H : Type} {enc : TypeId × Value → H} {P : Program}
theorem open_list0 {W : World} {t e : TypeId} {k : IntKind} (ht : P.underlying t = some (.slice e)) (he : P.underlying e = some (.int k)) (hc : P.cellsOf e = 1) {b0 : Nat} {v : Value} {d : DataW H} {ps : List MemPlace}
  (hval : Value.okWide P W .any b0 t v) (h0 : DataW.Trod enc P W 0 (fun _ => true) true t v d ps) (hlt : ∀ x ∈ ps, x.block < W.heap.size) :
  ∃ (a : Option Addr) (l : List Int) (cap : Nat), v = .slice a l.length cap ∧ l.length ≤ cap ∧ (a = none → cap = 0) ∧ l.length ≤ maxLen ∧ Reads W W.heap.size a (ints k l) ∧ ∀ n ∈ l, (Lit.int k n).wf = true := by
 obtain ⟨a0, len, cap, rfl⟩ := okWide_slice ht hval
 obtain ⟨fuel, hf⟩ := h0
 rcases open_ints ht he hc hf with ⟨hcs, hx⟩ | ⟨a, len', cap', zs, hcs, _, hl, hm, hz, hx, hcell, hwz⟩
 ·
  simp [Value.cells] at hcs
  obtain ⟨rfl, rfl, rfl⟩ := hcs
  exact ⟨none, [], 0, rfl, Nat.le_refl _, fun _ => rfl, Nat.zero_le _, Reads.nil, fun n hn => by simp at hn⟩
 ·
  simp [Value.cells] at hcs
  obtain ⟨rfl, rfl, rfl⟩ := hcs
  simp only [Prod.mk.injEq] at hx
  obtain ⟨rfl, rfl⟩ := hx
  simp at hz
  have hlen : (zs.take len).length = len := by simp; omega
  refine ⟨some a, zs.take len, cap, by rw [hlen], by omega, (fun h => (by cases h)), by omega, fun j hj => ?_, fun n hn => hwz n (List.mem_of_mem_take hn)⟩
  simp at hj
  refine ⟨a, rfl, ?_, ?_⟩
  ·
   have := hlt (MemPlace.cell a.block (a.off + 0)) ?_
   ·
    simpa [MemPlace.block] using this
   ·
    exact List.mem_map.2 ⟨0, List.mem_range.2 (by omega), rfl⟩
  ·
   rw [hcell j (by omega), ints_get _ _ _ (by simp; omega)]
   simp [List.getD_eq_getElem?_getD, List.getElem?_eq_getElem (show j < zs.length by omega)]
end
structure Y_ByteZ where
 a : Option Addr
 c : Nat
 xs : List Int
def co_ByteZ (z : Y_ByteZ) : List Int := z.xs
def wt_ByteZ (c : List Int) : Nat := c.length
def vv_ByteZ (z : Y_ByteZ) : Value := .slice z.a z.xs.length z.c
def rw_ByteZ (z : Y_ByteZ) : List RowS := [⟨5, 1, z.a, z.c, z.xs.length, ints .u8 z.xs⟩]
def md_ByteZ (k : Int) (z : Y_ByteZ) : Y_ByteZ := ⟨z.a, z.c, marks .u8 k z.xs.length⟩
def ct_ByteZ (z : Y_ByteZ) : Nat := z.xs.length
def Wide_ByteZ (z : Y_ByteZ) : Prop := z.xs.length ≤ maxLen ∧ ∀ n ∈ z.xs, (Lit.int .u8 n).wf = true
theorem ctS_ByteZ (z : Y_ByteZ) : ct_ByteZ z ≤ 64 * (wt_ByteZ (co_ByteZ z) + 1) := by unfold ct_ByteZ wt_ByteZ co_ByteZ; omega
theorem rd_ByteZ {w : World} {B : Nat} {z : Y_ByteZ} (h : RowsRd w B (rw_ByteZ z)) : Reads w B z.a (ints .u8 z.xs) := (rd_head h).reads
theorem cap_ByteZ {w : World} {B : Nat} {z : Y_ByteZ} (h : RowsRd w B (rw_ByteZ z)) : z.xs.length ≤ z.c := (rd_head h).cap
theorem open_ByteZ {H : Type} {enc : TypeId × Value → H} {W : World} {b0 : Nat} {v : Value} {d : DataW H} {ps : List MemPlace} (hval : Value.okWide Try.prog W .any b0 22 v) (h0 : DataW.Trod enc Try.prog W 0 (fun _ => true) true 22 v d ps) (hlt : ∀ p ∈ ps, p.block < W.heap.size) : ∃ z : Y_ByteZ, v = vv_ByteZ z ∧ RowsRd W W.heap.size (rw_ByteZ z) ∧ Wide_ByteZ z := by
 obtain ⟨a, l, c, rfl, h1, h2, h3, h4, h5⟩ := open_list0 Try.underlying22 Try.underlying5 (by kernel_rfl) hval h0 hlt
 exact ⟨⟨a, c, l⟩, rfl, rd_cons ⟨h4, h1, h2⟩ (rd_nil _ _), h3, h5⟩
theorem to_ByteZ (z : Y_ByteZ) (hf : wt_ByteZ (co_ByteZ z) ≤ 1048576) (w : World) (hr : RowsRd w w.heap.size (rw_ByteZ z)) : Calls Try.prog 19 #[vv_ByteZ z] w fun e w' => ∃ y : Y_ByteZ, e = .returned (vv_ByteZ y) ∧ co_ByteZ y = co_ByteZ z ∧ BagOwn w' w.heap.size (rw_ByteZ y) ∧ Below w.heap.size w w' :=
 (toByteS_any z.a z.c z.xs w (rd_ByteZ hr) (Nat.le_trans hf (by decide))).mono fun _ _ ⟨a, c, he, ho, hb⟩ => ⟨⟨a, c, z.xs⟩, he, rfl, BagOwn.one ho, hb⟩
theorem eq_ByteZ (y z : Y_ByteZ) (hc : co_ByteZ y = co_ByteZ z) (hf : wt_ByteZ (co_ByteZ y) ≤ 1099511627776) (w : World) (hr : RowsRd w w.heap.size (rw_ByteZ y)) (hr2 : RowsRd w w.heap.size (rw_ByteZ z)) : Calls Try.prog 21 #[vv_ByteZ y, vv_ByteZ z] w fun e w' => e = .returned (.bool true) ∧ Below w.heap.size w w' := by
 obtain ⟨a, c, l⟩ := y
 obtain ⟨a2, c2, l2⟩ := z
 obtain rfl : l = l2 := hc
 have hl : l.length ≤ 1099511627776 := hf
 exact (eqByteS_any a a2 c c2 l l w _ (rd_ByteZ hr) (rd_ByteZ hr2) (by omega) (by omega)).mono fun _ _ ⟨he, hd⟩ => ⟨by rw [he, eqB_true rfl], hd.below _⟩
theorem mark_ByteZ {W w : World} {rs : List Res} (h : Sl.Sep W w rs) (i : Nat) {z : Y_ByteZ} (hi : rs[i]? = some (bag (rw_ByteZ z))) (k : Int) (hf : wt_ByteZ (co_ByteZ z) ≤ 1099511627776) (hk0 : 0 < k) (hk1 : k + (ct_ByteZ z : Int) ≤ 2305843009213693952) :
  Calls Try.prog 23 #[vv_ByteZ z, .int .i64 k] w fun e w' => e = .returned (.int .i64 (k + (ct_ByteZ z : Int))) ∧ Sl.Sep W w' (rs.set i (bag (rw_ByteZ (md_ByteZ k z)))) := by
 have hil : i < rs.length := (List.getElem?_eq_some_iff.1 hi).1
 have h1 := one_of_bag h i hi
 refine (Law.markByteS h1 i (a := z.a) (c := z.c) (l := z.xs) (List.getElem?_set_self hil) k hf (by omega) (by unfold ct_ByteZ at hk1; omega)).mono ?_
 rintro e w' ⟨he, hs⟩
 refine ⟨he, ?_⟩
 have h2 := bag_of_one (r := ⟨5, 1, z.a, z.c, (marks .u8 k z.xs.length).length, ints .u8 (marks .u8 k z.xs.length)⟩) hs i (List.getElem?_set_self (by rw [List.length_set]; exact hil))
 rw [List.set_set, List.set_set] at h2
 exact h2
theorem held_ByteZ (z : Y_ByteZ) (k : Int) (hf : wt_ByteZ (co_ByteZ z) ≤ 1099511627776) (hk0 : 0 < k) (hk1 : k + (ct_ByteZ z : Int) ≤ 2305843009213693952) (w : World) (hr : RowsRd w w.heap.size (rw_ByteZ (md_ByteZ k z))) :
  Calls Try.prog 24 #[vv_ByteZ z, .int .i64 k] w fun e w' => e = .returned (.int .i64 (k + (ct_ByteZ z : Int))) ∧ Below w.heap.size w w' :=
 (heldByteS_any z.a z.c z.xs.length k w _ (rd_ByteZ hr) hf (by omega) (by unfold ct_ByteZ at hk1; omega)).mono fun _ _ ⟨he, hd⟩ => ⟨he, hd.below _⟩
structure Y_IntZ where
 a : Option Addr
 c : Nat
 xs : List Int
end Go.Proofs.Ytejincmlblpaoaa.V

namespace Go.Proofs.Ytejincmlblpaoaa.V
open Go.ChangeShapes Go.WideShapes Go.ChangeAt Go.RowKit Mem Sl Sv Bag Ex

structure Y_ByteSZ where
 a : Option Addr
 c : Nat
 xs : List Y_ByteZ
end Go.Proofs.Ytejincmlblpaoaa.V

namespace Go.Proofs.Ytejincmlblpaoaa.L11
open L2 L3
open V (Y_ByteZ co_ByteZ vv_ByteZ rw_ByteZ)
open Go.ChangeShapes Go.WideShapes Go.ChangeAt Go.RowKit Mem Sl Sv Bag

theorem crashL_len (l : List Int) (n : Int) (g : List Int) : (crashL l n g).length ≤ l.length + g.length := by unfold crashL; rw [List.length_append, List.length_take]; omega
end Go.Proofs.Ytejincmlblpaoaa.L11

namespace Go.Proofs.Ytejincmlblpaoaa.L11
open Go.ChangeShapes Go.WideShapes Go.ChangeAt Go.RowKit Mem Sl Ex L2 L3

theorem implMin_b (a b : Int) (w : World) :
  Calls Try.prog 35 #[.int .i64 a, .int .i64 b] w fun e w' => e = .returned (.int .i64 (min a b)) ∧ Below w.heap.size w w' := by
 have hc : (w.alloc (.cells #[.int .i64 b] 3)).cell? ⟨w.heap.size, 0, none⟩ = some (.int .i64 b) := by simp [go_sem]
 go_enter Try.func35, Try.ntmps35
 go_wp2_with (go_at_call 51; refine (L1.extremes_one _ _ _ _ hc).mono ?_; rintro e w' ⟨rfl, rfl⟩)
 go_ret
 exact ⟨rfl, by repeat (first | exact Below.refl _ _ | apply Below.drew | (refine Below.alloc ?_ (Nat.le_refl _) _))⟩
end Go.Proofs.Ytejincmlblpaoaa.L11

namespace Go.Proofs.Ytejincmlblpaoaa.L11
open L2 L3 Ex
open V (Y_ByteZ co_ByteZ vv_ByteZ rw_ByteZ)
open Go.ChangeShapes Go.WideShapes Go.ChangeAt Go.RowKit Mem Sl Sv Bag

set_option maxHeartbeats 4000000 in
theorem implCrashLog_any (a a2 : Option Addr) (c c2 : Nat) (l g : List Int) (n : Int) (w : World) (hr : Reads w w.heap.size a (ints .u8 l)) (hc : l.length ≤ c) (hl : l.length ≤ 100000000) (hr2 : Reads w w.heap.size a2 (ints .u8 g)) (hg : g.length ≤ 100000000) :
  Calls Try.prog 13 #[.slice a l.length c, .int .i64 n, .slice a2 g.length c2] w (Gave w w.heap.size 5 .u8 (crashL l n g)) := by
 have HMX := Lib.hid (fun w => implMax_b n 0 w)
 have HMN := Lib.hid (fun w => implMin_b (max n 0) l.length w)
 obtain ⟨q0, hq0⟩ : ∃ x, max n 0 = x := ⟨_, rfl⟩
 rw [hq0] at HMN HMX
 obtain ⟨k, hk⟩ : ∃ x : Nat, min q0 (l.length : Int) = (x : Int) := ⟨(min q0 (l.length : Int)).toNat, by omega⟩
 rw [hk] at HMN
 have hkl : k ≤ l.length := by omega
 have HE := Lib.hid (show crashL l n g = l.take k ++ g from by unfold crashL; rw [show (max 0 (min n (l.length : Int))).toNat = k from by omega])
 have HTK := Lib.hid (fun (w1 : World) (h : Below w.heap.size w w1) => take_any a c l 0 k w1 ((hr.below h).more h.size) hc (by omega) (by omega) hkl)
 rw [show (l.drop 0).take (k - 0) = l.take k from by simp] at HTK
 obtain ⟨T, hT⟩ : ∃ x, l.take k = x := ⟨_, rfl⟩
 rw [hT] at HTK HE
 have hTl : T.length ≤ 100000000 := by rw [← hT, List.length_take]; omega
 obtain ⟨R, hR⟩ : ∃ x, crashL l n g = x := ⟨_, rfl⟩
 rw [hR] at HE ⊢
 have HL := Lib.hid hr2
 clear hr hr2 hR hq0 hk hT
 obtain ⟨L, hL⟩ : ∃ x, l.length = x := ⟨_, rfl⟩
 obtain ⟨M, hM⟩ : ∃ x, g.length = x := ⟨_, rfl⟩
 have HLM := Lib.hid hM
 rw [hL] at HMN HTK hc hl hkl ⊢
 rw [hM] at hg ⊢
 clear hL hM
 obtain ⟨iB, hi1, hi2, hi3, hi4⟩ := infoB
 have HIB := Lib.hid (And.intro hi1 (And.intro hi2 (And.intro hi3 hi4)))
 clear hi1 hi2 hi3 hi4
 have S1 := Lib.hid (show Sl.Sep w w [] from Sl.Sep.start w)
 go_enter Try.func13, Try.ntmps13
 go_wp2_with fail
 go_at_call 36
 refine (HMX.out _).mono ?_
 rintro e w1 ⟨rfl, hb⟩
 have S2 := Lib.hid (S1.out.keep hb)
 clear S1
 clear hb
 go_wp2_with fail
 go_at_call 35
 refine (HMN.out _).mono ?_
 rintro e w2 ⟨rfl, hb⟩
 have S3 := Lib.hid (S2.out.keep hb)
 clear S2
 clear hb
 go_wp2_with fail
 go_at_call 34
 refine (HTK.out _ S3.out.old).mono ?_
 rintro e w3 ⟨ta, tc, rfl, ho, hb⟩
 have S4 := Lib.hid (show Sl.Sep w _ [Sl.own 5 .u8 ta tc T] from Sl.Sep.pushOwn S3.out hb ho)
 clear S3
 clear hb ho
 go_wp2_with (at_builtin; (refine Sd.wpList_append_sep _ rfl _ _ 22 rfl 5 iB (.int .u8 0) 1 Try.underlying22 HIB.out.1 HIB.out.2.1 HIB.out.2.2.1 HIB.out.2.2.2 rfl .u8 _ _ _ T rfl rfl _ _ S4.out 0 rfl _ _ _ _ g rfl HLM.out.symm ((HL.out.below S4.out.old).more S4.out.old.size) (by unfold maxLen; rw [HLM.out]; omega) (by rw [HLM.out]; omega) ?_; intro a3' c3' wb hA2))
 have S5 := Lib.hid (show Sl.Sep w wb [Sl.own 5 .u8 a3' c3' (T ++ g)] from hA2)
 clear S4
 clear hA2
 go_ret
 rw [HE.out]
 exact Gave.mk (by simp [HLM.out]) (Sl.Sep.ownAt S5.out 0 rfl) S5.out.old
end Go.Proofs.Ytejincmlblpaoaa.L11

