/-
  What the law FnLogs needs, laid by my program lawpack.py, part 1: the texts Reg, Tk, Frame, L1Base, Mem, Args, Sl, Ex, Law, L2Num, Sd, L2App, L1Min, L2Rd, L2Rd2, Sd2, L3Num, L11Num, L1Div, L3Hash, L3Fn, Sv, L4Num, L1Num, L4Par, L4Sp, L4Cmp, L4Law, Bag, L11Sa, Wv, Run, L5Num, L5Sp, Vg, VzNum, L11Sb, L11Fl, L11Mn, L11Ia, one behind the other; each begins with its own words.
-/
import Derived.Test.YtejincmlblpaoaaRows
import Derived.Deep.RegionHeld3
import Derived.WalkKit
import Derived.Lib.Hide
import Derived.ProofKit
import Derived.OpenShut
import Derived.Below
import Derived.Carry
import Derived.ChangeSame
import Derived.BigQuiet
import Derived.Deep.QuietTactic
import Derived.Laws.OwnMore
import Derived.Deep.Draws
import Derived.Laws.Rows
import Derived.Lib.BufferOwn
import Derived.Lib.SmallJoins
import Derived.Laws.Bits128
import Derived.Laws.BitsLemmas
import Derived.ChangeSlices
import Derived.SizedLaws
import Derived.OwnWalk
import Derived.Maps.AppendAt
import Derived.Laws.AppendOwnNone
import Derived.LoopTactic
import Derived.IntWalk
import Derived.Outline
import Derived.Laws.BitsAllLaws
import Derived.Laws.BytesArg
import Derived.Lib.ConvBytes
import Derived.RegionTactic
import Derived.Lib.AtoiAllCases
import GoSem.Op.String
import Derived.Lib.ItoaNum
import Derived.Lib.ItoaLen
import Derived.Lib.AtoiTie
import Derived.ChangeArms
import Derived.Deep.DeepCutAuto
import Derived.Lib.AppendZerosOnto
import Derived.Laws.IdiomCopy
import Derived.Deep.AppendSrc
import Derived.DataReads
import Derived.WalkMore
set_option linter.unusedSimpArgs false
set_option linter.unusedVariables false
set_option maxRecDepth 100000
namespace Go.Proofs.Ytejincmlblpaoaa.Args
end Go.Proofs.Ytejincmlblpaoaa.Args
namespace Go.Proofs.Ytejincmlblpaoaa.Bag
end Go.Proofs.Ytejincmlblpaoaa.Bag
namespace Go.Proofs.Ytejincmlblpaoaa.Closed
end Go.Proofs.Ytejincmlblpaoaa.Closed
namespace Go.Proofs.Ytejincmlblpaoaa.Draw
end Go.Proofs.Ytejincmlblpaoaa.Draw
namespace Go.Proofs.Ytejincmlblpaoaa.Ex
end Go.Proofs.Ytejincmlblpaoaa.Ex
namespace Go.Proofs.Ytejincmlblpaoaa.Frame
end Go.Proofs.Ytejincmlblpaoaa.Frame
namespace Go.Proofs.Ytejincmlblpaoaa.L1
end Go.Proofs.Ytejincmlblpaoaa.L1
namespace Go.Proofs.Ytejincmlblpaoaa.L11
end Go.Proofs.Ytejincmlblpaoaa.L11
namespace Go.Proofs.Ytejincmlblpaoaa.L2
end Go.Proofs.Ytejincmlblpaoaa.L2
namespace Go.Proofs.Ytejincmlblpaoaa.L3
end Go.Proofs.Ytejincmlblpaoaa.L3
namespace Go.Proofs.Ytejincmlblpaoaa.L4
end Go.Proofs.Ytejincmlblpaoaa.L4
namespace Go.Proofs.Ytejincmlblpaoaa.L5
end Go.Proofs.Ytejincmlblpaoaa.L5
namespace Go.Proofs.Ytejincmlblpaoaa.Law
end Go.Proofs.Ytejincmlblpaoaa.Law
namespace Go.Proofs.Ytejincmlblpaoaa.Mem
end Go.Proofs.Ytejincmlblpaoaa.Mem
namespace Go.Proofs.Ytejincmlblpaoaa.Reg
end Go.Proofs.Ytejincmlblpaoaa.Reg
namespace Go.Proofs.Ytejincmlblpaoaa.Run
end Go.Proofs.Ytejincmlblpaoaa.Run
namespace Go.Proofs.Ytejincmlblpaoaa.Sd
end Go.Proofs.Ytejincmlblpaoaa.Sd
namespace Go.Proofs.Ytejincmlblpaoaa.Sl
end Go.Proofs.Ytejincmlblpaoaa.Sl
namespace Go.Proofs.Ytejincmlblpaoaa.Sv
end Go.Proofs.Ytejincmlblpaoaa.Sv
namespace Go.Proofs.Ytejincmlblpaoaa.V
end Go.Proofs.Ytejincmlblpaoaa.V
namespace Go.Proofs.Ytejincmlblpaoaa.Wv
end Go.Proofs.Ytejincmlblpaoaa.Wv
namespace Go.Proofs.Ytejincmlblpaoaa.lawFnLogs
end Go.Proofs.Ytejincmlblpaoaa.lawFnLogs
namespace Go.Proofs.Ytejincmlblpaoaa.Reg
def nthO {α : Type} : Nat → List α → Option α
 | _, [] => none
 | 0, x :: _ => some x
 | i + 1, _ :: l => nthO i l
theorem nthO_eq {α : Type} : ∀ (l : List α) (i : Nat), l.toArray[i]? = nthO i l
 | [], i => by simp [nthO]
 | x :: l, 0 => by simp [nthO]
 | x :: l, i + 1 => by
  have := nthO_eq l i
  simp only [List.getElem?_toArray, List.getElem?_cons_succ] at this ⊢
  exact this
section
variable {P : Program} {l : List Oper} {Q : Exit → Act → World → Prop} {md : Region.Mode} {S : World → Prop} {fuel i : Nat} {oi : Oper} {v : Value} {listed : Array Bool} {a : Act} {w : World}
theorem take_op (hi : nthO i l = some oi) (hs : Region.noSelect l.toArray = true) (hf : Region.free md l.toArray listed i = true) (hr : (Region.ready md l.toArray listed).contains i = true)
  (hQ : ∀ c a w, Q (.panic c) (a.put oi.dst v) w → Q (.panic c) a w) (hw : Region.wanted oi (yielded l.toArray a.tmps) = true) (hy : ∀ w, S w → (execOp a.eval oi).run P w = .ok (.value v) w) (hS : S w)
  (h : wpAnyH P md l.toArray Q S fuel (listed.setIfInBounds i true) (a.put oi.dst v) w) : wpAnyH P md l.toArray Q S (fuel + 1) listed a w :=
 wpAnyH_take (by rw [nthO_eq]; exact hi) hs hf hr hQ (.inl ⟨hw, hy⟩) hS h
theorem skip_op (hi : nthO i l = some oi) (hs : Region.noSelect l.toArray = true) (hf : Region.free md l.toArray listed i = true) (hr : (Region.ready md l.toArray listed).contains i = true)
  (hQ : ∀ c a w, Q (.panic c) (a.put oi.dst undef) w → Q (.panic c) a w) (hw : Region.wanted oi (yielded l.toArray a.tmps) = false) (hS : S w)
  (h : wpAnyH P md l.toArray Q S fuel (listed.setIfInBounds i true) (a.put oi.dst undef) w) : wpAnyH P md l.toArray Q S (fuel + 1) listed a w :=
 wpAnyH_take (by rw [nthO_eq]; exact hi) hs hf hr hQ (.inr ⟨hw, rfl⟩) hS h
theorem one_op (hi : nthO i l = some oi) (hr : Region.ready md l.toArray listed = [i])
  (h : ∀ K' : Act → World → Prop, Shut (∀ a w, S w → (S w → wpAnyH P md l.toArray Q S fuel (listed.setIfInBounds i true) a w) → K' a w) → if Region.wanted oi (yielded l.toArray a.tmps) = true then Oper.wp P oi a w K' Q else K' (a.put oi.dst undef) w) :
  wpAnyH P md l.toArray Q S (fuel + 1) listed a w :=
 wpAnyH_ready hr (by simp) (AllReadyH.cons (by rw [nthO_eq]; exact hi) h AllReadyH.nil)
end
end Go.Proofs.Ytejincmlblpaoaa.Reg

set_option linter.unusedSimpArgs false
namespace Go.Proofs.Ytejincmlblpaoaa
open Go.RowKit
def Reg.okOp (md : Region.Mode) (l : List Oper) (listed : Array Bool) (i : Nat) : Bool := Region.noSelect l.toArray && (Region.free md l.toArray listed i && (Region.ready md l.toArray listed).contains i)
theorem zp0 (a : Act) (i : Nat) (v : Value) : a.put (some i) v = { a with tmps := a.tmps.setIfInBounds i v } := rfl
theorem zp1 {α : Type} (l : List α) (i : Nat) (x : α) : l.toArray.setIfInBounds i x = (l.set i x).toArray := List.setIfInBounds_toArray ..
theorem zp2 {α : Type} (l : List α) (x y : α) : (x :: l).set 0 y = y :: l := rfl
theorem zp3 {α : Type} (l : List α) (x y : α) (i : Nat) : (x :: l).set (i + 1) y = x :: l.set i y := rfl
theorem zp4 (a : Act) (v : Value) : a.put none v = a := rfl
theorem zp : (∀ (a : Act) (i : Nat) (v : Value), a.put (some i) v = { a with tmps := a.tmps.setIfInBounds i v }) ∧ (∀ (l : List Value) (i : Nat) (x : Value), l.toArray.setIfInBounds i x = (l.set i x).toArray) ∧ (∀ (l : List Value) (x y : Value), (x :: l).set 0 y = y :: l) ∧ (∀ (l : List Value) (x y : Value) (i : Nat), (x :: l).set (i + 1) y = x :: l.set i y) ∧ (∀ (a : Act) (v : Value), a.put none v = a) ∧ (∀ (l : List Bool) (i : Nat) (x : Bool), l.toArray.setIfInBounds i x = (l.set i x).toArray) ∧ (∀ (l : List Bool) (x y : Bool), (x :: l).set 0 y = y :: l) ∧ (∀ (l : List Bool) (x y : Bool) (i : Nat), (x :: l).set (i + 1) y = x :: l.set i y) :=
 ⟨fun _ _ _ => rfl, fun _ _ _ => List.setIfInBounds_toArray .., fun _ _ _ => rfl, fun _ _ _ _ => rfl, fun _ _ => rfl, fun _ _ _ => List.setIfInBounds_toArray .., fun _ _ _ => rfl, fun _ _ _ _ => rfl⟩
theorem Hd {p : Prop} (h : p) : Hid p := Lib.hid h
section
variable {P : Program} {l : List Oper} {Q : Exit → Act → World → Prop} {md : Region.Mode} {S : World → Prop} {fuel : Nat} {oi : Oper} {v : Value} {listed : Array Bool} {a : Act} {w : World}
open Reg
theorem Reg.okOp_spec {i : Nat} (h : okOp md l listed i = true) : Region.noSelect l.toArray = true ∧ Region.free md l.toArray listed i = true ∧ (Region.ready md l.toArray listed).contains i = true := by
 unfold okOp at h
 simp only [Bool.and_eq_true] at h
 exact h
theorem tk (i : Nat) (hi : nthO i l = some oi) (h : wpAnyH P md l.toArray Q S fuel (listed.setIfInBounds i true) (a.put oi.dst v) w)
  (hk : okOp md l listed i = true := by kernel_rfl) (hw : Region.wanted oi (yielded l.toArray a.tmps) = true := by rfl)
  (hy : ∀ w, S w → (execOp a.eval oi).run P w = .ok (.value v) w := by (intro w hSw; (try dsimp only at hSw); go_simp; try with_reducible rfl))
  (hQ : ∀ c a w, Q (.panic c) (a.put oi.dst v) w → Q (.panic c) a w := by exact fun _ _ _ h => h) (hS : S w := by assumption) :
  wpAnyH P md l.toArray Q S (fuel + 1) listed a w :=
 take_op hi (okOp_spec hk).1 (okOp_spec hk).2.1 (okOp_spec hk).2.2 hQ hw hy hS h
theorem sk (i : Nat) (hi : nthO i l = some oi) (h : wpAnyH P md l.toArray Q S fuel (listed.setIfInBounds i true) (a.put oi.dst undef) w)
  (hk : okOp md l listed i = true := by kernel_rfl) (hw : Region.wanted oi (yielded l.toArray a.tmps) = false := by rfl)
  (hQ : ∀ c a w, Q (.panic c) (a.put oi.dst undef) w → Q (.panic c) a w := by exact fun _ _ _ h => h) (hS : S w := by assumption) :
  wpAnyH P md l.toArray Q S (fuel + 1) listed a w :=
 skip_op hi (okOp_spec hk).1 (okOp_spec hk).2.1 (okOp_spec hk).2.2 hQ hw hS h
end
end Go.Proofs.Ytejincmlblpaoaa

namespace Go.Proofs.Ytejincmlblpaoaa.Frame
open Go.ChangeShapes Go.WideShapes Go.ChangeAt Go.RowKit

section
variable {H : Type} {enc : TypeId × Value → H} {P : Program}

theorem trodAll_below (hl : laidOutB P = true) {W W' : World} (hb : Below W.heap.size W W') (sp : Nat → Bool) :
  ∀ {ts : List TypeId} {vs : List Value} {ds : List (DataW H)} {ps : List MemPlace}, (ts.all fun t => P.readableRec t && decide (t < P.types.size)) = true →
  DataW.TrodAll enc P W 0 (fun _ => true) true ts vs ds ps → (∀ x ∈ ps, x.block < W.heap.size) → (∀ p ∈ ps, sp p.block = true) → DataW.TrodAll enc P W' 0 sp true ts vs ds ps
 | [], vs, ds, ps, _, h, _, _ => by
  obtain ⟨rfl, rfl, rfl⟩ := trodAll_nil h
  exact trodAll_mk0
 | t :: ts, vs, ds, ps, hr, h, hlt, hs => by
  simp only [List.all_cons, Bool.and_eq_true, decide_eq_true_eq] at hr
  obtain ⟨v, vs', d, ds', p, q, rfl, rfl, rfl, h0, hr0⟩ := trodAll_cons h
  refine trodAll_cons_mk (WideElems.Trod_stays hl hr.1.1 hr.1.2 h0 (fun x hx => hb.same (hlt x (by simp [hx]))) (fun x hx => hs x (by simp [hx]))) ?_
  exact trodAll_below hl hb sp hr.2 hr0 (fun x hx => hlt x (by simp [hx])) (fun x hx => hs x (by simp [hx]))

theorem law_post {f : Func} {s : ChangeSpec} {apart fresh handsOn : Bool} {W W' : World} {args : Array Value} {ds : List (DataW H)} {p : List MemPlace} {tb : TypeId}
  (hvars : s.vars = []) (hW : DataW.Whole enc P f.params.toList s.vars apart W args.toList ds [] p)
  (hA : DataW.TrodAll enc P W 0 (fun _ => true) true f.params.toList args.toList ds p)
  (hs1 : (s.fn H (ds ++ [])).results = [.lit (.bool true)]) (hs2 : (s.fn H (ds ++ [])).args = ds) (hs3 : (s.fn H (ds ++ [])).vars = [])
  (hl : laidOutB P = true) (hr : (f.params.toList.all fun t => P.readableRec t && decide (t < P.types.size)) = true)
  (htb : f.resultTypes = #[tb]) (hb2 : P.underlying tb = some .bool) (hb : Below W.heap.size W W') :
  s.post enc P f apart fresh handsOn false W args (.bool true) W' := by
 have hlt : ∀ x ∈ p, x.block < W.heap.size := fun x hx => hW.lt x hx
 refine ⟨ds, [], p, [], p, [], hW, ?_, ?_, ?_, hb.frame _, fun h => by cases h⟩
 ·
  rw [hs1, htb]; exact trodAll_mk1 (shut_bool hb2 _)
 ·
  rw [hs2]; exact trodAll_below hl hb _ hr hA hlt (fun x hx => by simpa using hlt x hx)
 ·
  rw [hs3, hvars]; rfl
end
end Go.Proofs.Ytejincmlblpaoaa.Frame

namespace Go.Proofs.Ytejincmlblpaoaa.L1
open Go.ChangeShapes Go.WideShapes Go.ChangeAt Go.RowKit

def inB (n lo hi : Int) : Bool := decide (lo ≤ n) && decide (n ≤ hi)
theorem inB_true {n lo hi : Int} : inB n lo hi = true ↔ lo ≤ n ∧ n ≤ hi := by unfold inB; simp
theorem inB_false {n lo hi : Int} : inB n lo hi = false ↔ ¬ (lo ≤ n ∧ n ≤ hi) := by
  rw [← inB_true]; simp

theorem ret_bool {a b : Bool} (h : a = b) : Ending.returned (.bool a) = .returned (.bool b) := by rw [h]
theorem ret_int {k : IntKind} {a b : Int} (h : a = b) : Ending.returned (.int k a) = .returned (.int k b) := by rw [h]

theorem inRange_any (n lo hi : Int) (w : World) :
    Calls Try.prog 49 #[.int .i64 n, .int .i64 lo, .int .i64 hi] w fun e w' => e = .returned (.bool (inB n lo hi)) ∧ w = w' := by
  by_cases h1 : lo ≤ n <;> by_cases h2 : n ≤ hi <;>
    (go_enter Try.func49, Try.ntmps49
     go_wp2
     go_ret
     exact ⟨ret_bool (by unfold inB; simp [h1, h2]), rfl⟩)

end Go.Proofs.Ytejincmlblpaoaa.L1

namespace Go.Proofs.Ytejincmlblpaoaa.Mem
open Go.RowKit

def Row (w : World) (g : Nat) (t : TypeId) (cs : Array Value) : Prop := w.heap[g]? = some (.cells cs t (0, 0))

section
variable {w w' : World} {g : Nat} {t : TypeId} {cs : Array Value}
theorem Row.inside (h : Row w g t cs) : g < w.heap.size := (Array.getElem?_eq_some_iff.1 h).1
theorem Row.cell (h : Row w g t cs) (i : Nat) : w.cell? ⟨g, i, none⟩ = cs[i]? := cell_of_row w g i cs t (0, 0) h
theorem Row.free (h : Row w g t cs) (i : Nat) : w.frozen? ⟨g, i, none⟩ = false := by
 have h' : w.heap[g]? = some (.cells cs t (0, 0)) := h
 simp [World.frozen?, h']
theorem Row.made (w : World) (t : TypeId) (cs : Array Value) : Row (w.alloc (.cells cs t)) w.heap.size t cs := heap_alloc_new w _
theorem Row.more (h : Row w g t cs) (o : Obj) : Row (w.alloc o) g t cs := (Below.heap_alloc w o g h.inside).trans h
theorem Row.put (h : Row w g t cs) (i : Nat) (u : Value) : Row (w.setCell ⟨g, i, none⟩ u) g t (cs.setIfInBounds i u) := by
 have h' : w.heap[g]? = some (.cells cs t (0, 0)) := h
 show (w.setCell ⟨g, i, none⟩ u).heap[g]? = _
 simp [World.setCell, Array.getElem?_modify, h']
theorem Row.grown {row : Option Nat} (h : Row w g t cs) (hb : w.grownBy w' row) (hg : some g ≠ row) : Row w' g t cs := (hb.block g h.inside hg).trans h
theorem Row.below {B : Nat} (h : Row w g t cs) (hb : Below B w w') (hg : g < B) : Row w' g t cs := (hb.block g hg).trans h
end

theorem grownBy_refl (w : World) (row : Option Nat) : w.grownBy w row := ⟨rfl, rfl, rfl, Nat.le_refl _, fun _ _ _ => rfl⟩
theorem add_block (a : Addr) (n : Nat) : (a.add n).block = a.block := by unfold Addr.add; split <;> rfl

def Bytes (w : World) (B : Nat) (a : Option Addr) (len : Nat) : Prop :=
 ∀ j, j < len → ∃ ad n, a = some ad ∧ ad.block < B ∧ w.cell? (ad.add j) = some (.int .u8 n) ∧ 0 ≤ n ∧ n ≤ 255

theorem Bytes.below {w w' : World} {B : Nat} {a : Option Addr} {len : Nat} (h : Bytes w B a len) (hb : Below B w w') : Bytes w' B a len := fun j hj => by
 obtain ⟨ad, n, e, hB, hc, h0, h1⟩ := h j hj
 exact ⟨ad, n, e, hB, by rw [hb.cell (by rw [add_block]; exact hB)]; exact hc, h0, h1⟩

end Go.Proofs.Ytejincmlblpaoaa.Mem

namespace Go.Proofs.Ytejincmlblpaoaa.Args
open Go.ChangeShapes Go.WideShapes Go.ChangeAt Go.RowKit Mem

def Holds (w : World) (B : Nat) (a : Option Addr) (l : List UInt8) : Prop :=
 ∀ j (hj : j < l.length), ∃ ad, a = some ad ∧ ad.block < B ∧ w.cell? (ad.add j) = some (.int .u8 (l[j].toNat : Int))
theorem Holds.bytes {w : World} {B : Nat} {a : Option Addr} {l : List UInt8} (h : Holds w B a l) : Bytes w B a l.length := fun j hj => by
 obtain ⟨ad, e, hb, hc⟩ := h j hj
 exact ⟨ad, _, e, hb, hc, by omega, by have := l[j].toNat_lt; omega⟩
theorem Holds.below {w w' : World} {B : Nat} {a : Option Addr} {l : List UInt8} (h : Holds w B a l) (hb : Below B w w') : Holds w' B a l := fun j hj => by
 obtain ⟨ad, e, hB, hc⟩ := h j hj
 exact ⟨ad, e, hB, by rw [hb.cell (by rw [add_block]; exact hB)]; exact hc⟩

section
variable {H : Type} {enc : TypeId × Value → H} {P : Program}

end
end Go.Proofs.Ytejincmlblpaoaa.Args

namespace Go.Proofs.Ytejincmlblpaoaa.Sl
open Go.ChangeShapes Go.WideShapes Go.ChangeAt Go.RowKit Mem

def Reads (w : World) (B : Nat) (a : Option Addr) (l : List Value) : Prop :=
 ∀ j (hj : j < l.length), ∃ ad, a = some ad ∧ ad.block < B ∧ w.cell? (ad.add j) = some l[j]

def ints (k : IntKind) (l : List Int) : List Value := l.map (Value.int k)
@[simp] theorem ints_length (k : IntKind) (l : List Int) : (ints k l).length = l.length := List.length_map ..
theorem ints_append (k : IntKind) (l m : List Int) : ints k (l ++ m) = ints k l ++ ints k m := List.map_append
theorem ints_get (k : IntKind) (l : List Int) (j : Nat) (h : j < l.length) : (ints k l)[j]'(by simpa using h) = .int k l[j] := List.getElem_map ..
theorem ints_one (k : IntKind) (l : List Int) : ∀ u ∈ ints k l, u.oneCell' = true := ints_oneCell k l

theorem add_add (a : Addr) (i j : Nat) : (a.add i).add j = a.add (i + j) := by
 unfold Addr.add
 by_cases hi : i = 0 <;> by_cases hj : j = 0 <;> simp [hi, hj, Nat.add_assoc]

section
variable {w w' : World} {B B' : Nat} {a : Option Addr} {l : List Value}
theorem Reads.nil : Reads w B a [] := fun _ hj => absurd hj (by simp)
theorem Reads.keep (h : Reads w B a l) (hk : ∀ p : Addr, p.block < B → w'.cell? p = w.cell? p) : Reads w' B a l := fun j hj => by
 obtain ⟨ad, e, hb, hc⟩ := h j hj
 exact ⟨ad, e, hb, (hk _ (by rw [add_block]; exact hb)).trans hc⟩
theorem Reads.below (h : Reads w B a l) (hb : Below B w w') : Reads w' B a l := h.keep fun _ hp => hb.cell hp
theorem Reads.more (h : Reads w B a l) (hB : B ≤ B') : Reads w B' a l := fun j hj => by
 obtain ⟨ad, e, hb, hc⟩ := h j hj
 exact ⟨ad, e, by omega, hc⟩
theorem Reads.int {k : IntKind} {l : List Int} (h : Reads w B a (ints k l)) (j : Nat) (hj : j < l.length) : ∃ ad, a = some ad ∧ ad.block < B ∧ w.cell? (ad.add j) = some (.int k l[j]) := by
 obtain ⟨ad, e, hb, hc⟩ := h j (by simpa using hj)
 exact ⟨ad, e, hb, by rw [hc, ints_get k l j hj]⟩
theorem Reads.part (h : Reads w B a l) (s t m : Nat) (hst : s ≤ t) (ht : t ≤ l.length) (hm : t ≤ m) : Reads w B (if m = s then a else a.map (·.add s)) ((l.drop s).take (t - s)) := fun j hj => by
 have hj' : j < t - s := by simp at hj; omega
 obtain ⟨ad, e, hb, hc⟩ := h (s + j) (by omega)
 rw [if_neg (by omega)]
 subst e
 refine ⟨ad.add s, rfl, by rw [add_block]; exact hb, ?_⟩
 rw [add_add, hc]
 simp
theorem Reads.partInts {k : IntKind} {l : List Int} (h : Reads w B a (ints k l)) (s t m : Nat) (hst : s ≤ t) (ht : t ≤ l.length) (hm : t ≤ m) : Reads w B (if m = s then a else a.map (·.add s)) (ints k ((l.drop s).take (t - s))) := by
 have := h.part s t m hst (by simpa using ht) hm
 rwa [show ints k ((l.drop s).take (t - s)) = ((ints k l).drop s).take (t - s) by simp [ints, List.map_drop, List.map_take]]
end

def Own (w : World) (B : Nat) (e : TypeId) (k : IntKind) (a : Option Addr) (c : Nat) (l : List Int) : Prop :=
 w.ownsRow B e 1 (.slice a l.length c) l.length (ints k l)

section
variable {w w' : World} {B B' : Nat} {e : TypeId} {k : IntKind} {a : Option Addr} {c : Nat} {l : List Int}
theorem Own.form (h : Own w B e k a c l) : (a = none ∧ l = [] ∧ c = 0) ∨ ∃ g, a = some ⟨g, 0, none⟩ ∧ B ≤ g ∧ g < w.heap.size ∧ l.length ≤ c ∧ c ≤ maxLen := by
 rcases h.2 with ⟨hv, hn⟩ | ⟨g, cap, cur, hv, hb, hg, h1, h2, _⟩
 ·
  injection hv with h1 h2 h3
  exact .inl ⟨h1, List.eq_nil_of_length_eq_zero hn, h3⟩
 ·
  injection hv with h3 h4 h5
  exact .inr ⟨g, h3, hb, (Array.getElem?_eq_some_iff.1 hg).1, by omega, by omega⟩
theorem Own.reads (h : Own w B e k a c l) : Reads w w.heap.size a (ints k l) := fun j hj => by
 rcases h.form with ⟨_, rfl, _⟩ | ⟨g, rfl, hb, hg, _⟩
 ·
  simp [ints] at hj
 ·
  exact ⟨_, rfl, hg, h.cells (g := g) rfl j _ (List.getElem?_eq_getElem hj)⟩
theorem Own.cap (h : Own w B e k a c l) : l.length ≤ c := by
 rcases h.form with ⟨_, rfl, _⟩ | ⟨g, rfl, hb, hg, h1, _⟩
 ·
  simp
 ·
  exact h1
theorem Own.base (h : Own w B e k a c l) (hB : B' ≤ B) : Own w B' e k a c l := by
 refine ⟨h.1, ?_⟩
 rcases h.2 with hv | ⟨g, cap, cur, hv, hb, r⟩
 ·
  exact .inl hv
 ·
  exact .inr ⟨g, cap, cur, hv, by omega, r⟩
theorem Own.lift (h : Own w B e k a c l) (hB : ∀ b ∈ (Value.slice a l.length c).ownBlock.toList, B' ≤ b) : Own w B' e k a c l := by
 refine ⟨h.1, ?_⟩
 rcases h.2 with hv | ⟨g, cap, cur, hv, hb, r⟩
 ·
  exact .inl hv
 ·
  exact .inr ⟨g, cap, cur, hv, hB g (by rw [hv]; simp [Value.ownBlock]), r⟩
theorem Own.below (h : Own w B e k a c l) (hb : Below w.heap.size w w') : Own w' B e k a c l := by
 refine ⟨h.1, ?_⟩
 rcases h.2 with hv | ⟨g, cap, cur, hv, hB, hg, r⟩
 ·
  exact .inl hv
 ·
  exact .inr ⟨g, cap, cur, hv, hB, (hb.block g (Array.getElem?_eq_some_iff.1 hg).1).trans hg, r⟩
theorem Own.empty (w : World) (e : TypeId) (k : IntKind) (hB : B ≤ w.heap.size) : Own (w.alloc (.cells #[] e)) B e k (some ⟨w.heap.size, 0, none⟩) 0 [] :=
 World.ownsRow_made w #[] 0 hB (Nat.zero_le _) rfl
end

def Gave (w : World) (B : Nat) (e : TypeId) (k : IntKind) (l : List Int) (en : Ending) (w' : World) : Prop := ∃ a c, en = .returned (.slice a l.length c) ∧ Own w' B e k a c l ∧ Below B w w'
theorem Gave.mk {w w' : World} {B : Nat} {e : TypeId} {k : IntKind} {l : List Int} {a : Option Addr} {c n : Nat} (hn : n = l.length) (ho : Own w' B e k a c l) (hb : Below B w w') : Gave w B e k l (.returned (.slice a n c)) w' := ⟨a, c, by rw [hn], ho, hb⟩


structure Res where
 fp : List Nat
 is : World → Prop
 loc : ∀ {w w' : World}, (∀ b ∈ fp, w'.heap[b]? = w.heap[b]?) → is w → is w'

def own (e : TypeId) (k : IntKind) (a : Option Addr) (c : Nat) (l : List Int) : Res where
 fp := (Value.slice a l.length c).ownBlock.toList
 is w := Own w 0 e k a c l
 loc := fun hs h => ⟨h.1, by
  rcases h.2 with hv | ⟨g, cap, cur, hv, hB, hg, r⟩
  ·
   exact .inl hv
  ·
   exact .inr ⟨g, cap, cur, hv, hB, (hs g (by rw [hv]; simp [Value.ownBlock])).trans hg, r⟩⟩

structure Turned (fp : List Nat) (w w' : World) : Prop where
 os : w'.os = w.os
 tape : w'.tape = w.tape
 output : w'.output = w.output
 size : w.heap.size ≤ w'.heap.size
 block : ∀ b, b < w.heap.size → b ∉ fp → w'.heap[b]? = w.heap[b]?
theorem Turned.of_grown {w w' : World} {r : Option Nat} (h : w.grownBy w' r) : Turned r.toList w w' :=
 ⟨h.os, h.tape, h.output, h.size, fun b hb hn => h.block b hb (fun e => hn (by rw [← e]; simp))⟩
theorem Turned.refl (fp : List Nat) (w : World) : Turned fp w w := ⟨rfl, rfl, rfl, Nat.le_refl _, fun _ _ _ => rfl⟩
theorem Turned.trans {fp : List Nat} {w w1 w2 : World} (h : Turned fp w w1) (k : Turned fp w1 w2) : Turned fp w w2 :=
 ⟨k.os.trans h.os, k.tape.trans h.tape, k.output.trans h.output, Nat.le_trans h.size k.size, fun b hb hn => (k.block b (Nat.lt_of_lt_of_le hb h.size) hn).trans (h.block b hb hn)⟩
theorem Turned.below {fp : List Nat} {w w' : World} {B : Nat} (h : Turned fp w w') (hB : B ≤ w.heap.size) (hf : ∀ b ∈ fp, B ≤ b) : Below B w w' :=
 ⟨h.os, h.tape, h.output, h.size, fun b hb => h.block b (by omega) (fun hm => by have := hf b hm; omega)⟩

structure Sep (W w : World) (rs : List Res) : Prop where
 old : Below W.heap.size W w
 is : ∀ (i : Nat) (r : Res), rs[i]? = some r → r.is w
 lies : ∀ (i : Nat) (r : Res), rs[i]? = some r → ∀ b ∈ r.fp, W.heap.size ≤ b ∧ b < w.heap.size
 apart : ∀ (i j : Nat) (r s : Res), rs[i]? = some r → rs[j]? = some s → i ≠ j → ∀ b ∈ r.fp, b ∉ s.fp

section
variable {W w w' : World} {rs : List Res} {r r' : Res}
theorem Sep.start (W : World) : Sep W W [] := ⟨Below.refl _ _, fun i r h => by simp at h, fun i r h => by simp at h, fun i j r s h => by simp at h⟩
theorem Sep.keep (h : Sep W w rs) (hb : Below w.heap.size w w') : Sep W w' rs :=
 ⟨h.old.trans (hb.mono h.old.size), fun i r hi => r.loc (fun b hm => hb.block b (h.lies i r hi b hm).2) (h.is i r hi), fun i r hi b hm => ⟨(h.lies i r hi b hm).1, Nat.lt_of_lt_of_le (h.lies i r hi b hm).2 hb.size⟩, h.apart⟩
theorem Sep.push (h : Sep W w rs) (hb : Below w.heap.size w w') (hr : r.is w') (hf : ∀ b ∈ r.fp, w.heap.size ≤ b ∧ b < w'.heap.size) : Sep W w' (rs ++ [r]) := by
 have hk := h.keep hb
 have hsz := h.old.size
 have hlast : ∀ (i : Nat) (s : Res), (rs ++ [r])[i]? = some s → (rs[i]? = some s ∧ i < rs.length) ∨ (s = r ∧ i = rs.length) := fun i s hi => by
  rcases Nat.lt_trichotomy i rs.length with hl | hl | hl
  ·
   rw [List.getElem?_append_left hl] at hi
   exact .inl ⟨hi, hl⟩
  ·
   subst hl
   simp at hi
   exact .inr ⟨hi.symm, rfl⟩
  ·
   rw [List.getElem?_eq_none (by simp; omega)] at hi
   cases hi
 refine ⟨hk.old, fun i s hi => ?_, fun i s hi => ?_, fun i j s t hi hj hne => ?_⟩
 ·
  rcases hlast i s hi with ⟨h1, _⟩ | ⟨rfl, _⟩
  ·
   exact hk.is i s h1
  ·
   exact hr
 ·
  rcases hlast i s hi with ⟨h1, _⟩ | ⟨rfl, _⟩
  ·
   exact hk.lies i s h1
  ·
   exact fun b hm => ⟨by have := (hf b hm).1; omega, (hf b hm).2⟩
 ·
  rcases hlast i s hi with ⟨h1, e1⟩ | ⟨rfl, e1⟩ <;> rcases hlast j t hj with ⟨h2, e2⟩ | ⟨rfl, e2⟩
  ·
   exact h.apart i j s t h1 h2 hne
  ·
   exact fun b hm hm2 => by have := (h.lies i s h1 b hm).2; have := (hf b hm2).1; omega
  ·
   exact fun b hm hm2 => by have := (h.lies j t h2 b hm2).2; have := (hf b hm).1; omega
  ·
   omega
theorem Sep.put (h : Sep W w rs) (i : Nat) (hi : rs[i]? = some r) (ht : Turned r.fp w w') (hr : r'.is w') (hf : ∀ b ∈ r'.fp, b ∈ r.fp) : Sep W w' (rs.set i r') := by
 have hlt : i < rs.length := (List.getElem?_eq_some_iff.1 hi).1
 have hcase : ∀ (j : Nat) (s : Res), (rs.set i r')[j]? = some s → (j ≠ i ∧ rs[j]? = some s) ∨ (j = i ∧ s = r') := fun j s hj => by
  rw [List.getElem?_set] at hj
  by_cases e : i = j
  ·
   subst e
   rw [if_pos rfl, if_pos hlt] at hj
   exact .inr ⟨rfl, (Option.some.inj hj).symm⟩
  ·
   rw [if_neg e] at hj
   exact .inl ⟨fun e' => e e'.symm, hj⟩
 refine ⟨h.old.trans (ht.below h.old.size (fun b hm => (h.lies i r hi b hm).1)), fun j s hj => ?_, fun j s hj b hm => ?_, fun j k s t hj hk hne b hm hm2 => ?_⟩
 ·
  rcases hcase j s hj with ⟨hne, h1⟩ | ⟨rfl, rfl⟩
  ·
   exact s.loc (fun b hm => ht.block b (h.lies j s h1 b hm).2 (h.apart j i s r h1 hi hne b hm)) (h.is j s h1)
  ·
   exact hr
 ·
  rcases hcase j s hj with ⟨hne, h1⟩ | ⟨rfl, rfl⟩
  ·
   exact ⟨(h.lies j s h1 b hm).1, Nat.lt_of_lt_of_le (h.lies j s h1 b hm).2 ht.size⟩
  ·
   exact ⟨(h.lies _ r hi b (hf b hm)).1, Nat.lt_of_lt_of_le (h.lies _ r hi b (hf b hm)).2 ht.size⟩
 ·
  rcases hcase j s hj with ⟨hne1, h1⟩ | ⟨rfl, rfl⟩ <;> rcases hcase k t hk with ⟨hne2, h2⟩ | ⟨rfl, rfl⟩
  ·
   exact h.apart j k s t h1 h2 hne b hm hm2
  ·
   exact h.apart j _ s r h1 hi hne1 b hm (hf b hm2)
  ·
   exact h.apart k _ t r h2 hi hne2 b hm2 (hf b hm)
  ·
   exact hne rfl
theorem Sep.pushOwn {e : TypeId} {k : IntKind} {a : Option Addr} {c : Nat} {l : List Int} (h : Sep W w rs) (hb : Below w.heap.size w w') (ho : Own w' w.heap.size e k a c l) : Sep W w' (rs ++ [own e k a c l]) :=
 h.push hb (ho.base (Nat.zero_le _)) fun b hm => ho.lt b (by simpa [own] using hm)
theorem Sep.own {e : TypeId} {k : IntKind} {a : Option Addr} {c : Nat} {l : List Int} (h : Sep W w rs) (i : Nat) (hi : rs[i]? = some (Sl.own e k a c l)) : Own w 0 e k a c l := h.is i _ hi
theorem Sep.ownAt {e : TypeId} {k : IntKind} {a : Option Addr} {c : Nat} {l : List Int} (h : Sep W w rs) (i : Nat) (hi : rs[i]? = some (Sl.own e k a c l)) : Own w W.heap.size e k a c l :=
 (h.is i _ hi : Own w 0 e k a c l).lift fun b hm => (h.lies i _ hi b hm).1
theorem Sep.drews (h : Sep W w rs) (n : Nat) : Sep W (w.drewN n) rs := h.keep ⟨rfl, rfl, rfl, Nat.le_refl _, fun _ _ => rfl⟩
theorem Sep.alloc (h : Sep W w rs) (o : Obj) : Sep W (w.alloc o) rs := h.keep ((Below.refl _ _).alloc (Nat.le_refl _) o)
end

section
variable {P : Program} (w : World)
theorem run_append_src (B : Nat) (t ty e : TypeId) (i : TypeInfo) (z : Value) (bytes : Nat) (ht : P.underlying t = some (.slice e)) (hi : P.info? e = some i) (hz : i.zero = some z)
  (hsize : i.size = 1) (hby : i.bytes = bytes) (hzs : z.cells.size = 1) (k : IntKind) (a : Option Addr) (c : Nat) (l : List Int) (hown : Own w B e k a c l)
  (B' : Nat) (A : Option Addr) (c' : Nat) (m : List Int) (hr : Reads w B' A (ints k m))
  (h63 : l.length + m.length ≤ maxLen) (hbytes : (l.length + m.length) * bytes ≤ 140737488355328) (hbase : B ≤ w.heap.size) :
  ∃ a1 c1 w', (Builtin.append_ #[t, t] ty #[.slice a l.length c, .slice A m.length c']).run P w = .ok (.slice a1 (l.length + m.length) c1) w' ∧ Own w' B e k a1 c1 (l ++ m) ∧ w.grownBy w' (Value.slice a l.length c).ownBlock := by
 have fin : ∀ {v' : Value} {w' : World}, w'.ownsRow B e 1 v' (l.length + m.length) (ints k l ++ ints k m) → ∃ a1 c1, v' = .slice a1 (l.length + m.length) c1 ∧ Own w' B e k a1 c1 (l ++ m) := by
  intro v' w' h
  rw [← ints_append] at h
  rcases h.2 with ⟨rfl, hn⟩ | ⟨g, cap, cur, rfl, _⟩
  ·
   refine ⟨none, 0, by rw [hn], ?_⟩
   unfold Own
   rw [List.length_append, hn]
   rw [hn] at h
   exact h
  ·
   refine ⟨_, cap, rfl, ?_⟩
   unfold Own
   rw [List.length_append]
   exact h
 rcases A with _ | ad
 ·
  have hm : m = [] := by
   rcases m with _ | ⟨x, m⟩
   ·
    rfl
   ·
    obtain ⟨ad, h, _⟩ := hr 0 (by simp)
    cases h
  subst hm
  have hrun : (Builtin.append_ #[t, t] ty #[.slice a l.length c, .slice none 0 c']).run P w = .ok (.slice a l.length c) w := by
   rcases hown.form with ⟨rfl, rfl, rfl⟩ | ⟨g, rfl, _, _, h1, _⟩
   ·
    simp [Builtin.append_, run_underlying ht, sizeOf, typeInfo, hi, Builtin.lenOf, Builtin.firstCells]
   ·
    simp [Builtin.append_, run_underlying ht, sizeOf, typeInfo, hi, Builtin.lenOf, Builtin.firstCells, h1, storeCells]
  exact ⟨a, c, w, by simpa using hrun, by simpa using hown, grownBy_refl w _⟩
 ·
  have hcells : ∀ j u, (ints k m)[j]? = some u → w.cell? (ad.add j) = some u := by
   intro j u hu
   have hj := (List.getElem?_eq_some_iff.1 hu).1
   obtain ⟨ad', h, _, hc⟩ := hr j hj
   injection h with h
   subst h
   rw [hc, ← hu, List.getElem?_eq_getElem hj]
  obtain ⟨v', w', hrun, h2, h3, -, -⟩ := run_append_own_at (P := P) w B t ty e i z 1 bytes ht hi hz hsize hby hzs (by omega) _ l.length (ints k l) hown ad m.length c' (ints k m) (by simp) hcells (ints_one k m) h63 hbytes hbase
  obtain ⟨a1, c1, rfl, ho⟩ := fin h2
  exact ⟨a1, c1, w', hrun, ho, h3⟩

theorem wpList_append_src {ops : Array Oper} {rest : List Oper} {o : Oper} {act : Act} {Q : Exit → Act → World → Prop} (hgd : o.guard = none) (s x : Operand) (t : TypeId)
  (ho : o.op = .call { callee := .builtin .append, args := #[s, x], argTypes := #[t, t] })
  (B : Nat) (e : TypeId) (i : TypeInfo) (z : Value) (bytes : Nat) (ht : P.underlying t = some (.slice e)) (hi : P.info? e = some i) (hz : i.zero = some z)
  (hsize : i.size = 1) (hby : i.bytes = bytes) (hzs : z.cells.size = 1) (k : IntKind) (a : Option Addr) (n c : Nat) (l : List Int) (hs : act.eval s = .slice a n c) (hn : n = l.length) (hown : Own w B e k a c l)
  (B' : Nat) (A : Option Addr) (n' c' : Nat) (m : List Int) (hx : act.eval x = .slice A n' c') (hn' : n' = m.length) (hr : Reads w B' A (ints k m))
  (h63 : l.length + m.length ≤ maxLen) (hbytes : (l.length + m.length) * bytes ≤ 140737488355328) (hbase : B ≤ w.heap.size)
  (h : ∀ a1 c1 w', Own w' B e k a1 c1 (l ++ m) → w.grownBy w' (Value.slice a l.length c).ownBlock → wpList P ops Q rest (act.put o.dst (.slice a1 (l.length + m.length) c1)) w') : wpList P ops Q (o :: rest) act w := by
 subst hn
 subst hn'
 refine wpList_plain hgd fun K hK => ?_
 obtain ⟨a1, c1, w', hrun, h2, h3⟩ := run_append_src (P := P) w B t o.type e i z bytes ht hi hz hsize hby hzs k a c l hown B' A c' m hr h63 hbytes hbase
 unfold Oper.wp execOp
 simp only [ho, resolve, invoke, builtin, Sem.run_bind, Sem.run_pure, Result.andThen_ok, List.map_toArray, List.map_cons, List.map_nil, hs, hx, hrun]
 exact hK _ _ (h a1 c1 w' h2 h3)
end

theorem reads_one (w : World) (k : IntKind) (x : Int) (t : TypeId) : Reads (w.alloc (.cells #[.int k x] t)) (w.heap.size + 1) (some ⟨w.heap.size, 0, none⟩) (ints k [x]) := fun j hj => by
 simp [ints] at hj
 subst hj
 refine ⟨_, rfl, by simp, ?_⟩
 rw [Addr.add_lit, (Row.made w t _).cell]
 rfl
end Go.Proofs.Ytejincmlblpaoaa.Sl

namespace Go.Proofs.Ytejincmlblpaoaa.Ex
open Go.ChangeShapes Go.WideShapes Go.ChangeAt Go.RowKit Mem Sl

def marks (kd : IntKind) (k : Int) (n : Nat) : List Int := (List.range n).map fun (i : Nat) => kd.wrap (k + (i : Int))
@[simp] theorem marks_length (kd : IntKind) (k : Int) (n : Nat) : (marks kd k n).length = n := by simp [marks]
theorem infoOf (e : TypeId) (z : Value) (s b : Nat) (h : (Try.prog.info? e).map (fun i => (i.zero, i.size, i.bytes)) = some (some z, s, b)) : ∃ i, Try.prog.info? e = some i ∧ i.zero = some z ∧ i.size = s ∧ i.bytes = b := info_parts h

def Drew (w w' : World) : Prop := ∃ n, w' = w.drewN n
theorem Drew.refl (w : World) : Drew w w := ⟨0, rfl⟩
theorem Drew.more {w w1 : World} (h : Drew w w1) (n : Nat) : Drew w (w1.drewN n) := by
 obtain ⟨m, rfl⟩ := h
 exact ⟨m + n, World.drewN_drewN ..⟩
theorem Drew.below {w w' : World} (h : Drew w w') (B : Nat) : Below B w w' := by
 obtain ⟨n, rfl⟩ := h
 exact ⟨rfl, rfl, rfl, Nat.le_refl _, fun _ _ => rfl⟩
theorem Drew.trans {w w1 w2 : World} (h : Drew w w1) (k : Drew w1 w2) : Drew w w2 := by
 obtain ⟨n, rfl⟩ := k
 exact h.more n

theorem take_eq_step {l m : List Int} {k : Nat} (hl : k < l.length) (hm : k < m.length) (h : l.take k = m.take k) (e : l[k] = m[k]) : l.take (k + 1) = m.take (k + 1) := by
 rw [List.take_succ_eq_append_getElem hl, List.take_succ_eq_append_getElem hm, h, e]
theorem eq_of_take {l m : List Int} (hn : l.length = m.length) (h : l.take l.length = m.take l.length) : l = m := by
 rw [List.take_length, hn, List.take_length] at h
 exact h
def eqB (l m : List Int) : Bool := decide (l = m)
theorem eqB_true {l m : List Int} (h : l = m) : eqB l m = true := decide_eq_true h
theorem eqB_false {l m : List Int} (h : l ≠ m) : eqB l m = false := decide_eq_false h

set_option maxHeartbeats 400000 in
theorem sameBytes_any (a a2 : Option Addr) (c c2 : Nat) (l m : List Int) (w : World) (B : Nat) (hr : Reads w B a (ints .u8 l)) (hr2 : Reads w B a2 (ints .u8 m)) (hl : l.length ≤ 4611686018427387904) (hm : m.length ≤ 4611686018427387904) :
  Calls Try.prog 15 #[.slice a l.length c, .slice a2 m.length c2] w fun e w' => e = .returned (.bool (eqB l m)) ∧ Drew w w' := by
 obtain ⟨n, hn⟩ : ∃ n, n = l.length := ⟨_, rfl⟩
 obtain ⟨n2, hn2⟩ : ∃ n, n = m.length := ⟨_, rfl⟩
 have hl' : n ≤ 4611686018427387904 := by omega
 have hm' : n2 ≤ 4611686018427387904 := by omega
 obtain ⟨b, hb⟩ : ∃ b, b = eqB l m := ⟨_, rfl⟩
 rw [← hb, ← hn, ← hn2]
 have HN := Lib.hid hn
 have HN2 := Lib.hid hn2
 have HB := Lib.hid hb
 have HR := Lib.hid (And.intro hr hr2)
 clear hn hn2 hr hr2 hl hm hb
 by_cases hlen : n = n2
 ·
  subst hlen
  go_enter Try.func15, Try.ntmps15
  go_wp2
  go_loopw [5] (fun i wr => ∃ k : Nat, k ≤ n ∧ i = .int .i64 k ∧ Hid (l.take k = m.take k ∧ Drew w wr)) (fun i _ => n - (intOf i).toNat)
  case atStart => exact ⟨0, Nat.zero_le _, rfl, by simp, Drew.refl w⟩
  case round =>
   obtain ⟨k, hk, rfl, hrel⟩ := hrel
   obtain ⟨htk, hD⟩ := hrel.out
   have HT := Lib.hid htk
   have HD := Lib.hid hD
   clear htk hrel
   by_cases hlt : k < n
   ·
    obtain ⟨ad, rfl, -, hcell⟩ := (HR.out.1.below (hD.below B)).int k (by have := HN.out; omega)
    obtain ⟨ad2, rfl, -, hcell2⟩ := (HR.out.2.below (hD.below B)).int k (by have := HN2.out; omega)
    clear hD
    obtain ⟨x, hx⟩ : ∃ x, x = l[k]'(by have := HN.out; omega) := ⟨_, rfl⟩
    obtain ⟨y, hy⟩ : ∃ y, y = m[k]'(by have := HN2.out; omega) := ⟨_, rfl⟩
    rw [← hx] at hcell
    rw [← hy] at hcell2
    have HX := Lib.hid hx
    have HY := Lib.hid hy
    clear hx hy
    have hkn : (k : Int) < n := by omega
    by_cases hxy : x = y
    ·
     subst hxy
     go_wp2
     go_quiet (fail)
     go_wp2
     go_roundw
     case rel =>
      exact ⟨k + 1, by omega, by go_num, take_eq_step (by have := HN.out; omega) (by have := HN2.out; omega) HT.out (HX.out.symm.trans HY.out), HD.out.more _⟩
     case measure => simp [intOf]; omega
    ·
     have hne : (x == y) = false := by simpa using hxy
     go_wp2
     go_quiet (fail)
     go_wp2
     go_ret
     refine ⟨?_, HD.out.more _⟩
     obtain rfl : b = false := by
      rw [HB.out]
      exact eqB_false (fun e => hxy (by rw [HX.out, HY.out]; subst e; rfl))
     rfl
   ·
    clear hD
    go_wp2
    go_ret
    obtain rfl : k = n := by omega
    refine ⟨?_, HD.out⟩
    obtain rfl : b = true := by
     rw [HB.out]
     have h1 := HT.out
     rw [HN.out] at h1
     exact eqB_true (eq_of_take (HN.out.symm.trans HN2.out) h1)
    rfl
 ·
  have hne : ((n : Int) == (n2 : Int)) = false := by simp; omega
  go_enter Try.func15, Try.ntmps15
  go_wp2
  go_ret
  refine ⟨?_, Drew.refl w⟩
  obtain rfl : b = false := by
   rw [HB.out]
   exact eqB_false (fun e => hlen (by rw [HN.out, HN2.out, e]))
  rfl

end Go.Proofs.Ytejincmlblpaoaa.Ex

namespace Go.Proofs.Ytejincmlblpaoaa.Law
open Go.ChangeShapes Go.WideShapes Go.ChangeAt Go.RowKit Mem Sl Ex

section
variable {H : Type} {enc : TypeId × Value → H} {P : Program}
theorem open_list {W : World} {t e : TypeId} {k : IntKind} (ht : P.underlying t = some (.slice e)) (he : P.underlying e = some (.int k)) (hc : P.cellsOf e = 1) {b0 : Nat} {v : Value} {d : DataW H} {ps : List MemPlace}
  (hval : Value.okWide P W .any b0 t v) (h0 : DataW.Trod enc P W 0 (fun _ => true) true t v d ps) (hlt : ∀ x ∈ ps, x.block < W.heap.size) :
  ∃ (a : Option Addr) (l : List Int) (cap : Nat), v = .slice a l.length cap ∧ l.length ≤ cap ∧ cap ≤ 9223372036854775807 ∧ Reads W W.heap.size a (ints k l) ∧ ∀ n ∈ l, (Lit.int k n).wf = true := by
 obtain ⟨a0, len, cap, rfl⟩ := okWide_slice ht hval
 obtain ⟨fuel, hf⟩ := h0
 rcases open_ints ht he hc hf with ⟨hcs, hx⟩ | ⟨a, len', cap', zs, hcs, _, hl, hm, hz, hx, hcell, hwz⟩
 ·
  simp [Value.cells] at hcs
  obtain ⟨rfl, rfl, rfl⟩ := hcs
  exact ⟨none, [], 0, rfl, Nat.le_refl _, by omega, Reads.nil, fun n hn => by simp at hn⟩
 ·
  simp [Value.cells] at hcs
  obtain ⟨rfl, rfl, rfl⟩ := hcs
  simp only [Prod.mk.injEq] at hx
  obtain ⟨rfl, rfl⟩ := hx
  simp at hz
  have hlen : (zs.take len).length = len := by simp; omega
  refine ⟨some a, zs.take len, cap, by rw [hlen], by omega, by unfold maxLen at hm; omega, fun j hj => ?_, fun n hn => hwz n (List.mem_of_mem_take hn)⟩
  simp at hj
  refine ⟨a, rfl, ?_, ?_⟩
  ·
   have := hlt (MemPlace.cell a.block (a.off + 0)) ?_
   ·
    simpa [MemPlace.block] using this
   ·
    exact List.mem_map.2 ⟨0, List.mem_range.2 (by omega), rfl⟩
  ·
   rw [hcell j (by omega), ints_get _ _ _ (by simp; omega)]
   simp [List.getD_eq_getElem?_getD, List.getElem?_eq_getElem (show j < zs.length by omega)]
theorem wf_u8 {n : Int} (h : (Lit.int .u8 n).wf = true) : 0 ≤ n ∧ n ≤ 255 := by
 simpa [Lit.wf, IntKind.min, IntKind.max, IntKind.signed, IntKind.bits] using h
end

theorem Sep.drew {W w w' : World} {rs : List Res} (h : Sep W w rs) (hd : Drew w w') : Sep W w' rs := h.keep (hd.below _)

end Go.Proofs.Ytejincmlblpaoaa.Law

namespace Go.Proofs.Ytejincmlblpaoaa.L2

def uv (n : Nat) : List Int := if n < 128 then [(n : Int)] else ((n % 128 + 128 : Nat) : Int) :: uv (n / 128)
termination_by n
decreasing_by omega
theorem uv_small {n : Nat} (h : n < 128) : uv n = [(n : Int)] := by rw [uv, if_pos h]
theorem uv_big {n : Nat} (h : ¬ n < 128) : uv n = ((n % 128 + 128 : Nat) : Int) :: uv (n / 128) := by rw [uv, if_neg h]
theorem uv_len_le : ∀ (j n : Nat), n < 128 ^ (j + 1) → (uv n).length ≤ j + 1
 | 0, n, h => by rw [uv_small (by omega)]; simp
 | j + 1, n, h => by
  by_cases hn : n < 128
  ·
   rw [uv_small hn]; simp
  ·
   rw [uv_big hn, List.length_cons]
   have := uv_len_le j (n / 128) (by rw [Nat.pow_succ] at h; omega)
   omega
theorem uv_len_pos (n : Nat) : 1 ≤ (uv n).length := by
 by_cases hn : n < 128
 ·
  rw [uv_small hn]; simp
 ·
  rw [uv_big hn]; simp
theorem uv_byte (n : Nat) : ∀ x ∈ uv n, 0 ≤ x ∧ x ≤ 255 := by
 induction n using Nat.strongRecOn with
 | _ n ih =>
  intro x hx
  by_cases hn : n < 128
  ·
   rw [uv_small hn] at hx
   simp at hx
   omega
  ·
   rw [uv_big hn] at hx
   rcases List.mem_cons.1 hx with h | h
   ·
    omega
   ·
    exact ih (n / 128) (by omega) x h

def enc (n : Int) : List Int := if L1.inB n 0 1000000000000 = true then uv n.toNat else []
theorem enc_in {n : Int} (h0 : 0 ≤ n) (h1 : n ≤ 1000000000000) : enc n = uv n.toNat := by rw [enc, if_pos (L1.inB_true.mpr ⟨h0, h1⟩)]
theorem enc_out {n : Int} (h : ¬ (0 ≤ n ∧ n ≤ 1000000000000)) : enc n = [] := by rw [enc, if_neg (by rw [L1.inB_false.mpr h]; simp)]
theorem enc_len (n : Int) : (enc n).length ≤ 6 := by
 by_cases h : 0 ≤ n ∧ n ≤ 1000000000000
 ·
  rw [enc_in h.1 h.2]
  exact uv_len_le 5 _ (by have : (128 : Nat) ^ (5 + 1) = 4398046511104 := (by decide); omega)
 ·
  rw [enc_out h]; simp
theorem enc_byte (n : Int) : ∀ x ∈ enc n, 0 ≤ x ∧ x ≤ 255 := by
 by_cases h : 0 ≤ n ∧ n ≤ 1000000000000
 ·
  rw [enc_in h.1 h.2]; exact uv_byte _
 ·
  rw [enc_out h]; simp

def rdAux : Nat → Int → List Int → Option (Int × Nat)
 | _, _, [] => none
 | k, v, c :: s =>
  if 6 ≤ k then none
  else if c < 128 then (if (c = 0 ∧ 0 < k) ∨ 1000000000000 < v + c % 128 * 128 ^ k then none else some (v + c % 128 * 128 ^ k, k + 1))
  else rdAux (k + 1) (v + c % 128 * 128 ^ k) s
def rd (l : List Int) (off : Int) : Option (Int × Nat) := if 0 ≤ off then rdAux 0 0 (l.drop off.toNat) else none
def rdN (l : List Int) (off : Int) : Int := match rd l off with | some (v, _) => v | none => 0
def rdE (l : List Int) (off : Int) : Int := match rd l off with | some (_, m) => off + m | none => 0
def rdB (l : List Int) (off : Int) : Bool := (rd l off).isSome

theorem rdAux_uv (n : Nat) : ∀ (k : Nat) (v : Int) (t : List Int), k + (uv n).length ≤ 6 → (k = 0 ∨ 0 < n) → 0 ≤ v → v + n * 128 ^ k ≤ 1000000000000 → rdAux k v (uv n ++ t) = some (v + n * 128 ^ k, k + (uv n).length) := by
 induction n using Nat.strongRecOn with
 | _ n ih =>
  intro k v t hk hz hv hm
  by_cases hn : n < 128
  ·
   rw [uv_small hn] at hk ⊢
   simp only [List.length_singleton] at hk ⊢
   have e : (n : Int) % 128 = n := by omega
   simp only [List.cons_append, List.nil_append, rdAux]
   rw [if_neg (by omega), if_pos (by omega), if_neg (by rw [e]; omega), e]
  ·
   rw [uv_big hn] at hk ⊢
   simp only [List.length_cons] at hk ⊢
   simp only [List.cons_append, rdAux]
   have e : ((n % 128 + 128 : Nat) : Int) % 128 = ((n % 128 : Nat) : Int) := by omega
   have hq : (n : Int) = 128 * ((n / 128 : Nat) : Int) + ((n % 128 : Nat) : Int) := by omega
   have e2 : v + ((n % 128 : Nat) : Int) * 128 ^ k + ((n / 128 : Nat) : Int) * 128 ^ (k + 1) = v + (n : Int) * 128 ^ k := by
    rw [Int.pow_succ]
    generalize (128 : Int) ^ k = p
    rw [hq, Int.add_mul, Int.mul_comm p 128, ← Int.mul_assoc, Int.mul_comm ((n / 128 : Nat) : Int) 128]
    omega
   rw [if_neg (by omega), if_neg (by omega), e, ih (n / 128) (by omega) (k + 1) _ t (by omega) (.inr (by omega)) (by
    have := Int.mul_nonneg (show (0 : Int) ≤ ((n % 128 : Nat) : Int) by omega) (show (0 : Int) ≤ 128 ^ k from Int.le_of_lt (Int.pow_pos (by decide)))
    omega) (by rw [e2]; exact hm), e2]
   simp
   omega

theorem rdAux_out : ∀ (s : List Int), (∀ x ∈ s, 0 ≤ x ∧ x ≤ 255) → ∀ (k : Nat) (v r : Int) (m : Nat), 0 ≤ v → rdAux k v s = some (r, m) →
  ∃ q : Nat, r = v + q * 128 ^ k ∧ k < m ∧ m ≤ 6 ∧ m - k ≤ s.length ∧ s.take (m - k) = uv q ∧ (0 < k → 0 < q) ∧ r ≤ 1000000000000
 | [], _, k, v, r, m, _, h => by simp [rdAux] at h
 | c :: s, hs, k, v, r, m, hv, h => by
  rw [rdAux] at h
  have hc := hs c (by simp)
  by_cases h6 : 6 ≤ k
  ·
   rw [if_pos h6] at h; cases h
  ·
   rw [if_neg h6] at h
   by_cases hc1 : c < 128
   ·
    rw [if_pos hc1] at h
    by_cases hb : (c = 0 ∧ 0 < k) ∨ 1000000000000 < v + c % 128 * 128 ^ k
    ·
     rw [if_pos hb] at h; cases h
    ·
     rw [if_neg hb] at h
     simp only [Option.some.injEq, Prod.mk.injEq] at h
     obtain ⟨h1, h2⟩ := h
     have e : c % 128 = c := by omega
     have e2 : ((c.toNat : Nat) : Int) = c := by omega
     refine ⟨c.toNat, ?_, by omega, by omega, by simp; omega, ?_, fun hk => ?_, by omega⟩
     ·
      rw [← h1, e, e2]
     ·
      rw [show m - k = 1 by omega, uv_small (by omega), e2]
      simp
     ·
      have : ¬ (c = 0 ∧ 0 < k) := fun hx => hb (.inl hx)
      omega
   ·
    rw [if_neg hc1] at h
    have hp : (0 : Int) ≤ 128 ^ k := Int.le_of_lt (Int.pow_pos (by decide))
    have hnn := Int.mul_nonneg (show (0 : Int) ≤ c % 128 by omega) hp
    obtain ⟨q, h1, h2, h3, h4, h5, h6', h7⟩ := rdAux_out s (fun x hx => hs x (by simp [hx])) (k + 1) _ r m (by omega) h
    refine ⟨(c % 128).toNat + 128 * q, ?_, by omega, h3, by simp; omega, ?_, fun _ => by have := h6' (by omega); omega, h7⟩
    ·
     rw [h1, Int.pow_succ]
     have e : ((c % 128).toNat : Int) = c % 128 := by omega
     generalize (128 : Int) ^ k = p
     have e3 : (q : Int) * (p * 128) = 128 * (q : Int) * p := by rw [Int.mul_comm p 128, ← Int.mul_assoc, Int.mul_comm (q : Int) 128]
     rw [Int.natCast_add, Int.natCast_mul, e, Int.add_mul, e3, Int.add_assoc]
     rfl
    ·
     have hq := h6' (by omega)
     rw [show m - k = (m - (k + 1)) + 1 by omega, List.take_succ_cons, h5, uv_big (n := (c % 128).toNat + 128 * q) (by omega)]
     congr 1
     ·
      omega
     ·
      congr 1
      omega

theorem rd_enc (l t : List Int) (n : Int) (h0 : 0 ≤ n) (h1 : n ≤ 1000000000000) : rd (l ++ (enc n ++ t)) l.length = some (n, (enc n).length) := by
 have hl := enc_len n
 rw [enc_in h0 h1] at hl ⊢
 unfold rd
 rw [if_pos (by omega)]
 have e : (l ++ (uv n.toNat ++ t)).drop ((l.length : Int).toNat) = uv n.toNat ++ t := by simp
 rw [e, rdAux_uv n.toNat 0 0 t (by omega) (.inl rfl) (by omega) (by simp; omega)]
 simp
 omega
theorem rd_out {l : List Int} (hl : ∀ x ∈ l, 0 ≤ x ∧ x ≤ 255) {off : Int} {v : Int} {m : Nat} (h : rd l off = some (v, m)) :
  0 ≤ off ∧ 1 ≤ m ∧ m ≤ 6 ∧ off + m ≤ l.length ∧ 0 ≤ v ∧ v ≤ 1000000000000 ∧ (l.drop off.toNat).take m = enc v := by
 unfold rd at h
 by_cases ho : 0 ≤ off
 ·
  rw [if_pos ho] at h
  obtain ⟨q, h1, h2, h3, h4, h5, _, h7⟩ := rdAux_out _ (fun x hx => hl x (List.mem_of_mem_drop hx)) 0 0 v m (by omega) h
  simp at h1 h4
  refine ⟨ho, by omega, h3, by omega, by omega, h7, ?_⟩
  rw [Nat.sub_zero] at h5
  rw [h5, enc_in (by omega) h7]
  congr 1
  omega
 ·
  rw [if_neg ho] at h; cases h
theorem rd_some {l : List Int} {off : Int} (h : rdB l off = true) : rd l off = some (rdN l off, (rdE l off - off).toNat) ∧ off ≤ rdE l off := by
 unfold rdB at h
 unfold rdN rdE
 cases hr : rd l off with
 | none => rw [hr] at h; cases h
 | some p =>
  obtain ⟨v, m⟩ := p
  simp
  omega
theorem rd_none {l : List Int} {off : Int} (h : rdB l off = false) : rdN l off = 0 ∧ rdE l off = 0 := by
 unfold rdB at h
 unfold rdN rdE
 cases hr : rd l off with
 | none => exact ⟨rfl, rfl⟩
 | some p => rw [hr] at h; cases h
theorem rdN_of {l : List Int} {off v : Int} {m : Nat} (h : rd l off = some (v, m)) : rdN l off = v := by unfold rdN; rw [h]
theorem rdE_of {l : List Int} {off v : Int} {m : Nat} (h : rd l off = some (v, m)) : rdE l off = off + m := by unfold rdE; rw [h]
theorem rdB_of {l : List Int} {off v : Int} {m : Nat} (h : rd l off = some (v, m)) : rdB l off = true := by unfold rdB; rw [h]; rfl
theorem rd_bounds {l : List Int} (hl : ∀ x ∈ l, 0 ≤ x ∧ x ≤ 255) (off : Int) : 0 ≤ rdN l off ∧ rdN l off ≤ 1000000000000 ∧ 0 ≤ rdE l off ∧ rdE l off ≤ l.length := by
 cases h : rdB l off with
 | false =>
  obtain ⟨h1, h2⟩ := rd_none h
  rw [h1, h2]
  omega
 | true =>
  obtain ⟨h1, h2⟩ := rd_some h
  obtain ⟨a, b, c, d, e, f, _⟩ := rd_out hl h1
  omega
end Go.Proofs.Ytejincmlblpaoaa.L2

namespace Go.Proofs.Ytejincmlblpaoaa.Sd
open Go.ChangeShapes Go.WideShapes Go.ChangeAt Go.RowKit Mem Sl Ex Draw

section
variable {W w w' : World} {rs : List Res} {r r' : Res}
theorem put_new (h : Sep W w rs) (i : Nat) (hi : rs[i]? = some r) (ht : Turned r.fp w w') (hr : r'.is w') (hf : ∀ b ∈ r'.fp, b ∈ r.fp ∨ (w.heap.size ≤ b ∧ b < w'.heap.size)) : Sep W w' (rs.set i r') := by
 have hlt : i < rs.length := (List.getElem?_eq_some_iff.1 hi).1
 have hsz := h.old.size
 have hcase : ∀ (j : Nat) (s : Res), (rs.set i r')[j]? = some s → (j ≠ i ∧ rs[j]? = some s) ∨ (j = i ∧ s = r') := fun j s hj => by
  rw [List.getElem?_set] at hj
  by_cases e : i = j
  ·
   subst e
   rw [if_pos rfl, if_pos hlt] at hj
   exact .inr ⟨rfl, (Option.some.inj hj).symm⟩
  ·
   rw [if_neg e] at hj
   exact .inl ⟨fun e' => e e'.symm, hj⟩
 refine ⟨h.old.trans (ht.below h.old.size (fun b hm => (h.lies i r hi b hm).1)), fun j s hj => ?_, fun j s hj b hm => ?_, fun j k s t hj hk hne b hm hm2 => ?_⟩
 ·
  rcases hcase j s hj with ⟨hne, h1⟩ | ⟨rfl, rfl⟩
  ·
   exact s.loc (fun b hm => ht.block b (h.lies j s h1 b hm).2 (h.apart j i s r h1 hi hne b hm)) (h.is j s h1)
  ·
   exact hr
 ·
  rcases hcase j s hj with ⟨hne, h1⟩ | ⟨rfl, rfl⟩
  ·
   exact ⟨(h.lies j s h1 b hm).1, Nat.lt_of_lt_of_le (h.lies j s h1 b hm).2 ht.size⟩
  ·
   rcases hf b hm with h2 | h2
   ·
    exact ⟨(h.lies _ r hi b h2).1, Nat.lt_of_lt_of_le (h.lies _ r hi b h2).2 ht.size⟩
   ·
    exact ⟨by omega, h2.2⟩
 ·
  rcases hcase j s hj with ⟨hne1, h1⟩ | ⟨rfl, rfl⟩ <;> rcases hcase k t hk with ⟨hne2, h2⟩ | ⟨rfl, rfl⟩
  ·
   exact h.apart j k s t h1 h2 hne b hm hm2
  ·
   rcases hf b hm2 with h3 | h3
   ·
    exact h.apart j _ s r h1 hi hne1 b hm h3
   ·
    have := (h.lies j s h1 b hm).2; omega
  ·
   rcases hf b hm with h3 | h3
   ·
    exact h.apart k _ t r h2 hi hne2 b hm2 h3
   ·
    have := (h.lies k t h2 b hm2).2; omega
  ·
   exact hne rfl
end

section
variable {W w w' : World} {rs : List Res} {c : Nat}
end

section
variable {W w : World} {rs : List Res} {c : Nat}
end

section
variable {P : Program} (w : World)
theorem run_append_own (B : Nat) (t ty e : TypeId) (i : TypeInfo) (z : Value) (bytes : Nat) (ht : P.underlying t = some (.slice e)) (hi : P.info? e = some i) (hz : i.zero = some z)
  (hsize : i.size = 1) (hby : i.bytes = bytes) (hzs : z.cells.size = 1) (k : IntKind) (a : Option Addr) (c : Nat) (l : List Int) (hown : Own w B e k a c l)
  (B' : Nat) (A : Option Addr) (c' : Nat) (m : List Int) (hr : Reads w B' A (ints k m))
  (h63 : l.length + m.length ≤ maxLen) (hbytes : (l.length + m.length) * bytes ≤ 140737488355328) (hbase : B ≤ w.heap.size) :
  ∃ a1 c1 w', (Builtin.append_ #[t, t] ty #[.slice a l.length c, .slice A m.length c']).run P w = .ok (.slice a1 (l.length + m.length) c1) w' ∧ Own w' B e k a1 c1 (l ++ m) ∧ w.grownBy w' (Value.slice a l.length c).ownBlock ∧
   ((Value.slice a1 (l ++ m).length c1).ownBlock = (Value.slice a l.length c).ownBlock ∨ (Value.slice a1 (l ++ m).length c1).ownBlock = some w.heap.size) := by
 have fin : ∀ {v' : Value} {w' : World}, w'.ownsRow B e 1 v' (l.length + m.length) (ints k l ++ ints k m) → ∃ a1 c1, v' = .slice a1 (l.length + m.length) c1 ∧ Own w' B e k a1 c1 (l ++ m) := by
  intro v' w' h
  rw [← ints_append] at h
  rcases h.2 with ⟨rfl, hn⟩ | ⟨g, cap, cur, rfl, _⟩
  ·
   refine ⟨none, 0, by rw [hn], ?_⟩
   unfold Own
   rw [List.length_append, hn]
   rw [hn] at h
   exact h
  ·
   refine ⟨_, cap, rfl, ?_⟩
   unfold Own
   rw [List.length_append]
   exact h
 rcases A with _ | ad
 ·
  have hm : m = [] := by
   rcases m with _ | ⟨x, m⟩
   ·
    rfl
   ·
    obtain ⟨ad, h, _⟩ := hr 0 (by simp)
    cases h
  subst hm
  have hrun : (Builtin.append_ #[t, t] ty #[.slice a l.length c, .slice none 0 c']).run P w = .ok (.slice a l.length c) w := by
   rcases hown.form with ⟨rfl, rfl, rfl⟩ | ⟨g, rfl, _, _, h1, _⟩
   ·
    simp [Builtin.append_, run_underlying ht, sizeOf, typeInfo, hi, Builtin.lenOf, Builtin.firstCells]
   ·
    simp [Builtin.append_, run_underlying ht, sizeOf, typeInfo, hi, Builtin.lenOf, Builtin.firstCells, h1, storeCells]
  exact ⟨a, c, w, by simpa using hrun, by simpa using hown, grownBy_refl w _, .inl (by simp)⟩
 ·
  have hcells : ∀ j u, (ints k m)[j]? = some u → w.cell? (ad.add j) = some u := by
   intro j u hu
   have hj := (List.getElem?_eq_some_iff.1 hu).1
   obtain ⟨ad', h, _, hc⟩ := hr j hj
   injection h with h
   subst h
   rw [hc, ← hu, List.getElem?_eq_getElem hj]
  obtain ⟨v', w', hrun, h2, h3, -, h5⟩ := run_append_own_at (P := P) w B t ty e i z 1 bytes ht hi hz hsize hby hzs (by omega) _ l.length (ints k l) hown ad m.length c' (ints k m) (by simp) hcells (ints_one k m) h63 hbytes hbase
  obtain ⟨a1, c1, rfl, ho⟩ := fin h2
  exact ⟨a1, c1, w', hrun, ho, h3, by rw [List.length_append]; exact h5⟩

theorem wpList_append_sep {ops : Array Oper} {rest : List Oper} {o : Oper} {act : Act} {Q : Exit → Act → World → Prop} (hgd : o.guard = none) (s x : Operand) (t : TypeId)
  (ho : o.op = .call { callee := .builtin .append, args := #[s, x], argTypes := #[t, t] })
  (e : TypeId) (i : TypeInfo) (z : Value) (bytes : Nat) (ht : P.underlying t = some (.slice e)) (hi : P.info? e = some i) (hz : i.zero = some z)
  (hsize : i.size = 1) (hby : i.bytes = bytes) (hzs : z.cells.size = 1) (k : IntKind) (a : Option Addr) (n c : Nat) (l : List Int) (hs : act.eval s = .slice a n c) (hn : n = l.length)
  (W : World) (rs : List Res) (hS : Sep W w rs) (ix : Nat) (hix : rs[ix]? = some (own e k a c l))
  (B' : Nat) (A : Option Addr) (n' c' : Nat) (m : List Int) (hx : act.eval x = .slice A n' c') (hn' : n' = m.length) (hr : Reads w B' A (ints k m))
  (h63 : l.length + m.length ≤ maxLen) (hbytes : (l.length + m.length) * bytes ≤ 140737488355328)
  (h : ∀ a1 c1 w', Sep W w' (rs.set ix (own e k a1 c1 (l ++ m))) → wpList P ops Q rest (act.put o.dst (.slice a1 (l.length + m.length) c1)) w') : wpList P ops Q (o :: rest) act w := by
 subst hn
 subst hn'
 refine wpList_plain hgd fun K hK => ?_
 obtain ⟨a1, c1, w', hrun, h2, h3, h4⟩ := run_append_own (P := P) w W.heap.size t o.type e i z bytes ht hi hz hsize hby hzs k a c l (hS.ownAt ix hix) B' A c' m hr h63 hbytes hS.old.size
 unfold Oper.wp execOp
 simp only [ho, resolve, invoke, builtin, Sem.run_bind, Sem.run_pure, Result.andThen_ok, List.map_toArray, List.map_cons, List.map_nil, hs, hx, hrun]
 refine hK _ _ (h a1 c1 w' (put_new hS ix hix (Turned.of_grown h3) (h2.base (Nat.zero_le _)) fun b hb => ?_))
 have hb' : (Value.slice a1 (l ++ m).length c1).ownBlock = some b := by simpa [own] using hb
 rcases h4 with h5 | h5
 ·
  left
  have : (Value.slice a l.length c).ownBlock = some b := by rw [← h5]; exact hb'
  simpa [own] using this
 ·
  right
  rw [hb'] at h5
  have hbe : b = w.heap.size := Option.some.inj h5
  have := h2.lt b (by simpa using hb')
  exact ⟨by omega, this.2⟩
end

theorem infoB : (Try.prog.info? 5).map (fun i => (i.zero, i.size, i.bytes)) = some (some (.int .u8 0), 1, 1) := by kernel_rfl
end Go.Proofs.Ytejincmlblpaoaa.Sd

namespace Go.Proofs.Ytejincmlblpaoaa.L2
open Go.ChangeShapes Go.WideShapes Go.ChangeAt Go.RowKit Mem Sl Ex

theorem info8 : (Try.prog.info? 5).map (fun i => (i.zero, i.size, i.bytes)) = some (some (.int .u8 0), 1, 1) := by kernel_rfl

theorem own_alloc {w : World} {B : Nat} {e : TypeId} {k : IntKind} {a : Option Addr} {c : Nat} {l : List Int} (h : Own w B e k a c l) (o : Obj) : Own (w.alloc o) B e k a c l := h.below ((Below.refl _ _).alloc (Nat.le_refl _) o)
theorem below_alloc {B : Nat} {w w' : World} (h : Below B w w') (o : Obj) (hB : B ≤ w.heap.size) : Below B w (w'.alloc o) := h.alloc (Nat.le_trans hB h.size) o
theorem below_own {B : Nat} {w w' : World} {e : TypeId} {k : IntKind} {a : Option Addr} {c : Nat} {l : List Int} (ho : Own w B e k a c l) (hg : w.grownBy w' (Value.slice a l.length c).ownBlock) (hB : B ≤ w.heap.size) : Below B w w' :=
 (Below.refl _ _).grown hg hB (fun k hk => (ho.lt k hk).1)

theorem or_128 (m : Nat) : bits .or .u8 ((m : Int) % 128) 128 = ((m % 128 + 128 : Nat) : Int) := by
 rw [show (m : Int) % 128 = ((m % 128 : Nat) : Int) by omega, show (128 : Int) = ((128 : Nat) : Int) from rfl, u8_or_nat _ _ (by omega) (by omega), Nat.or_comm, nat_join 7 128 (m % 128) (by decide) (by omega)]
 congr 1
 omega

theorem extend_any (B : Nat) (a : Option Addr) (c : Nat) (l : List Int) (n : Int) (w : World) (h : Own w B 5 .u8 a c l) (hl : l.length ≤ 1099511627776) (hB : B ≤ w.heap.size) :
  Calls Try.prog 32 #[.slice a l.length c, .int .i64 n] w (Gave w B 5 .u8 (l ++ enc n)) := by
 by_cases hn : 0 ≤ n ∧ n ≤ 1000000000000
 ·
  obtain ⟨h0, h1⟩ := hn
  have hin : L1.inB n 0 1000000000000 = true := L1.inB_true.mpr ⟨h0, h1⟩
  obtain ⟨i0, hi, hz0, hz1, hz2⟩ := infoOf _ _ _ _ info8
  obtain ⟨m0, rfl⟩ : ∃ m : Nat, n = m := ⟨n.toNat, by omega⟩
  have HE := Lib.hid (enc_in h0 h1)
  have HL := Lib.hid (enc_len m0)
  have H := Lib.hid h
  clear h
  go_enter Try.func32, Try.ntmps32
  go_wp2_with (go_at_call 49; refine (L1.inRange_any _ _ _ _).mono ?_; rw [hin]; rintro e w' ⟨rfl, rfl⟩)
  go_loopw [0, 1] (fun s v wr => ∃ (m : Nat) (a1 : Option Addr) (c1 : Nat) (l1 : List Int) (n1 : Nat), s = .slice a1 n1 c1 ∧ v = .int .i64 m ∧ m ≤ 1000000000000 ∧ n1 ≤ 1099511627790 ∧ Hid (Own wr B 5 .u8 a1 c1 l1 ∧ Below B w wr ∧ l1 ++ uv m = l ++ enc m0 ∧ n1 = l1.length)) (fun _ v _ => (intOf v).toNat)
  case atStart => exact ⟨m0, a, c, l, l.length, rfl, rfl, by omega, by omega, H.out, Below.refl _ _, by rw [HE.out]; rfl, rfl⟩
  case round =>
   obtain ⟨m, a1, c1, l1, n1, rfl, rfl, hm, hn1, hrel⟩ := hrel
   by_cases hlt : m < 128
   ·
    have hc : ¬ (128 : Int) ≤ m := by omega
    go_wp2_with (at_builtin; refine wpList_append_src _ rfl _ _ 22 rfl B 5 i0 (.int .u8 0) 1 Try.underlying22 hi hz0 hz1 hz2 rfl .u8 a1 n1 c1 l1 rfl hrel.out.2.2.2 (own_alloc hrel.out.1 _) _ _ 1 1 [_] rfl rfl (reads_one _ _ _ _) (by have := hrel.out.2.2.2; simp [maxLen]; omega) (by have := hrel.out.2.2.2; simp; omega) (Nat.le_trans hB (Nat.le_trans hrel.out.2.1.size (by simp))) ?_; intro a2 c2 w2 ho2 hg2)
    go_ret
    obtain ⟨h1, h2, h3, h4⟩ := hrel.out
    refine Gave.mk ?_ (l := l ++ enc m0) ?_ ?_
    ·
     rw [← h3, uv_small hlt]; simp
    ·
     rw [← h3, uv_small hlt]; exact ho2
    ·
     have hb1 := below_alloc h2 (.cells #[.int .u8 m] 5) hB
     exact hb1.trans (below_own (own_alloc h1 _) hg2 (Nat.le_trans hB hb1.size))
   ·
    have hc : (128 : Int) ≤ m := by omega
    go_wp2_with (at_builtin; refine wpList_append_src _ rfl _ _ 22 rfl B 5 i0 (.int .u8 0) 1 Try.underlying22 hi hz0 hz1 hz2 rfl .u8 a1 n1 c1 l1 rfl hrel.out.2.2.2 (own_alloc hrel.out.1 _) _ _ 1 1 [_] rfl rfl (reads_one _ _ _ _) (by have := hrel.out.2.2.2; simp [maxLen]; omega) (by have := hrel.out.2.2.2; simp; omega) (Nat.le_trans hB (Nat.le_trans hrel.out.2.1.size (by simp))) ?_; intro a2 c2 w2 ho2 hg2)
    obtain ⟨h1, h2, h3, h4⟩ := hrel.out
    have hb1 := below_alloc h2 (.cells #[.int .u8 (bits .or .u8 ((m : Int) % 128) 128)] 5) hB
    have hb2 := hb1.trans (below_own (own_alloc h1 _) hg2 (Nat.le_trans hB hb1.size))
    have hle : l1.length + (uv m).length = l.length + (enc m0).length := by rw [← List.length_append, h3, List.length_append]
    have hp := uv_len_pos m
    have he := HL.out
    rw [or_128] at ho2
    have HH := Lib.hid (And.intro ho2 (And.intro hb2 h3))
    clear ho2 hg2 hb1 hb2 h1 h2 h3 h4
    go_roundw
    case rel => exact ⟨m / 128, a2, c2, _, l1.length + 1, rfl, by go_num, by omega, by omega, And.intro HH.out.1 (And.intro HH.out.2.1 (And.intro (by rw [List.append_assoc, ← HH.out.2.2, uv_big hlt]; rfl) (by simp)))⟩
    case measure => simp [intOf]; omega
 ·
  have hout : L1.inB n 0 1000000000000 = false := L1.inB_false.mpr hn
  have HE := Lib.hid (enc_out hn)
  have H := Lib.hid h
  clear h hn
  go_enter Try.func32, Try.ntmps32
  go_wp2_with (go_at_call 49; refine (L1.inRange_any _ _ _ _).mono ?_; rw [hout]; rintro e w' ⟨rfl, rfl⟩)
  go_ret
  refine Gave.mk ?_ ?_ (Below.refl _ _)
  ·
   rw [HE.out, List.append_nil]
  ·
   rw [HE.out, List.append_nil]; exact H.out

theorem take_any (a : Option Addr) (c : Nat) (l : List Int) (s t : Nat) (w : World) (hr : Reads w w.heap.size a (ints .u8 l)) (hc : l.length ≤ c) (hl : l.length ≤ 1099511627776) (hst : s ≤ t) (ht : t ≤ l.length) :
  Calls Try.prog 34 #[.slice a l.length c, .int .i64 s, .int .i64 t] w (Gave w w.heap.size 5 .u8 ((l.drop s).take (t - s))) := by
 obtain ⟨i0, hi, hz0, hz1, hz2⟩ := infoOf _ _ _ _ info8
 obtain ⟨n, hn⟩ : ∃ n, n = l.length := ⟨_, rfl⟩
 rw [← hn] at ht hl hc ⊢
 have hp := (hr.below (below_alloc (Below.refl _ _) (.cells #[] 5) (Nat.le_refl _))).partInts s t t hst (by omega) (Nat.le_refl _)
 have hlen : ((l.drop s).take (t - s)).length = t - s := by simp; omega
 obtain ⟨m, hm⟩ : ∃ m, m = (l.drop s).take (t - s) := ⟨_, rfl⟩
 rw [← hm] at hp hlen ⊢
 have HP := Lib.hid (And.intro hp hlen)
 clear hr hn hm hp hlen
 go_enter Try.func34, Try.ntmps34
 go_wp2_with (at_builtin; refine wpList_append_src _ rfl _ _ 22 rfl w.heap.size 5 i0 (.int .u8 0) 1 Try.underlying22 hi hz0 hz1 hz2 rfl .u8 _ _ _ [] rfl rfl (Own.empty w 5 .u8 (Nat.le_refl _)) w.heap.size _ _ _ m rfl HP.out.2.symm HP.out.1 (by have := HP.out.2; simp [maxLen]; omega) (by have := HP.out.2; simp; omega) (by simp) ?_; intro a2 c2 w2 ho2 hg2)
 all_goals
  go_ret
  refine Gave.mk (by simp) ho2 ?_
  exact (below_alloc (Below.refl _ _) _ (Nat.le_refl _)).trans (below_own (Own.empty w 5 .u8 (Nat.le_refl _)) hg2 (by simp))

theorem implAppendUvarint_any (a : Option Addr) (c : Nat) (l : List Int) (n : Int) (w : World) (hr : Reads w w.heap.size a (ints .u8 l)) (hc : l.length ≤ c) (hl : l.length ≤ 1000000000000) :
  Calls Try.prog 50 #[.slice a l.length c, .int .i64 n] w (Gave w w.heap.size 5 .u8 (l ++ enc n)) := by
 have H1 := Lib.hid (take_any a c l 0 l.length w hr hc (by omega) (by omega) (by omega))
 have e0 : (l.drop 0).take (l.length - 0) = l := by simp
 rw [e0] at H1
 have H2 := fun (a1 : Option Addr) (c1 : Nat) (w1 : World) (h : Own w1 w.heap.size 5 .u8 a1 c1 l) (hs : w.heap.size ≤ w1.heap.size) => extend_any w.heap.size a1 c1 l n w1 h (by omega) hs
 have H3 := Lib.hid H2
 clear H2 hr hc e0
 go_enter Try.func50, Try.ntmps50
 go_wp2_with (first | (go_at_call 34; refine H1.out.mono ?_; rintro e w1 ⟨a1, c1, rfl, ho1, hb1⟩) | (go_at_call 32; refine (H3.out _ _ _ ho1 hb1.size).mono ?_; rintro e w2 ⟨a2, c2, rfl, ho2, hb2⟩))
 go_ret
 exact Gave.mk (by simp) ho2 (hb1.trans hb2)

theorem and_127 (m : Nat) (hm : m < 18446744073709551616) : bits .and .i64 (m : Int) 127 = ((m % 128 : Nat) : Int) := by
 show IntKind.i64.wrap ((BitVec.ofInt 64 (m : Int) &&& BitVec.ofInt 64 127).toNat : Nat) = _
 rw [BitVec.ofInt_natCast, show (127 : Int) = ((127 : Nat) : Int) from rfl, BitVec.ofInt_natCast, BitVec.toNat_and, BitVec.toNat_ofNat, BitVec.toNat_ofNat, Nat.mod_eq_of_lt (by omega), show 127 % 2 ^ 64 = 127 from rfl, nat_mask7, IntKind.wrap_i64]
 omega
theorem implAppendBytes_any (a a2 : Option Addr) (c c2 : Nat) (l m : List Int) (w : World) (hr : Reads w w.heap.size a (ints .u8 l)) (hr2 : Reads w w.heap.size a2 (ints .u8 m)) (hc : l.length ≤ c) (hl : l.length ≤ 1000000000) (hm : m.length ≤ 1000000000) :
  Calls Try.prog 33 #[.slice a l.length c, .slice a2 m.length c2] w (Gave w w.heap.size 5 .u8 (l ++ enc m.length ++ m)) := by
 obtain ⟨i0, hi, hz0, hz1, hz2⟩ := infoOf _ _ _ _ info8
 have H1 := Lib.hid (implAppendUvarint_any a c l m.length w hr hc (by omega))
 have HL := Lib.hid (enc_len m.length)
 have H2 := Lib.hid hr2
 clear hr hr2 hc
 go_enter Try.func33, Try.ntmps33
 go_wp2_with (first | (go_at_call 50; refine H1.out.mono ?_; rintro e w1 ⟨a1, c1, rfl, ho1, hb1⟩) | (at_builtin; refine wpList_append_src _ rfl _ _ 22 rfl w.heap.size 5 i0 (.int .u8 0) 1 Try.underlying22 hi hz0 hz1 hz2 rfl .u8 _ _ _ (l ++ enc m.length) rfl (by simp) ho1 w.heap.size _ _ _ m rfl rfl (H2.out.below hb1) (by have := HL.out; simp [maxLen]; omega) (by have := HL.out; simp; omega) hb1.size ?_; intro a3 c3 w3 ho3 hg3))
 go_ret
 exact Gave.mk (by simp [Nat.add_assoc]) ho3 (hb1.trans (below_own ho1 hg3 hb1.size))
end Go.Proofs.Ytejincmlblpaoaa.L2

namespace Go.Proofs.Ytejincmlblpaoaa.L1
open Go.ChangeShapes Go.WideShapes Go.ChangeAt Go.RowKit

theorem extremes_one (a b : Int) (B : Nat) (w : World) (hc : w.cell? ⟨B, 0, none⟩ = some (.int .i64 b)) :
  Calls Try.prog 51 #[.int .i64 a, .slice (some ⟨B, 0, none⟩) 1 1] w fun e w' => e = .returned (.tuple #[.int .i64 (min a b), .int .i64 (max a b)]) ∧ w = w' := by
 go_enter Try.func51, Try.ntmps51
 go_wp2
 go_loop [14, 6, 7] (fun i l g => (i = .int .i64 0 ∧ l = .int .i64 a ∧ g = .int .i64 a) ∨ (i = .int .i64 1 ∧ l = .int .i64 (min a b) ∧ g = .int .i64 (max a b))) (fun i _ _ => 1 - (intOf i).toNat)
 case atStart => exact Or.inl ⟨rfl, rfl, rfl⟩
 case round =>
  rcases hrel with ⟨rfl, rfl, rfl⟩ | ⟨rfl, rfl, rfl⟩
  ·
   by_cases h1 : b < a <;> by_cases h2 : b > a
   ·
    omega
   all_goals
    go_wp2
    go_round
    case rel => exact Or.inr ⟨by go_num, by congr 1; omega, by congr 1; omega⟩
    case measure => simp [intOf]
  ·
   go_wp2
   go_ret2
   exact ⟨rfl, rfl⟩

end Go.Proofs.Ytejincmlblpaoaa.L1

namespace Go.Proofs.Ytejincmlblpaoaa.L2
open Go.ChangeShapes Go.WideShapes Go.ChangeAt Go.RowKit Mem Sl Ex

def Byt (l : List Int) : Prop := ∀ x ∈ l, 0 ≤ x ∧ x ≤ 255
theorem Byt.get {l : List Int} (h : Byt l) (k : Nat) (hk : k < l.length) : 0 ≤ l[k] ∧ l[k] ≤ 255 := h _ (List.getElem_mem hk)

def RdE (l : List Int) (off : Int) : Ending := .returned (.tuple #[.int .i64 (rdN l off), .int .i64 (rdE l off), .bool (rdB l off)])
theorem RdE.none {l : List Int} {off : Int} (h : rd l off = none) : RdE l off = .returned (.tuple #[.int .i64 0, .int .i64 0, .bool false]) := by
 unfold RdE rdN rdE rdB
 rw [h]; rfl
theorem RdE.some {l : List Int} {off v e : Int} {m : Nat} (h : rd l off = some (v, m)) (he : off + m = e) : RdE l off = .returned (.tuple #[.int .i64 v, .int .i64 e, .bool true]) := by
 unfold RdE
 rw [rdN_of h, rdE_of h, rdB_of h, he]
theorem rd_neg {l : List Int} {off : Int} (h : off < 0) : rd l off = none := by unfold rd; rw [if_neg (by omega)]
theorem rd_beyond {l : List Int} {off : Int} (h : (l.length : Int) ≤ off) : rd l off = none := by
 unfold rd
 rw [if_pos (by omega), List.drop_eq_nil_of_le (by omega)]
 rfl

def Mid (l : List Int) (o k : Nat) (v : Int) : Prop := 0 ≤ v ∧ v < 128 ^ k ∧ rd l o = rdAux k v (l.drop (o + k))
theorem Mid.start (l : List Int) (o : Nat) : Mid l o 0 0 := ⟨by omega, by decide, by
 unfold rd
 rw [if_pos (by omega)]
 simp⟩
theorem Mid.ends {l : List Int} {o k : Nat} {v : Int} (h : Mid l o k v) (hk : l.length ≤ o + k) : rd l o = none := by
 rw [h.2.2, List.drop_eq_nil_of_le hk]; rfl
theorem Mid.six {l : List Int} {o : Nat} {v : Int} (h : Mid l o 6 v) : rd l o = none := by
 rw [h.2.2]
 cases l.drop (o + 6) with
 | nil => rfl
 | cons c s => simp [rdAux]
theorem Mid.cons {l : List Int} {o k : Nat} {v : Int} (h : Mid l o k v) (hk : o + k < l.length) (h6 : k < 6) :
  rd l o = if l[o + k] < 128 then (if (l[o + k] = 0 ∧ 0 < k) ∨ 1000000000000 < v + l[o + k] % 128 * 128 ^ k then none else some (v + l[o + k] % 128 * 128 ^ k, k + 1)) else rdAux (k + 1) (v + l[o + k] % 128 * 128 ^ k) (l.drop (o + (k + 1))) := by
 rw [h.2.2, List.drop_eq_getElem_cons hk, rdAux, if_neg (by omega)]
 rfl
theorem Mid.next {l : List Int} {o k : Nat} {v : Int} (h : Mid l o k v) (hk : o + k < l.length) (h6 : k < 6) (hc : ¬ l[o + k] < 128) : Mid l o (k + 1) (v + l[o + k] % 128 * 128 ^ k) := by
 have hp : (0 : Int) < 128 ^ k := Int.pow_pos (by decide)
 have h1 := Int.mul_nonneg (show 0 ≤ l[o + k] % 128 by omega) (Int.le_of_lt hp)
 have h2 : l[o + k] % 128 * 128 ^ k ≤ 127 * 128 ^ k := Int.mul_le_mul_of_nonneg_right (by omega) (Int.le_of_lt hp)
 obtain ⟨h3, h4, _⟩ := h
 refine ⟨by omega, ?_, ?_⟩
 ·
  rw [Int.pow_succ]
  generalize (128 : Int) ^ k = p at *
  omega
 ·
  rw [Mid.cons ⟨h3, h4, by assumption⟩ hk h6, if_neg hc]

theorem pow7 (k : Nat) : (2 : Int) ^ (7 * k) = 128 ^ k := by rw [Int.pow_mul]; rfl
theorem pow7n (k : Nat) : (2 : Nat) ^ (7 * k) = 128 ^ k := by rw [Nat.pow_mul]
theorem pow_6 (k : Nat) (h : k < 6) : (128 : Nat) ^ k ≤ 34359738368 := by
 have := Nat.pow_le_pow_right (show 0 < 128 by decide) (show k ≤ 5 by omega)
 have e : (128 : Nat) ^ 5 = 34359738368 := by decide
 omega
theorem or_i64 (a b : Nat) (ha : a < 4611686018427387904) (hb : b < 4611686018427387904) : bits .or .i64 (a : Int) (b : Int) = ((a ||| b : Nat) : Int) := by
 show IntKind.i64.wrap ((BitVec.ofInt 64 (a : Int) ||| BitVec.ofInt 64 (b : Int)).toNat : Nat) = _
 have h := Nat.or_lt_two_pow (x := a) (y := b) (n := 62) (by omega) (by omega)
 rw [BitVec.ofInt_natCast, BitVec.ofInt_natCast, BitVec.toNat_or, BitVec.toNat_ofNat, BitVec.toNat_ofNat, Nat.mod_eq_of_lt (by omega), Nat.mod_eq_of_lt (by omega), IntKind.wrap_i64]
 omega
theorem group_in (x y : Int) (k : Nat) (hk : k < 6) (h0 : 0 ≤ x) (h1 : x < 128 ^ k) (h2 : 0 ≤ y) (h3 : y ≤ 255) :
  bits .or .i64 x (wrap64 (bits .and .i64 y 127 * 2 ^ (7 * k))) = x + y % 128 * 128 ^ k := by
 obtain ⟨X, rfl⟩ : ∃ n : Nat, x = n := ⟨x.toNat, by omega⟩
 obtain ⟨Y, rfl⟩ : ∃ n : Nat, y = n := ⟨y.toNat, by omega⟩
 have hp := pow_6 k hk
 have hX : X < 128 ^ k := by
  have e : ((128 ^ k : Nat) : Int) = 128 ^ k := Int.natCast_pow 128 k
  omega
 rw [and_127 Y (by omega), pow7]
 have e1 : ((Y % 128 : Nat) : Int) * 128 ^ k = ((Y % 128 * 128 ^ k : Nat) : Int) := by rw [Int.natCast_mul, Int.natCast_pow]; rfl
 have hb : Y % 128 * 128 ^ k ≤ 127 * 34359738368 := Nat.mul_le_mul (by omega) hp
 rw [e1, IntWalk.wrap64_in _ ⟨by omega, by omega⟩, or_i64 _ _ (by omega) (by omega), Nat.or_comm, nat_join (7 * k) _ X (by rw [pow7n]; exact Nat.mul_mod_left ..) (by rw [pow7n]; exact hX),
  show (Y : Int) % 128 = ((Y % 128 : Nat) : Int) by omega, e1]
 omega

theorem and_u8 (y : Int) (h2 : 0 ≤ y) (h3 : y ≤ 255) : bits .and .u8 y 127 = bits .and .i64 y 127 := by
 obtain ⟨Y, rfl⟩ : ∃ n : Nat, y = n := ⟨y.toNat, by omega⟩
 rw [and_127 Y (by omega), show (127 : Int) = ((127 : Nat) : Int) from rfl, u8_and_nat Y 127 (by omega) (by omega), nat_mask7]
theorem group_in8 (x y : Int) (k : Nat) (hk : k < 6) (h0 : 0 ≤ x) (h1 : x < 128 ^ k) (h2 : 0 ≤ y) (h3 : y ≤ 255) :
  bits .or .i64 x (wrap64 (wrap64 (bits .and .u8 y 127) * 2 ^ (7 * k))) = x + y % 128 * 128 ^ k := by
 have e : wrap64 (bits .and .u8 y 127) = bits .and .u8 y 127 := by
  obtain ⟨Y, rfl⟩ : ∃ n : Nat, y = n := ⟨y.toNat, by omega⟩
  rw [and_u8 _ h2 h3, and_127 Y (by omega)]
  exact IntWalk.wrap64_in _ ⟨by omega, by omega⟩
 rw [e, and_u8 y h2 h3]; exact group_in x y k hk h0 h1 h2 h3

theorem minB_any (a b : Int) (w : World) :
  Calls Try.prog 35 #[.int .i64 a, .int .i64 b] w fun e w' => e = .returned (.int .i64 (min a b)) ∧ Below w.heap.size w w' := by
 have hc : (w.alloc (.cells #[.int .i64 b] 3)).cell? ⟨w.heap.size, 0, none⟩ = some (.int .i64 b) := by simp [go_sem]
 go_enter Try.func35, Try.ntmps35
 go_wp2_with (go_at_call 51; refine (L1.extremes_one _ _ _ _ hc).mono ?_; rintro e w' ⟨rfl, rfl⟩)
 go_ret
 exact ⟨rfl, by repeat (first | exact Below.refl _ _ | apply Below.drew | (refine Below.alloc ?_ (by simp) _))⟩
set_option maxHeartbeats 600000 in
theorem implRead_any (a : Option Addr) (c : Nat) (l : List Int) (off : Int) (w : World) (B : Nat) (hB : B ≤ w.heap.size) (hr : Reads w B a (ints .u8 l)) (hb : Byt l) (hc : l.length ≤ c) (hl : l.length ≤ 1099511627776) (ho1 : -9223372036854775808 ≤ off) (ho2 : off ≤ 9223372036854775807) :
  Calls Try.prog 38 #[.slice a l.length c, .int .i64 off] w fun e w' => e = RdE l off ∧ Below w.heap.size w w' := by
 obtain ⟨n, hn⟩ : ∃ n, n = l.length := ⟨_, rfl⟩
 have hl' : n ≤ 1099511627776 := by omega
 rw [← hn]
 have hc' : n ≤ c := by omega
 have HN := Lib.hid hn
 by_cases h0 : off < 0 ∨ (n : Int) < off
 ·
  have hin : L1.inB off 0 n = false := L1.inB_false.mpr (by omega)
  have HR := Lib.hid (show rd l off = none by rcases h0 with h | h; exact rd_neg h; exact rd_beyond (by omega))
  clear hr hb hl hn hc h0
  go_enter Try.func38, Try.ntmps38
  go_wp2_with (go_at_call 49; refine (L1.inRange_any _ _ _ _).mono ?_; rw [hin]; rintro e w' ⟨rfl, rfl⟩)
  go_ret3
  exact ⟨(RdE.none HR.out).symm, Below.refl _ _⟩
 ·
  obtain ⟨o, rfl⟩ : ∃ o : Nat, off = o := ⟨off.toNat, by omega⟩
  have hon : o ≤ n := by omega
  have hin : L1.inB (o : Int) 0 n = true := L1.inB_true.mpr (by omega)
  obtain ⟨t, ht⟩ : ∃ t : Nat, t = min (o + 6) n := ⟨_, rfl⟩
  have hmin : min ((o : Int) + 6) n = (t : Int) := by omega
  have hto : o ≤ t := by omega
  have htn : t ≤ n := by omega
  have hp := hr.partInts o t c hto (by omega) (by omega)
  obtain ⟨A, hA⟩ : ∃ A, (if c = o then a else a.map (·.add o)) = A := ⟨_, rfl⟩
  obtain ⟨p, hpl⟩ : ∃ p, p = (l.drop o).take (t - o) := ⟨_, rfl⟩
  rw [hA, ← hpl] at hp
  obtain ⟨m, hm⟩ : ∃ m, t - o = m := ⟨_, rfl⟩
  have hplen : p.length = m := by rw [hpl, ← hm]; simp; omega
  have HP := Lib.hid (And.intro hp (And.intro hplen hpl))
  have HT := Lib.hid ht
  have HM0 := Lib.hid hm
  have H := Lib.hid (And.intro hr hb)
  clear hr hb hl hn hc h0 hpl hplen hp ht
  go_enter Try.func38, Try.ntmps38
  go_wp2_with (first | (go_at_call 49; refine (L1.inRange_any _ _ _ _).mono ?_; rw [hin]; rintro e w' ⟨rfl, rfl⟩) | (go_at_call 35; refine (minB_any _ _ _).mono ?_; rw [hmin]; rintro e w1 ⟨rfl, hb1⟩))
  have HP1 := Lib.hid (HP.out.1.below (hb1.mono hB))
  have HB1 := Lib.hid hb1
  clear hb1 hmin hin
  go_loop [7, 25] (fun v i => ∃ (k : Nat) (x : Int), k ≤ m ∧ i = .int .i64 k ∧ v = .int .i64 x ∧ Hid (Mid l o k x)) (fun _ i => m - (intOf i).toNat)
  case atStart => exact ⟨0, 0, by omega, rfl, rfl, Mid.start l o⟩
  case round =>
   obtain ⟨k, x, hk, rfl, rfl, hrel⟩ := hrel
   by_cases hlt : k < m
   ·
    have hk5 : k < 6 := by have := HT.out; have := HM0.out; omega
    have hol : o + k < l.length := by have := HT.out; have := HM0.out; have := HN.out; omega
    have HOL := Lib.hid hol
    obtain ⟨ad, rfl, -, hcell⟩ := HP1.out.int k (by rw [HP.out.2.1]; exact hlt)
    have hpk : p[k]'(by rw [HP.out.2.1]; exact hlt) = l[o + k]'hol := by
     have e : ∀ (q : List Int) (h : k < q.length), q = (l.drop o).take (t - o) → q[k]'h = l[o + k]'hol := by
      rintro q h rfl
      rw [List.getElem_take, List.getElem_drop]
     exact e p _ HP.out.2.2
    rw [hpk] at hcell
    have hby := H.out.2.get (o + k) hol
    have HM := Lib.hid (hrel.out.cons hol hk5)
    obtain ⟨y, hy⟩ : ∃ y, y = l[o + k]'hol := ⟨_, rfl⟩
    rw [← hy] at hcell hby HM
    have HY := Lib.hid hy
    clear hy hpk
    obtain ⟨hy0, hy1⟩ := hby
    have HG := Lib.hid (group_in8 x y k hk5 hrel.out.1 hrel.out.2.1 hy0 hy1)
    obtain ⟨z, hz⟩ : ∃ z, z = x + y % 128 * 128 ^ k := ⟨_, rfl⟩
    have HZ := Lib.hid hz
    clear hz
    have hzn : 0 ≤ z := by
     have := Int.mul_nonneg (show 0 ≤ y % 128 by omega) (Int.le_of_lt (Int.pow_pos (show (0 : Int) < 128 by decide) : 0 < (128 : Int) ^ k))
     have := HZ.out
     have := hrel.out.1
     omega
    by_cases hy2 : y < 128
    ·
     by_cases hk0 : k = 0
     ·
      subst hk0
      have hx0 : x = 0 := by have := hrel.out.1; have := hrel.out.2.1; simp at this; omega
      subst hx0
      have hz1 : z = y := by
       rw [HZ.out, Int.pow_zero, Int.mul_one, Int.zero_add]
       omega
      subst hz1
      have hn128 : ¬ (128 ≤ z) := by omega
      have hzm : ¬ (1000000000000 < z) := by omega
      have hg := HG.out
      rw [← HZ.out, Nat.mul_zero, Int.pow_zero, Int.mul_one] at hg
      have hcell0 : w1.cell? ad = some (.int .u8 z) := by simpa [Addr.add] using hcell
      go_wp2
      clear hg
      go_ret3
      refine ⟨(RdE.some (m := 1) ?_ (by omega)).symm, HB1.out⟩
      rw [HM.out, if_pos (by omega), if_neg (by rw [← HZ.out]; omega), ← HZ.out]
     ·
      have hkp : ((k : Int) == 0) = false := by simp; omega
      have hkn : (k == 0) = false := by simp; omega
      by_cases hy3 : y = 0
      ·
       subst hy3
       go_wp2
       go_ret3
       refine ⟨(RdE.none ?_).symm, HB1.out⟩
       rw [HM.out, if_pos (by omega), if_pos (Or.inl (And.intro (by simp) (by omega)))]
      ·
       have hg := HG.out
       rw [← HZ.out] at hg
       have hne : (y == 0) = false := by simpa using hy3
       have hne' : (y != 0) = true := by simpa using hy3
       have hn128 : ¬ (128 ≤ y) := by omega
       by_cases hzm : z ≤ 1000000000000
       ·
        go_wp2
        clear hg
        go_ret3
        refine ⟨(RdE.some (m := k + 1) ?_ (by omega)).symm, HB1.out⟩
        rw [HM.out, if_pos hy2, if_neg (by rw [← HZ.out]; omega), ← HZ.out]
       ·
        have hzm' : 1000000000000 < z := by omega
        go_wp2
        go_ret3
        refine ⟨(RdE.none ?_).symm, HB1.out⟩
        rw [HM.out, if_pos hy2, if_pos (.inr (by rw [← HZ.out]; omega))]
    ·
     have hg := HG.out
     rw [← HZ.out] at hg
     have hn128 : 128 ≤ y := by omega
     have HX := Lib.hid (hrel.out.next HOL.out hk5 (by rw [← HY.out]; exact hy2))
     go_wp2
     go_round
     case rel => exact ⟨k + 1, z, by omega, by go_num, rfl, by rw [HZ.out, HY.out]; exact HX.out⟩
     case measure => simp [intOf]; omega
   ·
    go_wp2
    go_ret3
    refine ⟨(RdE.none ?_).symm, HB1.out⟩
    have h1 := HT.out
    have h2 := HM0.out
    by_cases h6 : k = 6
    ·
     subst h6
     exact hrel.out.six
    ·
     exact hrel.out.ends (by have := HN.out; omega)
end Go.Proofs.Ytejincmlblpaoaa.L2

namespace Go.Proofs.Ytejincmlblpaoaa.L2
open Go.ChangeShapes Go.WideShapes Go.ChangeAt Go.RowKit Mem Sl Ex

def rbB (l : List Int) (off most : Int) : Bool := rdB l off && decide (rdN l off ≤ most) && decide (rdN l off ≤ (l.length : Int) - rdE l off)
def rbL (l : List Int) (off most : Int) : List Int := if rbB l off most = true then (l.drop (rdE l off).toNat).take (rdN l off).toNat else []
def rbE (l : List Int) (off most : Int) : Int := if rbB l off most = true then rdE l off + rdN l off else 0
theorem rb_no {l : List Int} {off most : Int} (h : rbB l off most = false) : rbL l off most = [] ∧ rbE l off most = 0 := by
 unfold rbL rbE
 rw [h]
 exact ⟨rfl, rfl⟩
theorem rb_yes {l : List Int} {off most : Int} (h : rbB l off most = true) : rbL l off most = (l.drop (rdE l off).toNat).take (rdN l off).toNat ∧ rbE l off most = rdE l off + rdN l off := by
 unfold rbL rbE
 rw [h]
 exact ⟨rfl, rfl⟩

def GaveT (w : World) (B : Nat) (e : TypeId) (k : IntKind) (l : List Int) (v : Int) (b : Bool) (en : Ending) (w' : World) : Prop := ∃ a c, en = .returned (.tuple #[.slice a l.length c, .int .i64 v, .bool b]) ∧ Own w' B e k a c l ∧ Below B w w'
theorem GaveT.mk {w w' : World} {B : Nat} {e : TypeId} {k : IntKind} {l : List Int} {v v' : Int} {b b' : Bool} {a : Option Addr} {c n : Nat} (hn : n = l.length) (hv : v' = v) (hb : b' = b) (ho : Own w' B e k a c l) (hw : Below B w w') :
  GaveT w B e k l v b (.returned (.tuple #[.slice a n c, .int .i64 v', .bool b'])) w' := ⟨a, c, by rw [hn, hv, hb], ho, hw⟩

theorem implReadB_any (a : Option Addr) (c : Nat) (l : List Int) (off : Int) (w : World) (B : Nat) (hB : B ≤ w.heap.size) (hr : Reads w B a (ints .u8 l)) (hb : Byt l) (hc : l.length ≤ c) (hl : l.length ≤ 1099511627776) (ho1 : -9223372036854775808 ≤ off) (ho2 : off ≤ 9223372036854775807) :
  Calls Try.prog 38 #[.slice a l.length c, .int .i64 off] w fun e w' => e = RdE l off ∧ Below w.heap.size w w' :=
 implRead_any a c l off w B hB hr hb hc hl ho1 ho2

set_option maxHeartbeats 400000 in
theorem implReadBytes_any (a : Option Addr) (c : Nat) (l : List Int) (off most : Int) (w : World) (hr : Reads w w.heap.size a (ints .u8 l)) (hb : Byt l) (hc : l.length ≤ c) (hl : l.length ≤ 1099511627776) (ho1 : -9223372036854775808 ≤ off) (ho2 : off ≤ 9223372036854775807) :
  Calls Try.prog 37 #[.slice a l.length c, .int .i64 off, .int .i64 most] w (GaveT w w.heap.size 5 .u8 (rbL l off most) (rbE l off most) (rbB l off most)) := by
 obtain ⟨i0, hi, hz0, hz1, hz2⟩ := infoOf _ _ _ _ info8
 have hbd := rd_bounds hb off
 have HC := Lib.hid (implReadB_any a c l off w w.heap.size (Nat.le_refl _) hr hb hc hl ho1 ho2)
 unfold RdE at HC
 have HR := Lib.hid (And.intro hr (And.intro hb hc))
 obtain ⟨N, hN⟩ : ∃ N, N = rdN l off := ⟨_, rfl⟩
 obtain ⟨E, hE⟩ : ∃ E, E = rdE l off := ⟨_, rfl⟩
 obtain ⟨b, hbb⟩ : ∃ b, b = rdB l off := ⟨_, rfl⟩
 obtain ⟨n, hn⟩ : ∃ n, n = l.length := ⟨_, rfl⟩
 rw [← hN, ← hE, ← hbb, ← hn] at HC
 rw [← hN, ← hE, ← hn] at hbd
 rw [← hn] at hl hc ⊢
 have hz : b = false → N = 0 ∧ E = 0 := fun h => by rw [hN, hE]; exact rd_none (by rw [← hbb]; exact h)
 have hyes : ∀ (x : Bool), x = (b && decide (N ≤ most) && decide (N ≤ (n : Int) - E)) → rbB l off most = x := fun x hx => by rw [hx, hN, hE, hbb, hn]; rfl
 have HE := Lib.hid (And.intro hN (And.intro hE (And.intro hn hyes)))
 clear hr hb hN hE hbb hn hyes
 obtain ⟨hN0, hN1, hE0, hE1⟩ := hbd
 have hemp := fun w1 => Own.empty (B := w.heap.size) w1 5 .u8
 have HM := Lib.hid hemp
 clear hemp
 have hno : ∀ (w1 : World), Below w.heap.size w w1 → rbB l off most = false → GaveT w w.heap.size 5 .u8 (rbL l off most) (rbE l off most) (rbB l off most) (.returned (.tuple #[.slice (some ⟨w1.heap.size, 0, none⟩) 0 0, .int .i64 0, .bool false])) (w1.alloc (.cells #[] 5)) := fun w1 hb1 h => by
  obtain ⟨h1, h2⟩ := rb_no h
  rw [h, h1, h2]
  exact GaveT.mk rfl rfl rfl (HM.out w1 hb1.size) (below_alloc hb1 _ (Nat.le_refl _))
 have HNO := Lib.hid hno
 clear hno
 cases b with
 | false =>
  obtain ⟨hN', hE'⟩ := hz rfl
  clear hz
  subst hN' hE'
  go_enter Try.func37, Try.ntmps37
  go_wp2_with (go_at_call 38; refine HC.out.mono ?_; rintro e w1 ⟨rfl, hb1⟩)
  go_ret3
  exact HNO.out _ hb1 (HE.out.2.2.2 false rfl)
 | true =>
  clear hz
  by_cases h1 : N ≤ most
  ·
   by_cases h2 : N ≤ (n : Int) - E
   ·
    obtain ⟨N', rfl⟩ : ∃ k : Nat, N = k := ⟨N.toNat, by omega⟩
    obtain ⟨E', rfl⟩ : ∃ k : Nat, E = k := ⟨E.toNat, by omega⟩
    have hB1 := HE.out.2.2.2 true (by rw [decide_eq_true h1, decide_eq_true h2]; rfl)
    obtain ⟨h3, h4⟩ := rb_yes hB1
    have e3 : rbL l off most = (l.drop E').take (E' + N' - E') := by
     rw [h3, ← HE.out.1, ← HE.out.2.1]
     congr 1
     omega
    have e4 : rbE l off most = (E' : Int) + N' := by rw [h4, ← HE.out.1, ← HE.out.2.1]
    have H3 := Lib.hid e3
    have H4 := Lib.hid e4
    have H1 := Lib.hid hB1
    clear h3 h4 hB1 e3 e4
    have hlen : (rbL l off most).length = N' := by rw [H3.out]; have := HE.out.2.2.1; simp; omega
    have HLEN := Lib.hid hlen
    clear hlen
    obtain ⟨T, hT⟩ : ∃ T : Nat, T = E' + N' := ⟨_, rfl⟩
    have hend : (E' : Int) + (N' : Int) = (T : Int) := by omega
    have HTK := Lib.hid (fun (w1 : World) (h : Below w.heap.size w w1) => take_any a c l E' T w1 ((HR.out.1.below h).more h.size) (by have := HE.out.2.2.1; omega) (by have := HE.out.2.2.1; omega) (by omega) (by have := HE.out.2.2.1; omega))
    rw [← HE.out.2.2.1, hT, ← H3.out, ← hT] at HTK
    have HLEN2 := Lib.hid hT
    clear hT
    go_enter Try.func37, Try.ntmps37
    go_wp2_with (first | (go_at_call 38; refine HC.out.mono ?_; rintro e w1 ⟨rfl, hb1⟩) | (go_at_call 34; refine (HTK.out _ hb1).mono ?_; rintro e w2 ⟨a2, c2, rfl, ho2, hb2⟩))
    go_ret3
    refine GaveT.mk rfl ?_ H1.out.symm (ho2.base hb1.size) (hb1.trans (hb2.mono hb1.size))
    rw [H4.out]; omega
   ·
    have hf := HNO.out
    have HF := Lib.hid (HE.out.2.2.2 false (by rw [decide_eq_false h2]; simp))
    clear hf
    go_enter Try.func37, Try.ntmps37
    go_wp2_with (go_at_call 38; refine HC.out.mono ?_; rintro e w1 ⟨rfl, hb1⟩)
    go_ret3
    exact HNO.out _ hb1 HF.out
  ·
   have HF := Lib.hid (HE.out.2.2.2 false (by rw [decide_eq_false h1]; simp))
   go_enter Try.func37, Try.ntmps37
   go_wp2_with (go_at_call 38; refine HC.out.mono ?_; rintro e w1 ⟨rfl, hb1⟩)
   go_ret3
   exact HNO.out _ hb1 HF.out
def dc (l : List Int) : Int → Nat → Option (List Int × Int)
 | off, 0 => some ([], off)
 | off, n + 1 => match rd l off with
  | none => none
  | some (v, m) => (dc l (off + m) n).map fun p => (v :: p.1, p.2)
def DcMid (l : List Int) (off : Int) (n k : Nat) (acc : List Int) (o : Int) : Prop := acc.length = k ∧ dc l off n = (dc l o (n - k)).map fun p => (acc ++ p.1, p.2)
theorem DcMid.start (l : List Int) (off : Int) (n : Nat) : DcMid l off n 0 [] off := ⟨rfl, by simp⟩
theorem DcMid.none {l : List Int} {off : Int} {n k : Nat} {acc : List Int} {o : Int} (h : DcMid l off n k acc o) (hk : k < n) (hr : rdB l o = false) : dc l off n = none := by
 rw [h.2, show n - k = (n - (k + 1)) + 1 by omega, dc]
 have e : rd l o = Option.none := by
  unfold rdB at hr
  cases hh : rd l o with
  | none => rfl
  | some p => rw [hh] at hr; cases hr
 rw [e]
 rfl
theorem DcMid.next {l : List Int} {off : Int} {n k : Nat} {acc : List Int} {o : Int} (h : DcMid l off n k acc o) (hk : k < n) (hr : rdB l o = true) : DcMid l off n (k + 1) (acc ++ [rdN l o]) (rdE l o) := by
 obtain ⟨h1, h2⟩ := rd_some hr
 refine ⟨by simp [h.1], ?_⟩
 rw [h.2, show n - k = (n - (k + 1)) + 1 by omega, dc, h1]
 simp only [Option.map_map]
 rw [show o + ((rdE l o - o).toNat : Int) = rdE l o by omega]
 congr 1
 funext p
 simp
end Go.Proofs.Ytejincmlblpaoaa.L2

namespace Go.Proofs.Ytejincmlblpaoaa.Sd
open Go.ChangeShapes Go.WideShapes Go.ChangeAt Go.RowKit Mem Sl Ex Draw L2

section
variable {W w w' : World} {rs ts : List Res} {r : Res}
theorem Sep_of {rs' : List Res} (h : Sep W w rs) (f : Nat → Nat) (hinj : ∀ i j, f i = f j → i = j) (hf : ∀ i s, rs'[i]? = some s → rs[f i]? = some s) : Sep W w rs' :=
 ⟨h.old, fun i s hi => h.is _ s (hf i s hi), fun i s hi => h.lies _ s (hf i s hi), fun i j s t hi hj hne => h.apart _ _ s t (hf i s hi) (hf j t hj) (fun e => hne (hinj _ _ e))⟩
theorem drop (h : Sep W w (rs ++ r :: ts)) : Sep W w (rs ++ ts) := by
 refine Sep_of h (fun i => if i < rs.length then i else i + 1) (fun i j e => ?_) (fun i s hi => ?_)
 ·
  split at e <;> split at e <;> omega
 ·
  by_cases hl : i < rs.length
  ·
   rw [if_pos hl, List.getElem?_append_left hl]
   rw [List.getElem?_append_left hl] at hi
   exact hi
  ·
   rw [if_neg hl]
   rw [List.getElem?_append_right (by omega)] at hi ⊢
   rw [show i + 1 - rs.length = (i - rs.length) + 1 by omega, List.getElem?_cons_succ]
   exact hi
end

section
variable {W w : World} {rs : List Res} {F : Nat} {args : Array Value} {e : TypeId} {k : IntKind}
end

section
variable {W w : World} {rs : List Res} {a : Option Addr} {len : Nat}
theorem big_s (cap : Nat) (h : Sep W w rs) :
  Calls Try.prog 10 #[.slice a len cap] w fun e w' => e = .returned (.bool (decide (len > 1048576))) ∧ Sep W w' rs := by
 have H := Lib.hid h
 clear h
 by_cases h : (len : Int) > 1048576
 ·
  have h' : decide (len > 1048576) = true := decide_eq_true (by omega)
  rw [h']
  go_enter Try.func10, Try.ntmps10
  go_wp2
  go_ret
  exact ⟨rfl, H.out⟩
 ·
  have h' : decide (len > 1048576) = false := decide_eq_false (by omega)
  rw [h']
  go_enter Try.func10, Try.ntmps10
  go_wp2
  go_ret
  exact ⟨rfl, H.out⟩
theorem at_s (cap : Nat) (hl : len ≤ 1048576) (hby : Bytes W W.heap.size a len) (h : Sep W w rs) (i : Int) (h0 : 0 ≤ i) (h1 : i ≤ 1000000) :
  Calls Try.prog 11 #[.slice a len cap, .int .i64 i] w fun e w' => ∃ n, e = .returned (.int .i64 n) ∧ (0 ≤ n ∧ n ≤ 255) ∧ Sep W w' rs := by
 have H := Lib.hid h
 obtain ⟨j, rfl⟩ : ∃ j : Nat, i = j := ⟨i.toNat, by omega⟩
 by_cases hlt : j < len
 ·
  obtain ⟨ad, n, rfl, -, hc, hn0, hn1⟩ := (hby.below h.old) j hlt
  clear h hby
  go_enter Try.func11, Try.ntmps11
  go_wp2
  go_ret
  exact ⟨_, rfl, ⟨hn0, hn1⟩, by first | exact H.out | exact H.out.drews _⟩
 ·
  clear h hby
  go_enter Try.func11, Try.ntmps11
  go_wp2
  go_ret
  exact ⟨_, rfl, by first | omega | (constructor <;> omega), by first | exact H.out | exact H.out.drews _⟩
end

section
variable {W w : World} {rs : List Res}
theorem sameBytes_s (h : Sep W w rs) {a a2 : Option Addr} {l m : List Int} (n n2 c c2 : Nat) (B : Nat) (hn : n = l.length) (hn2 : n2 = m.length) (hr : Reads w B a (ints .u8 l)) (hr2 : Reads w B a2 (ints .u8 m)) (he : l = m) (hl : l.length ≤ 1099511627776) :
  Calls Try.prog 15 #[.slice a n c, .slice a2 n2 c2] w fun e w' => e = .returned (.bool true) ∧ Sep W w' rs := by
 subst he
 subst hn
 subst hn2
 exact (sameBytes_any a a2 c c2 l l w B hr hr2 (by omega) (by omega)).mono fun _ _ ⟨he, hd⟩ => ⟨by rw [he, eqB_true rfl], Law.Sep.drew h hd⟩
end

section
variable {W w : World} {rs : List Res} {a : Option Addr} {len : Nat}
end
end Go.Proofs.Ytejincmlblpaoaa.Sd

namespace Go.Proofs.Ytejincmlblpaoaa.L3

def hstep (d v : Int) : Int := (d * 1000003 + v % 2147483647 + 13) % 2147483647
def hfold (d : Int) (l : List Int) : Int := l.foldl hstep d
def hs (l : List Int) : Int := hfold 11 l
def kh (k : Int) (l : List Int) : Int := hs (k :: (l ++ [k]))
theorem hstep_range (d v : Int) : 0 ≤ hstep d v ∧ hstep d v < 2147483647 := by unfold hstep; omega
theorem hfold_range {d : Int} (h : 0 ≤ d ∧ d < 2147483647) : ∀ l, 0 ≤ hfold d l ∧ hfold d l < 2147483647
 | [] => h
 | v :: l => hfold_range (hstep_range d v) l
def encB (k : Int) (i : Nat) (b : Int) : Int := (b + kh k [(i : Int)] % 256) % 256
def decB (k : Int) (i : Nat) (b : Int) : Int := (b - kh k [(i : Int)] % 256) % 256
def encL (k : Int) (l : List Int) : List Int := l.mapIdx (encB k)
def decL (k : Int) (l : List Int) : List Int := l.mapIdx (decB k)
@[simp] theorem encL_length (k : Int) (l : List Int) : (encL k l).length = l.length := by simp [encL]
@[simp] theorem decL_length (k : Int) (l : List Int) : (decL k l).length = l.length := by simp [decL]
def b2i (l : List Int) : List Int := (l.length : Int) :: l
end Go.Proofs.Ytejincmlblpaoaa.L3

namespace Go.Proofs.Ytejincmlblpaoaa.L11
open L2 L3
def sumI (n : Int) (d : List Int) : Int := hs (101 :: n :: b2i d)
def entL (n : Int) (d : List Int) : List Int := enc d.length ++ d ++ enc (sumI n d)
def appB (log : List Int) (n : Int) (d : List Int) : Bool := !(decide (n < 0)) && decide ((log ++ entL n d).length ≤ 4000)
def appL (log : List Int) (n : Int) (d : List Int) : List Int := if appB log n d then log ++ entL n d else log
def stepL (log : List Int) (k : Nat) (p : Int) : Option (List Int × Int) :=
 if rbB log p 4000 && (rdB log (rbE log p 4000) && rdN log (rbE log p 4000) == sumI k (rbL log p 4000)) then some (rbL log p 4000, rdE log (rbE log p 4000)) else none
def runL : Nat → List Int → List (List Int) → Int → List (List Int) × Int
 | 0, _, out, p => (out, p)
 | f + 1, log, out, p => if p < log.length then (match stepL log out.length p with
   | none => (out, p)
   | some (d, q) => runL f log (out ++ [d]) q) else (out, p)
def readL (log : List Int) : List (List Int) × Int := runL (log.length + 1) log [] 0
def crashL (log : List Int) (n : Int) (g : List Int) : List Int := log.take (max 0 (min n log.length)).toNat ++ g
def repL (log : List Int) : List Int := log.take (readL log).2.toNat
def cntL (log : List Int) : Nat := (readL log).1.length

theorem sum_range (n : Int) (d : List Int) : 0 ≤ sumI n d ∧ sumI n d < 2147483647 := hfold_range (by omega) _
theorem stepL_some {log : List Int} (hb : ∀ x ∈ log, 0 ≤ x ∧ x ≤ 255) {k : Nat} {p : Int} {d : List Int} {q : Int} (h : stepL log k p = some (d, q)) :
  0 ≤ p ∧ p < q ∧ q ≤ log.length ∧ d.length ≤ 4000 ∧ (log.drop p.toNat).take (q - p).toNat = entL k d := by
 unfold stepL at h
 split at h
 ·
  rename_i hc
  rw [Bool.and_eq_true, Bool.and_eq_true] at hc
  obtain ⟨h1, h2, h3⟩ := hc
  obtain ⟨e1, e2⟩ := rb_yes h1
  have h1' := h1
  unfold rbB at h1'
  simp only [Bool.and_eq_true, decide_eq_true_eq] at h1'
  obtain ⟨⟨g1, g2⟩, g3⟩ := h1'
  obtain ⟨r1, r2⟩ := rd_some g1
  obtain ⟨o1, o2, o3, o4, o5, o6, o7⟩ := rd_out hb r1
  obtain ⟨s1, s2⟩ := rd_some h2
  obtain ⟨t1, t2, t3, t4, t5, t6, t7⟩ := rd_out hb s1
  have h3' : rdN log (rbE log p 4000) = sumI k (rbL log p 4000) := by simpa using h3
  injection h with h
  injection h with hd hq
  subst hd
  subst hq
  have hlen : (rbL log p 4000).length = (rdN log p).toNat := by rw [e1, List.length_take, List.length_drop]; omega
  refine ⟨o1, by omega, by omega, by omega, ?_⟩
  unfold entL
  rw [hlen, show (((rdN log p).toNat : Nat) : Int) = rdN log p by omega, ← h3', ← t7, ← o7, e1]
  have hsum : (rdE log (rbE log p 4000) - p).toNat = (rdE log p - p).toNat + ((rdN log p).toNat + (rdE log (rbE log p 4000) - rbE log p 4000).toNat) := by omega
  rw [hsum, List.take_add, List.take_add, List.drop_drop, List.drop_drop, List.append_assoc]
  rw [show p.toNat + (rdE log p - p).toNat = (rdE log p).toNat by omega, show (rdE log p).toNat + (rdN log p).toNat = (rbE log p 4000).toNat by omega]
 ·
  cases h
end Go.Proofs.Ytejincmlblpaoaa.L11

namespace Go.Proofs.Ytejincmlblpaoaa.L1
open Go.ChangeShapes Go.WideShapes Go.ChangeAt Go.RowKit

def modV (p q : Int) : Int := if inB q 1 1000000000000 then p % q else 0



theorem emod_neg (p q : Int) (h1 : 1 ≤ q) (h : p.tmod q < 0) : p.tmod q + q = p % q := by
 have h2 := Int.emod_nonneg p (show q ≠ 0 by omega)
 have hq : (q.natAbs : Int) = q := by omega
 rw [Int.tmod_eq_emod] at h ⊢
 by_cases hc : 0 ≤ p ∨ q ∣ p
 ·
  rw [if_pos hc] at h; omega
 ·
  rw [if_neg hc] at h ⊢; omega
theorem emod_pos (p q : Int) (h1 : 1 ≤ q) (h : 0 ≤ p.tmod q) : p.tmod q = p % q := by
 have h2 := Int.emod_lt_of_pos p (show 0 < q by omega)
 have hq : (q.natAbs : Int) = q := by omega
 rw [Int.tmod_eq_emod] at h ⊢
 by_cases hc : 0 ≤ p ∨ q ∣ p
 ·
  rw [if_pos hc]; simp
 ·
  rw [if_neg hc] at h; omega

theorem implMod_any (p q : Int) (w : World) :
  Calls Try.prog 55 #[.int .i64 p, .int .i64 q] w fun e w' => e = .returned (.int .i64 (modV p q)) ∧ w = w' := by
 cases hb : inB q 1 1000000000000
 case true =>
  obtain ⟨h3, h4⟩ := inB_true.mp hb
  have g1 := Int.lt_tmod_of_pos p (show 0 < q by omega)
  have g2 := Int.tmod_lt_of_pos p (show 0 < q by omega)
  by_cases hs : p.tmod q < 0
  ·
   go_enter Try.func55, Try.ntmps55
   go_wp2_with (go_at_call 49; refine (inRange_any _ _ _ _).mono ?_; rintro e w' ⟨rfl, rfl⟩)
   go_ret
   exact ⟨ret_int (by unfold modV; simp [hb]; exact emod_neg p q h3 hs), rfl⟩
  ·
   replace hs : 0 ≤ p.tmod q := by omega
   go_enter Try.func55, Try.ntmps55
   go_wp2_with (go_at_call 49; refine (inRange_any _ _ _ _).mono ?_; rintro e w' ⟨rfl, rfl⟩)
   go_ret
   exact ⟨ret_int (by unfold modV; simp [hb]; exact emod_pos p q h3 hs), rfl⟩
 case false =>
  go_enter Try.func55, Try.ntmps55
  go_wp2_with (go_at_call 49; refine (inRange_any _ _ _ _).mono ?_; rintro e w' ⟨rfl, rfl⟩)
  go_ret
  exact ⟨ret_int (by unfold modV; simp [hb]), rfl⟩

end Go.Proofs.Ytejincmlblpaoaa.L1

namespace Go.Proofs.Ytejincmlblpaoaa.L3
open Go.ChangeShapes Go.WideShapes Go.ChangeAt Go.RowKit Mem Sl Ex L2

theorem info64h : (Try.prog.info? 3).map (fun i => (i.zero, i.size, i.bytes)) = some (some (.int .i64 0), 1, 8) := by kernel_rfl
theorem modM (v : Int) : L1.modV v 2147483647 = v % 2147483647 := by
 unfold L1.modV
 rw [if_pos (L1.inB_true.mpr ⟨by omega, by omega⟩)]
theorem own_lit (w : World) (e : TypeId) (k : IntKind) (l : List Int) {B : Nat} (hB : B ≤ w.heap.size) (hl : l.length ≤ maxLen) : Own (w.alloc (.cells (ints k l).toArray e)) B e k (some ⟨w.heap.size, 0, none⟩) l.length l :=
 ⟨by simp, .inr ⟨w.heap.size, l.length, (ints k l).toArray, rfl, hB, heap_alloc_new w _, Nat.le_refl _, hl, by simp, by rw [Nat.mul_one]; exact List.take_of_length_le (by simp)⟩⟩
theorem hfold_take (d : Int) (l : List Int) (k : Nat) (h : k < l.length) : hfold d (l.take (k + 1)) = hstep (hfold d (l.take k)) l[k] := by
 rw [List.take_succ_eq_append_getElem h]; unfold hfold; rw [List.foldl_append]; rfl
theorem fold_any (a : Option Addr) (c : Nat) (l : List Int) (d : Int) (w : World) (B : Nat) (hr : Reads w B a (ints .i64 l)) (hl : l.length ≤ 1099511627776) (hd : 0 ≤ d ∧ d < 2147483647) :
  Calls Try.prog 53 #[.int .i64 d, .slice a l.length c] w fun e w' => e = .returned (.int .i64 (hfold d l)) ∧ w = w' := by
 obtain ⟨n, hn⟩ : ∃ n, n = l.length := ⟨_, rfl⟩
 have hl' : n ≤ 1099511627776 := by omega
 rw [← hn]
 have HN := Lib.hid hn
 have H := Lib.hid hr
 obtain ⟨hd0, hd1⟩ := hd
 clear hn hr hl
 go_enter Try.func53, Try.ntmps53
 go_wp2
 go_loop [0, 9] (fun v i => ∃ (k : Nat) (x : Int), k ≤ n ∧ i = .int .i64 k ∧ v = .int .i64 x ∧ 0 ≤ x ∧ x < 2147483647 ∧ Hid (x = hfold d (l.take k))) (fun _ i => n - (intOf i).toNat)
 case atStart => exact ⟨0, d, Nat.zero_le _, rfl, rfl, hd0, hd1, rfl⟩
 case round =>
  obtain ⟨k, x, hk, rfl, rfl, hx0, hx1, hrel⟩ := hrel
  by_cases hlt : k < n
  ·
   obtain ⟨ad, rfl, -, hcell⟩ := H.out.int k (by have := HN.out; omega)
   obtain ⟨v, hv⟩ : ∃ x, x = l[k]'(by have := HN.out; omega) := ⟨_, rfl⟩
   rw [← hv] at hcell
   have hs : hfold d (l.take (k + 1)) = (x * 1000003 + v % 2147483647 + 13) % 2147483647 := by rw [hfold_take d l k (by have := HN.out; omega), ← hrel.out, ← hv]; rfl
   obtain ⟨r, hr⟩ : ∃ r, r = v % 2147483647 := ⟨_, rfl⟩
   have hr0 : 0 ≤ r ∧ r < 2147483647 := by omega
   obtain ⟨hr0, hr1⟩ := hr0
   rw [← hr] at hs
   have HS := Lib.hid hs
   have HM := Lib.hid (fun w => L1.implMod_any v 2147483647 w)
   rw [modM, ← hr] at HM
   clear hs hr hv hrel
   go_wp2_with (go_at_call 55; refine (HM.out _).mono ?_; rintro e w1 ⟨rfl, rfl⟩)
   go_round
   case rel => exact ⟨k + 1, (x * 1000003 + r + 13) % 2147483647, by omega, by go_num, rfl, by omega, by omega, HS.out.symm⟩
   case measure => simp [intOf]; omega
  ·
   go_wp2
   go_ret
   obtain rfl : k = n := by omega
   have e1 : l.take k = l := by rw [HN.out, List.take_length]
   have h2 := hrel.out
   rw [e1] at h2
   exact ⟨by rw [h2]; rfl, rfl⟩
theorem implHash_any (a : Option Addr) (c : Nat) (l : List Int) (w : World) (B : Nat) (hr : Reads w B a (ints .i64 l)) (hl : l.length ≤ 1099511627776) :
  Calls Try.prog 41 #[.slice a l.length c] w fun e w' => e = .returned (.int .i64 (hs l)) ∧ w = w' := by
 have H := Lib.hid (fold_any a c l 11 w B hr hl (by omega))
 clear hr
 go_enter Try.func41, Try.ntmps41
 go_wp2_with (go_at_call 53; refine H.out.mono ?_; rintro e w1 ⟨rfl, rfl⟩)
 go_ret
 exact ⟨rfl, rfl⟩
end Go.Proofs.Ytejincmlblpaoaa.L3

namespace Go.Proofs.Ytejincmlblpaoaa.L3
open Go.ChangeShapes Go.WideShapes Go.ChangeAt Go.RowKit Mem Sl Ex L2

theorem implBytesToInts_any (a : Option Addr) (c : Nat) (l : List Int) (w : World) (hr : Reads w w.heap.size a (ints .u8 l)) (hb : Byt l) (hl : l.length ≤ 1000000000) :
  Calls Try.prog 42 #[.slice a l.length c] w (Gave w w.heap.size 3 .i64 (b2i l)) := by
 obtain ⟨i0, hi, hz0, hz1, hz2⟩ := infoOf _ _ _ _ info64h
 obtain ⟨n, hn⟩ : ∃ n, n = l.length := ⟨_, rfl⟩
 have hl' : n ≤ 1000000000 := by omega
 rw [← hn]
 have HN := Lib.hid hn
 have H := Lib.hid (And.intro hr hb)
 clear hn hr hb hl
 go_enter Try.func42, Try.ntmps42
 go_wp2_with (first
  | (at_make; refine wpList_make_own _ rfl _ _ 24 rfl w.heap.size 3 i0 (.int .i64 0) 1 Try.underlying24 hi hz0 hz1 _ _ _ (n + 1) rfl rfl (by omega) (by rw [hz2]; omega) (by unfold maxLen; omega) (Nat.le_refl _) ?_; intro w1 hown hgrow; have ho1 : Own w1 w.heap.size 3 .i64 (some ⟨w.heap.size, 0, none⟩) (n + 1) [] := hown)
  | (at_builtin; refine wpList_append_src _ rfl _ _ 24 rfl w.heap.size 3 i0 (.int .i64 0) 8 Try.underlying24 hi hz0 hz1 hz2 rfl .i64 _ _ _ [] rfl rfl (own_alloc ho1 _) _ _ 1 1 [_] rfl rfl (reads_one _ _ _ _) (by simp [maxLen]) (by simp) (Nat.le_trans hgrow.size (by simp)) ?_; intro a2 c2 w2 ho2 hg2))
 have hb1 := (Below.refl w.heap.size w).grown hgrow (Nat.le_refl _) (by simp)
 have hb2 := below_alloc hb1 (.cells #[.int .i64 n] 3) (Nat.le_refl _)
 have hb3 := hb2.trans (below_own (own_alloc ho1 _) hg2 hb2.size)
 have H1 := Lib.hid (And.intro ho2 hb3)
 clear hb1 hb2 hb3 ho2 hg2 ho1 hown hgrow
 go_loopw [3, 17] (fun s i wr => ∃ (k : Nat) (a1 : Option Addr) (c1 : Nat), k ≤ n ∧ i = .int .i64 k ∧ s = .slice a1 (k + 1) c1 ∧ Hid (Own wr w.heap.size 3 .i64 a1 c1 ((n : Int) :: l.take k) ∧ Below w.heap.size w wr)) (fun _ i _ => n - (intOf i).toNat)
 case atStart => exact ⟨0, _, _, Nat.zero_le _, rfl, rfl, H1.out⟩
 case round =>
  obtain ⟨k, a1, c1, hk, rfl, rfl, hrel⟩ := hrel
  by_cases hlt : k < n
  ·
   obtain ⟨ad, rfl, -, hcell⟩ := (H.out.1.below hrel.out.2).int k (by have := HN.out; omega)
   obtain ⟨x, hx⟩ : ∃ x, x = l[k]'(by have := HN.out; omega) := ⟨_, rfl⟩
   obtain ⟨hx0, hx1⟩ : 0 ≤ x ∧ x ≤ 255 := by rw [hx]; exact H.out.2 _ (List.getElem_mem _)
   rw [← hx] at hcell
   have HS := Lib.hid (show (n : Int) :: l.take (k + 1) = ((n : Int) :: l.take k) ++ [x] by rw [List.take_succ_eq_append_getElem (by have := HN.out; omega), ← hx]; rfl)
   have HL := Lib.hid (show k + 1 = ((n : Int) :: l.take k).length by have := HN.out; simp; omega)
   clear hx
   go_wp2_with (at_builtin; refine wpList_append_src _ rfl _ _ 24 rfl w.heap.size 3 i0 (.int .i64 0) 8 Try.underlying24 hi hz0 hz1 hz2 rfl .i64 a1 _ c1 ((n : Int) :: l.take k) rfl HL.out (own_alloc hrel.out.1 _) _ _ 1 1 [_] rfl rfl (reads_one _ _ _ _) (by have := HL.out; simp only [List.length_singleton, maxLen]; omega) (by have := HL.out; simp only [List.length_singleton]; omega) (Nat.le_trans hrel.out.2.size (by simp)) ?_; intro a2 c2 w2 ho2 hg2; rw [← HL.out])
   have hb1 := below_alloc hrel.out.2 (.cells #[.int .i64 x] 3) (Nat.le_refl _)
   have hb2 := hb1.trans (below_own (own_alloc hrel.out.1 _) hg2 hb1.size)
   have HH := Lib.hid (And.intro ho2 hb2)
   clear ho2 hg2 hb1 hb2
   go_roundw
   case rel => exact ⟨k + 1, a2, c2, by omega, by go_num, rfl, And.intro (by rw [HS.out]; exact HH.out.1) HH.out.2⟩
   case measure => simp [intOf]; omega
  ·
   go_wp2
   go_ret
   obtain rfl : k = n := by omega
   obtain ⟨ho, hb⟩ := hrel.out
   have e1 : (k : Int) :: l.take k = b2i l := by unfold b2i; rw [HN.out, List.take_length]
   rw [e1] at ho
   exact Gave.mk (by rw [HN.out]; rfl) ho hb
theorem implMax_b (a b : Int) (w : World) :
  Calls Try.prog 36 #[.int .i64 a, .int .i64 b] w fun e w' => e = .returned (.int .i64 (max a b)) ∧ Below w.heap.size w w' := by
 have hc : (w.alloc (.cells #[.int .i64 b] 3)).cell? ⟨w.heap.size, 0, none⟩ = some (.int .i64 b) := by simp [go_sem]
 go_enter Try.func36, Try.ntmps36
 go_wp2_with (go_at_call 51; refine (L1.extremes_one _ _ _ _ hc).mono ?_; rintro e w' ⟨rfl, rfl⟩)
 go_ret
 exact ⟨rfl, by repeat (first | exact Below.refl _ _ | apply Below.drew | (refine Below.alloc ?_ (Nat.le_refl _) _))⟩
end Go.Proofs.Ytejincmlblpaoaa.L3

namespace Go.Proofs.Ytejincmlblpaoaa.Sv
open Go.ChangeShapes Go.WideShapes Go.ChangeAt Go.RowKit Mem Sl

def OwnV (w : World) (B : Nat) (e : TypeId) (k : Nat) (a : Option Addr) (c n : Nat) (xs : List Value) : Prop := w.ownsRow B e k (.slice a n c) n xs

section
variable {w w' : World} {B B' : Nat} {e : TypeId} {k : Nat} {a : Option Addr} {c n : Nat} {xs : List Value}
theorem OwnV.len (h : OwnV w B e k a c n xs) : xs.length = n * k := h.1
theorem OwnV.form (h : OwnV w B e k a c n xs) : (a = none ∧ n = 0 ∧ xs = [] ∧ c = 0) ∨ ∃ g, a = some ⟨g, 0, none⟩ ∧ B ≤ g ∧ g < w.heap.size ∧ n ≤ c ∧ c ≤ maxLen := by
 rcases h.2 with ⟨hv, hn⟩ | ⟨g, cap, cur, hv, hb, hg, h1, h2, _⟩
 ·
  injection hv with h1 h2 h3
  exact .inl ⟨h1, hn, List.eq_nil_of_length_eq_zero (by rw [h.1, hn, Nat.zero_mul]), h3⟩
 ·
  injection hv with h3 h4 h5
  exact .inr ⟨g, h3, hb, (Array.getElem?_eq_some_iff.1 hg).1, by omega, by omega⟩
theorem OwnV.cap (h : OwnV w B e k a c n xs) : n ≤ c := by
 rcases h.form with ⟨_, rfl, _⟩ | ⟨g, rfl, hb, hg, h1, _⟩
 ·
  simp
 ·
  exact h1
theorem OwnV.reads (h : OwnV w B e k a c n xs) : Reads w w.heap.size a xs := fun j hj => by
 rcases h.form with ⟨_, _, rfl, _⟩ | ⟨g, rfl, hb, hg, _⟩
 ·
  simp at hj
 ·
  exact ⟨_, rfl, hg, World.ownsRow.cells (g := g) h rfl j _ (List.getElem?_eq_getElem hj)⟩
theorem OwnV.base (h : OwnV w B e k a c n xs) (hB : B' ≤ B) : OwnV w B' e k a c n xs := by
 refine ⟨h.1, ?_⟩
 rcases h.2 with hv | ⟨g, cap, cur, hv, hb, r⟩
 ·
  exact .inl hv
 ·
  exact .inr ⟨g, cap, cur, hv, by omega, r⟩
theorem OwnV.lift (h : OwnV w B e k a c n xs) (hB : ∀ b ∈ (Value.slice a n c).ownBlock.toList, B' ≤ b) : OwnV w B' e k a c n xs := by
 refine ⟨h.1, ?_⟩
 rcases h.2 with hv | ⟨g, cap, cur, hv, hb, r⟩
 ·
  exact .inl hv
 ·
  exact .inr ⟨g, cap, cur, hv, hB g (by rw [hv]; simp [Value.ownBlock]), r⟩
theorem OwnV.below (h : OwnV w B e k a c n xs) (hb : Below w.heap.size w w') : OwnV w' B e k a c n xs := by
 refine ⟨h.1, ?_⟩
 rcases h.2 with hv | ⟨g, cap, cur, hv, hB, hg, r⟩
 ·
  exact .inl hv
 ·
  exact .inr ⟨g, cap, cur, hv, hB, (hb.block g (Array.getElem?_eq_some_iff.1 hg).1).trans hg, r⟩
theorem OwnV.alloc (h : OwnV w B e k a c n xs) (o : Obj) : OwnV (w.alloc o) B e k a c n xs := h.below ((Below.refl _ _).alloc (Nat.le_refl _) o)
theorem OwnV.nil (w : World) (B : Nat) (e : TypeId) (k : Nat) : OwnV w B e k none 0 0 [] := ⟨(Nat.zero_mul k).symm, .inl ⟨rfl, rfl⟩⟩
theorem OwnV.empty (w : World) (e : TypeId) (k : Nat) (hB : B ≤ w.heap.size) : OwnV (w.alloc (.cells #[] e)) B e k (some ⟨w.heap.size, 0, none⟩) 0 0 [] := by
 have := World.ownsRow_made (base := B) (e := e) (size := k) w #[] 0 hB (Nat.zero_le _) (Nat.zero_mul k).symm
 exact this
theorem OwnV.madeAt (w : World) (e : TypeId) (k n g : Nat) (cs : Array Value) (hg : g = w.heap.size) (hB : B ≤ w.heap.size) (hn : cs.size = n * k) (hm : n ≤ maxLen) : OwnV (w.alloc (.cells cs e)) B e k (some ⟨g, 0, none⟩) n n cs.toList := by
 subst hg
 exact ⟨by simpa using hn, .inr ⟨w.heap.size, n, cs, rfl, hB, heap_alloc_new w _, Nat.le_refl _, hm, hn, by rw [← hn, ← Array.length_toList, List.take_length]⟩⟩
theorem OwnV.made (w : World) (e : TypeId) (k n : Nat) (cs : Array Value) (hB : B ≤ w.heap.size) (hn : cs.size = n * k) (hm : n ≤ maxLen) : OwnV (w.alloc (.cells cs e)) B e k (some ⟨w.heap.size, 0, none⟩) n n cs.toList :=
 ⟨by simpa using hn, .inr ⟨w.heap.size, n, cs, rfl, hB, heap_alloc_new w _, Nat.le_refl _, hm, hn, by rw [← hn, ← Array.length_toList, List.take_length]⟩⟩
theorem OwnV.cell {g : Nat} (h : OwnV w B e k (some ⟨g, 0, none⟩) c n xs) (j : Nat) (hj : j < xs.length) : w.cell? ⟨g, j, none⟩ = some xs[j] := by
 have := World.ownsRow.cells (g := g) h rfl j _ (List.getElem?_eq_getElem hj)
 rwa [Addr.add_lit, Nat.zero_add] at this
theorem OwnV.free {g : Nat} (h : OwnV w B e k (some ⟨g, 0, none⟩) c n xs) (j : Nat) : w.frozen? ⟨g, j, none⟩ = false := by
 rcases h.2 with ⟨hv, hn⟩ | ⟨g', cap, cur, hv, hb, hg, _⟩
 ·
  injection hv with h1; cases h1
 ·
  injection hv with h1
  injection h1 with h1
  injection h1 with h1
  subst h1
  simp [World.frozen?, hg]
theorem OwnV.set {g : Nat} (h : OwnV w B e k (some ⟨g, 0, none⟩) c n xs) (j : Nat) (hj : j < xs.length) (v : Value) : OwnV (w.setCell ⟨g, j, none⟩ v) B e k (some ⟨g, 0, none⟩) c n (xs.set j v) := by
 refine ⟨by simpa using h.1, ?_⟩
 rcases h.2 with ⟨hv, hn⟩ | ⟨g', cap, cur, hv, hb, hg, h1, h2, h3, h4⟩
 ·
  injection hv with h1; cases h1
 ·
  injection hv with e1 e2 e3
  injection e1 with e1
  injection e1 with e1
  subst e1
  refine .inr ⟨g, cap, cur.setIfInBounds j v, by rw [e3], hb, Row.put (w := w) (t := e) (cs := cur) hg j v, h1, h2, by simpa using h3, ?_⟩
  rw [Array.toList_setIfInBounds, List.take_set, h4]
end

def ownV (e : TypeId) (k : Nat) (a : Option Addr) (c n : Nat) (xs : List Value) : Res where
 fp := (Value.slice a n c).ownBlock.toList
 is w := OwnV w 0 e k a c n xs
 loc := fun hs h => ⟨h.1, by
  rcases h.2 with hv | ⟨g, cap, cur, hv, hB, hg, r⟩
  ·
   exact .inl hv
  ·
   exact .inr ⟨g, cap, cur, hv, hB, (hs g (by rw [hv]; simp [Value.ownBlock])).trans hg, r⟩⟩
section
variable {W w w' : World} {rs : List Res} {e : TypeId} {k : Nat} {a : Option Addr} {c n : Nat} {xs : List Value}
theorem own_at (h : Sep W w rs) (i : Nat) (hi : rs[i]? = some (ownV e k a c n xs)) : OwnV w 0 e k a c n xs := h.is i _ hi
theorem push_own (h : Sep W w rs) (hb : Below w.heap.size w w') (ho : OwnV w' w.heap.size e k a c n xs) : Sep W w' (rs ++ [ownV e k a c n xs]) :=
 h.push hb (ho.base (Nat.zero_le _)) fun b hm => by
  rcases ho.form with ⟨rfl, _⟩ | ⟨g, rfl, h1, h2, _⟩
  ·
   simp [ownV, Value.ownBlock] at hm
  ·
   simp [ownV, Value.ownBlock] at hm
   subst hm
   exact ⟨h1, h2⟩
end

theorem sep_sub {W w : World} {rs ts : List Res} (h : Sep W w rs) (f : Nat → Nat) (hf : ∀ i r, ts[i]? = some r → rs[f i]? = some r) (hi : ∀ i j, i < ts.length → j < ts.length → f i = f j → i = j) : Sep W w ts :=
 ⟨h.old, fun i r hr => h.is (f i) r (hf i r hr), fun i r hr => h.lies (f i) r (hf i r hr), fun i j r s hr hs hne => h.apart (f i) (f j) r s (hf i r hr) (hf j s hs) (fun e => hne (hi i j (List.getElem?_eq_some_iff.1 hr).1 (List.getElem?_eq_some_iff.1 hs).1 e))⟩
section
variable {P : Program} (w : World)
theorem run_append_rows (B : Nat) (t ty e : TypeId) (i : TypeInfo) (z : Value) (k bytes : Nat) (ht : P.underlying t = some (.slice e)) (hi : P.info? e = some i) (hz : i.zero = some z)
  (hsize : i.size = k) (hby : i.bytes = bytes) (hzs : z.cells.size = k) (hk : 0 < k) (a : Option Addr) (c n : Nat) (xs : List Value) (hown : OwnV w B e k a c n xs)
  (B' : Nat) (A : Option Addr) (c' m : Nat) (ys : List Value) (hr : Reads w B' A ys) (hy : ys.length = m * k) (hone : ∀ u ∈ ys, u.oneCell' = true)
  (h63 : n + m ≤ maxLen) (hbytes : (n + m) * bytes ≤ 140737488355328) (hbase : B ≤ w.heap.size) :
  ∃ a1 c1 w', (Builtin.append_ #[t, t] ty #[.slice a n c, .slice A m c']).run P w = .ok (.slice a1 (n + m) c1) w' ∧ OwnV w' B e k a1 c1 (n + m) (xs ++ ys) ∧ w.grownBy w' (Value.slice a n c).ownBlock ∧ ∀ b, (Value.slice a1 (n + m) c1).ownBlock = some b → (Value.slice a n c).ownBlock = some b ∨ b = w.heap.size := by
 have fin : ∀ {v' : Value} {w' : World}, w'.ownsRow B e k v' (n + m) (xs ++ ys) → ∃ a1 c1, v' = .slice a1 (n + m) c1 ∧ OwnV w' B e k a1 c1 (n + m) (xs ++ ys) := by
  intro v' w' h
  rcases h.2 with ⟨rfl, hn⟩ | ⟨g, cap, cur, rfl, _⟩
  ·
   refine ⟨none, 0, by rw [hn], ?_⟩
   unfold OwnV
   rw [hn]
   rw [hn] at h
   exact h
  ·
   exact ⟨_, cap, rfl, h⟩
 rcases A with _ | ad
 ·
  have hm : ys = [] := by
   rcases ys with _ | ⟨x, ys⟩
   ·
    rfl
   ·
    obtain ⟨ad, h, _⟩ := hr 0 (by simp)
    cases h
  subst hm
  have hm0 : m = 0 := by
   rcases Nat.eq_zero_or_pos m with h | h
   ·
    exact h
   ·
    have := Nat.mul_pos h hk
    simp at hy
    omega
  subst hm0
  have hrun : (Builtin.append_ #[t, t] ty #[.slice a n c, .slice none 0 c']).run P w = .ok (.slice a n c) w := by
   rcases hown.form with ⟨rfl, rfl, _, rfl⟩ | ⟨g, rfl, _, _, h1, _⟩
   ·
    simp [Builtin.append_, run_underlying ht, sizeOf, typeInfo, hi, Builtin.lenOf, Builtin.firstCells]
   ·
    simp [Builtin.append_, run_underlying ht, sizeOf, typeInfo, hi, Builtin.lenOf, Builtin.firstCells, h1, storeCells]
  exact ⟨a, c, w, by simpa using hrun, by simpa using hown, grownBy_refl w _, fun b hb => .inl (by
   cases a with
   | none => simp [Value.ownBlock] at hb
   | some ad => simpa [Value.ownBlock] using hb)⟩
 ·
  have hcells : ∀ j u, ys[j]? = some u → w.cell? (ad.add j) = some u := by
   intro j u hu
   have hj := (List.getElem?_eq_some_iff.1 hu).1
   obtain ⟨ad', h, _, hc⟩ := hr j hj
   injection h with h
   subst h
   rw [hc, ← hu, List.getElem?_eq_getElem hj]
  obtain ⟨v', w', hrun, h2, h3, -, h5⟩ := run_append_own_at (P := P) w B t ty e i z k bytes ht hi hz hsize hby hzs hk _ n xs hown ad m c' ys hy hcells hone h63 hbytes hbase
  obtain ⟨a1, c1, rfl, ho⟩ := fin h2
  refine ⟨a1, c1, w', hrun, ho, h3, fun b hb => ?_⟩
  rcases h5 with h5 | h5
  ·
   exact .inl (by rw [← h5]; exact hb)
  ·
   rw [h5] at hb
   exact .inr (Option.some.inj hb).symm
end
end Go.Proofs.Ytejincmlblpaoaa.Sv

namespace Go.Proofs.Ytejincmlblpaoaa.L4
open Go.Op (bytesLess)

theorem less_irrefl : ∀ (a : List UInt8), bytesLess a a = false
 | [] => rfl
 | x :: r => by simp [bytesLess, less_irrefl r]
theorem less_total : ∀ (a b : List UInt8), a ≠ b → bytesLess a b = false → bytesLess b a = true
 | [], [], h, _ => absurd rfl h
 | _ :: _, [], _, _ => rfl
 | [], _ :: _, _, h => by simp [bytesLess] at h
 | a :: x, b :: y, hne, h => by
  simp only [bytesLess, Bool.or_eq_false_iff, decide_eq_false_iff_not, UInt8.not_lt] at h
  obtain ⟨h1, h2⟩ := h
  by_cases e : a = b
  ·
   subst e
   simp at h2
   have := less_total x y (fun e2 => hne (by rw [e2])) h2
   simp [bytesLess, this]
  ·
   have : b < a := by
    rcases UInt8.lt_or_eq_of_le h1 with h3 | h3
    ·
     exact h3
    ·
     exact absurd h3.symm e
   simp [bytesLess, this]
theorem less_asymm : ∀ (a b : List UInt8), bytesLess a b = true → bytesLess b a = false
 | [], [], h => by simp [bytesLess] at h
 | _ :: _, [], h => by simp [bytesLess] at h
 | [], _ :: _, _ => rfl
 | a :: x, b :: y, h => by
  simp only [bytesLess, Bool.or_eq_true, decide_eq_true_eq, Bool.and_eq_true, beq_iff_eq] at h
  simp only [bytesLess, Bool.or_eq_false_iff, decide_eq_false_iff_not, UInt8.not_lt, Bool.and_eq_false_imp, beq_iff_eq]
  rcases h with h | ⟨rfl, h⟩
  ·
   exact ⟨UInt8.le_of_lt h, fun e => by subst e; exact absurd h (UInt8.lt_irrefl _)⟩
  ·
   exact ⟨UInt8.le_refl _, fun _ => less_asymm x y h⟩
theorem less_trans : ∀ (a b c : List UInt8), bytesLess a b = true → bytesLess b c = true → bytesLess a c = true
 | [], [], _, h1, _ => by simp [bytesLess] at h1
 | _ :: _, [], _, h1, _ => by simp [bytesLess] at h1
 | _, _ :: _, [], _, h2 => by simp [bytesLess] at h2
 | [], _ :: _, _ :: _, _, _ => by simp [bytesLess]
 | a :: x, b :: y, c :: z, h1, h2 => by
  simp only [bytesLess, Bool.or_eq_true, decide_eq_true_eq, Bool.and_eq_true, beq_iff_eq] at h1 h2 ⊢
  rcases h1 with h1 | ⟨rfl, h1⟩ <;> rcases h2 with h2 | ⟨rfl, h2⟩
  ·
   exact .inl (UInt8.lt_trans h1 h2)
  ·
   exact .inl h1
  ·
   exact .inl h2
  ·
   exact .inr ⟨rfl, less_trans x y z h1 h2⟩
def be : Nat → Nat → List UInt8
 | 0, _ => []
 | k + 1, m => UInt8.ofNat (m / 256 ^ k % 256) :: be k m
@[simp] theorem be_length : ∀ (k m : Nat), (be k m).length = k
 | 0, _ => rfl
 | k + 1, m => by simp [be, be_length k m]
structure K where
 kind : Int
 n : Int
 text : ByteArray
def K.t (k : K) : List UInt8 := k.text.data.toList
def K.zero : K := ⟨0, 0, ⟨#[]⟩⟩
def chr (b : UInt8) : Bool := (decide (97 ≤ b.toNat) && decide (b.toNat ≤ 122)) || (decide (48 ≤ b.toNat) && decide (b.toNat ≤ 57))
def isT (l : List UInt8) : Bool := l.all chr && decide (l.length ≤ 12)
structure Good (k : K) : Prop where
 k0 : 1 ≤ k.kind
 k1 : k.kind ≤ 3
 n0 : -1000000000000 ≤ k.n
 n1 : k.n ≤ 1000000000000
 n2 : k.kind = 2 → k.n = 0
 t : isT k.t = true
 t1 : k.kind = 1 → k.t = []
end Go.Proofs.Ytejincmlblpaoaa.L4

namespace Go.Proofs.Ytejincmlblpaoaa.L1

theorem decFrom_snoc (l : List UInt8) (b : UInt8) : ∀ acc, Lib.decFrom acc (l ++ [b]) = (Lib.decFrom acc l).bind fun n => (Lib.digitVal b).map fun d => n * 10 + d := by
 induction l with
 | nil =>
  intro acc
  simp only [List.nil_append, Lib.decFrom]
  cases Lib.digitVal b <;> rfl
 | cons a t ih =>
  intro acc
  simp only [List.cons_append, Lib.decFrom]
  cases Lib.digitVal a with
  | none => rfl
  | some d => exact ih _

theorem digitVal_dig (d : Nat) (h : d < 10) : Lib.digitVal (UInt8.ofNat (48 + d)) = some d := by
 have e : (UInt8.ofNat (48 + d)).toNat = 48 + d := by
  rw [UInt8.toNat_ofNat']; omega
 unfold Lib.digitVal
 rw [if_pos (by rw [e]; omega), e]
 congr 1; omega

theorem decFrom_dec (u : Nat) : Lib.decFrom 0 (Lib.decDigits u) = some u := by
 induction u using Nat.strongRecOn with
 | _ u ih =>
  by_cases h10 : u < 10
  ·
   rw [Lib.decDigits_one h10]
   simp only [Lib.decFrom, digitVal_dig u h10]
   simp
  ·
   rw [Lib.decDigits, dif_neg h10, decFrom_snoc, ih (u / 10) (by omega), digitVal_dig _ (by omega)]
   simp only [Option.bind_some, Option.map_some]
   congr 1; omega

theorem nDigits_pow (k u : Nat) (h : u < 10 ^ (k + 1)) : Lib.nDigits u ≤ k + 1 := by
 induction k generalizing u with
 | zero => rw [Lib.nDigits_small (by simpa using h)]; exact Nat.le_refl _
 | succ k ih =>
  by_cases h10 : u < 10
  ·
   rw [Lib.nDigits_small h10]; omega
  ·
   rw [Lib.nDigits_big h10]
   have := ih (u / 10) (by rw [Nat.pow_succ] at h; omega)
   omega

def Num (l : List UInt8) (n : Int) : Prop := 0 ≤ n ∧ n ≤ 1000000000000 ∧ Lib.itoa n = l

theorem itoa_nonneg {n : Int} (h : 0 ≤ n) : Lib.itoa n = Lib.decDigits n.toNat := by
 unfold Lib.itoa; rw [if_neg (by omega)]
theorem Num.length {l : List UInt8} {n : Int} (h : Num l n) : 1 ≤ l.length ∧ l.length ≤ 13 := by
 obtain ⟨h0, h1, h2⟩ := h
 rw [← h2, itoa_nonneg h0, Lib.decDigits_length]
 exact ⟨Lib.nDigits_pos _, nDigits_pow 12 _ (by show _ < 10000000000000; omega)⟩
theorem Num.dec {l : List UInt8} {n : Int} (h : Num l n) : Lib.decFrom 0 l = some n.toNat := by
 obtain ⟨h0, h1, h2⟩ := h
 rw [← h2, itoa_nonneg h0]; exact decFrom_dec _
theorem Num.digit {l : List UInt8} {n : Int} (h : Num l n) (k : Nat) (b : UInt8) (hb : l[k]? = some b) : 48 ≤ b.toNat ∧ b.toNat ≤ 57 := by
 obtain ⟨d, hd⟩ := Lib.digit_of_decFrom l 0 _ h.dec k b hb
 unfold Lib.digitVal at hd
 split at hd
 ·
  assumption
 ·
  cases hd
theorem Num.atoi {l : List UInt8} {n : Int} (h : Num l n) : Lib.atoiAll l = .ok n := by
 have hl := h.length
 have hd := h.dec
 rw [Lib.atoiAll_short l (by omega)]
 have ha : Lib.atoi l = some n := by
  cases l with
  | nil => simp at hl
  | cons b r =>
   have hb := h.digit 0 b rfl
   have e1 : (b == 45) = false := by
    rw [beq_eq_false_iff_ne]; intro e; subst e; revert hb; decide
   have e2 : (b == 43) = false := by
    rw [beq_eq_false_iff_ne]; intro e; subst e; revert hb; decide
   simp only [Lib.atoi, e1, e2, Lib.decNat, List.isEmpty_cons, Bool.false_eq_true, if_false, hd, Option.map_some]
   congr 1
   have := h.1
   omega
 rw [ha]; rfl
def pOk (l : List UInt8) : Bool := match Lib.atoiAll l with
 | .ok v => decide (0 ≤ v) && decide (v ≤ 1000000000000) && (Lib.itoa v == l)
 | _ => false
theorem Num.ok {l : List UInt8} {n : Int} (h : Num l n) : pOk l = true := by
 unfold pOk; rw [h.atoi]; simp [h.1, h.2.1, h.2.2]
end Go.Proofs.Ytejincmlblpaoaa.L1

namespace Go.Proofs.Ytejincmlblpaoaa.L4
open L1

def hd (s : List UInt8) : List UInt8 := s.takeWhile (· != 39)
end Go.Proofs.Ytejincmlblpaoaa.L4

namespace Go.Proofs.Ytejincmlblpaoaa.L4
open Go.ChangeShapes Go.WideShapes Go.ChangeAt Go.RowKit Mem Sl Ex L2

def K.v (k : K) : Value := .agg #[.int .i64 k.kind, .int .i64 k.n, .string k.text]
def K.cells (k : K) : Array Value := #[.int .i64 k.kind, .int .i64 k.n, .string k.text]

end Go.Proofs.Ytejincmlblpaoaa.L4

namespace Go.Proofs.Ytejincmlblpaoaa.L4
open Go.Op (bytesLess)
open Go.ChangeShapes Go.WideShapes Go.ChangeAt Go.RowKit Mem Sl Ex L2


def Box (w : World) (g : Nat) (t : TypeId) (k : K) : Prop := Row w g t k.cells
theorem Box.below {w w' : World} {g : Nat} {t : TypeId} {k : K} (h : Box w g t k) (hb : Below w.heap.size w w') : Box w' g t k := Row.below h hb (Row.inside h)
theorem Box.made (w : World) (t : TypeId) (k : K) : Box (w.alloc (.cells k.cells t)) w.heap.size t k := Row.made w t k.cells
theorem Box.more {w : World} {g : Nat} {t : TypeId} {k : K} (h : Box w g t k) (o : Obj) : Box (w.alloc o) g t k := Row.more h o

structure R where
 hl : Bool
 hh : Bool
 lo : K
 hi : K
def R.v (r : R) : Value := .agg #[.bool r.hl, .bool r.hh, .int .i64 r.lo.kind, .int .i64 r.lo.n, .string r.lo.text, .int .i64 r.hi.kind, .int .i64 r.hi.n, .string r.hi.text]
def R.cells (r : R) : Array Value := #[.bool r.hl, .bool r.hh, .int .i64 r.lo.kind, .int .i64 r.lo.n, .string r.lo.text, .int .i64 r.hi.kind, .int .i64 r.hi.n, .string r.hi.text]
structure St (w wr : World) (kt rt : TypeId) (k : K) (r : R) : Prop where
 k : Row wr w.heap.size kt k.cells
 r : Row wr (w.heap.size + 1) rt r.cells
 b : Below w.heap.size w wr
theorem St.next {w wr w' : World} {kt rt : TypeId} {k : K} {r : R} (h : Hid (St w wr kt rt k r)) (hb : Below wr.heap.size wr w') : Hid (St w w' kt rt k r) :=
 ⟨h.out.k.below hb h.out.k.inside, h.out.r.below hb h.out.r.inside, h.out.b.trans (hb.mono h.out.b.size)⟩
end Go.Proofs.Ytejincmlblpaoaa.L4

namespace Go.Proofs.Ytejincmlblpaoaa.L4
open Go.ChangeShapes Go.WideShapes Go.ChangeAt Go.RowKit Mem Sl Ex L2

def left (n : Int) (s : ByteArray) : Int := if n - s.size < 0 then -1 else n - s.size

def R.left (n : Int) (r : R) : Int := if L4.left n r.lo.text < 0 then -1 else L4.left (L4.left n r.lo.text) r.hi.text
structure Tri (w wr : World) (t u : TypeId) (r : R) (x : Array Value) : Prop where
 r : Row wr w.heap.size t r.cells
 z : Row wr (w.heap.size + 1) u #[.bool false, .bool false, .int .i64 0, .int .i64 0, .string ⟨#[]⟩, .int .i64 0, .int .i64 0, .string ⟨#[]⟩]
 x : Row wr (w.heap.size + 1 + 1) u x
 b : Below w.heap.size w wr
theorem Tri.next {w wr w' : World} {t u : TypeId} {r : R} {x : Array Value} (h : Hid (Tri w wr t u r x)) (hb : Below wr.heap.size wr w') : Hid (Tri w w' t u r x) :=
 ⟨h.out.r.below hb h.out.r.inside, h.out.z.below hb h.out.z.inside, h.out.x.below hb h.out.x.inside, h.out.b.trans (hb.mono h.out.b.size)⟩
theorem Row.apart {w : World} {g g' : Nat} {t : TypeId} {cs : Array Value} (h : Row w g t cs) (i : Nat) (v : Value) (hne : g ≠ g') : Row (w.setCell ⟨g', i, none⟩ v) g t cs := (Below.heap_setCell w ⟨g', i, none⟩ v g hne).trans h
theorem Tri.put {w wr : World} {t u : TypeId} {r : R} {x : Array Value} (h : Hid (Tri w wr t u r x)) (i : Nat) (v : Value) : Hid (Tri w (wr.setCell ⟨w.heap.size + 1 + 1, i, none⟩ v) t u r (x.setIfInBounds i v)) :=
 ⟨Row.apart h.out.r i v (by omega), Row.apart h.out.z i v (by omega), h.out.x.put i v, h.out.b.setCell (by show w.heap.size ≤ w.heap.size + 1 + 1; omega) v⟩
end Go.Proofs.Ytejincmlblpaoaa.L4

namespace Go.Proofs.Ytejincmlblpaoaa.Bag
open Go.ChangeShapes Go.WideShapes Go.ChangeAt Go.RowKit Mem Sl Sv

structure RowS where
 e : TypeId
 k : Nat
 a : Option Addr
 c : Nat
 n : Nat
 xs : List Value
def RowS.fp (r : RowS) : List Nat := (Value.slice r.a r.n r.c).ownBlock.toList
def RowS.Own (w : World) (B : Nat) (r : RowS) : Prop := OwnV w B r.e r.k r.a r.c r.n r.xs
def RowS.res (r : RowS) : Res := ownV r.e r.k r.a r.c r.n r.xs
structure RowS.Rd (w : World) (B : Nat) (r : RowS) : Prop where
 reads : Reads w B r.a r.xs
 cap : r.n ≤ r.c
 zero : r.a = none → r.c = 0
def Apart (r s : RowS) : Prop := ∀ b ∈ r.fp, b ∉ s.fp
theorem Apart.symm {r s : RowS} (h : Apart r s) : Apart s r := fun b hs hr => h b hr hs
structure BagOwn (w : World) (B : Nat) (rows : List RowS) : Prop where
 own : ∀ r ∈ rows, r.Own w B
 apart : rows.Pairwise Apart
def RowsRd (w : World) (B : Nat) (rows : List RowS) : Prop := ∀ r ∈ rows, r.Rd w B

section
variable {w w' : World} {B B' : Nat} {rows ys : List RowS} {r : RowS}
theorem RowS.Own.lt (h : r.Own w B) : ∀ b ∈ r.fp, B ≤ b ∧ b < w.heap.size := fun b hb => by
 rcases h.form with ⟨e, _⟩ | ⟨g, e, h1, h2, _⟩
 ·
  simp [RowS.fp, e, Value.ownBlock] at hb
 ·
  simp [RowS.fp, e, Value.ownBlock] at hb
  subst hb
  exact ⟨h1, h2⟩
theorem RowS.Own.rd (h : r.Own w B) : r.Rd w w.heap.size := ⟨h.reads, h.cap, fun e => by
 rcases h.form with ⟨_, _, _, h1⟩ | ⟨g, e2, _⟩
 ·
  exact h1
 ·
  rw [e] at e2; cases e2⟩
theorem RowS.Rd.below (h : r.Rd w B) (hb : Below B w w') : r.Rd w' B := ⟨h.reads.below hb, h.cap, h.zero⟩
theorem RowS.Rd.more (h : r.Rd w B) (hB : B ≤ B') : r.Rd w B' := ⟨h.reads.more hB, h.cap, h.zero⟩
theorem RowsRd.below (h : RowsRd w B rows) (hb : Below B w w') : RowsRd w' B rows := fun r hr => (h r hr).below hb
theorem RowsRd.more (h : RowsRd w B rows) (hB : B ≤ B') : RowsRd w B' rows := fun r hr => (h r hr).more hB
theorem BagOwn.rd (h : BagOwn w B rows) : RowsRd w w.heap.size rows := fun r hr => (h.own r hr).rd
theorem BagOwn.nil (w : World) (B : Nat) : BagOwn w B [] := ⟨fun r hr => (by cases hr), List.Pairwise.nil⟩
theorem BagOwn.base (h : BagOwn w B rows) (hB : B' ≤ B) : BagOwn w B' rows := ⟨fun r hr => OwnV.base (h.own r hr) hB, h.apart⟩
theorem BagOwn.lt (h : BagOwn w B rows) : ∀ b ∈ rows.flatMap RowS.fp, B ≤ b ∧ b < w.heap.size := fun b hb => by
 obtain ⟨r, hr, hm⟩ := List.mem_flatMap.1 hb
 exact (h.own r hr).lt b hm
theorem BagOwn.one (h : r.Own w B) : BagOwn w B [r] := ⟨fun s hs => by rw [List.mem_singleton] at hs; rw [hs]; exact h, List.pairwise_singleton ..⟩
theorem BagOwn.lift (h : BagOwn w B rows) (hB : ∀ b ∈ rows.flatMap RowS.fp, B' ≤ b) : BagOwn w B' rows := ⟨fun r hr => OwnV.lift (h.own r hr) fun b hb => hB b (List.mem_flatMap.2 ⟨r, hr, hb⟩), h.apart⟩
theorem BagOwn.app (h : BagOwn w B rows) (k : BagOwn w B ys) (ha : ∀ b ∈ rows.flatMap RowS.fp, b ∉ ys.flatMap RowS.fp) : BagOwn w B (rows ++ ys) :=
 ⟨fun r hr => by
  rcases List.mem_append.1 hr with h1 | h1
  ·
   exact h.own r h1
  ·
   exact k.own r h1, List.pairwise_append.2 ⟨h.apart, k.apart, fun r hr s hs b hb hb2 => ha b (List.mem_flatMap.2 ⟨r, hr, hb⟩) (List.mem_flatMap.2 ⟨s, hs, hb2⟩)⟩⟩
end

def bag (rows : List RowS) : Res where
 fp := rows.flatMap RowS.fp
 is w := BagOwn w 0 rows
 loc := fun hs h => ⟨fun r hr => r.res.loc (fun b hb => hs b (List.mem_flatMap.2 ⟨r, hr, hb⟩)) (h.own r hr), h.apart⟩

section
variable {W w w' : World} {rs : List Res} {rows xs ys : List RowS} {r : RowS}
theorem turn {r r' : Res} (h : Sep W w rs) (i : Nat) (hi : rs[i]? = some r) (hr : r.is w → r'.is w) (hf : ∀ b ∈ r'.fp, b ∈ r.fp) : Sep W w (rs.set i r') := h.put i hi (Turned.refl _ _) (hr (h.is i r hi)) hf
theorem bag_at (h : Sep W w rs) (i : Nat) (hi : rs[i]? = some (bag rows)) : BagOwn w 0 rows := h.is i _ hi
theorem bag_rd (h : Sep W w rs) (i : Nat) (hi : rs[i]? = some (bag rows)) : RowsRd w w.heap.size rows := (bag_at h i hi).rd
theorem bag_from (h : Sep W w rs) (i : Nat) (hi : rs[i]? = some (bag rows)) : BagOwn w W.heap.size rows := (bag_at h i hi).lift fun b hb => (h.lies i _ hi b hb).1
theorem push_bag (h : Sep W w rs) (hb : Below w.heap.size w w') (ho : BagOwn w' w.heap.size rows) : Sep W w' (rs ++ [bag rows]) :=
 h.push hb (ho.base (Nat.zero_le _)) fun b hm => ho.lt b hm
theorem push_none (h : Sep W w rs) : Sep W w (rs ++ [bag []]) := push_bag h (Below.refl _ _) (BagOwn.nil _ _)
theorem bag_of_one (h : Sep W w rs) (i : Nat) (hi : rs[i]? = some r.res) : Sep W w (rs.set i (bag [r])) :=
 turn h i hi (fun ho => BagOwn.one ho) (fun b hb => by simpa [bag, RowS.res, RowS.fp, ownV] using hb)
theorem bag_join (h : Sep W w rs) (i j : Nat) (hij : i ≠ j) (hi : rs[i]? = some (bag xs)) (hj : rs[j]? = some (bag ys)) : Sep W w ((rs.set j (bag [])).set i (bag (xs ++ ys))) := by
 have hli : i < rs.length := (List.getElem?_eq_some_iff.1 hi).1
 have hlj : j < rs.length := (List.getElem?_eq_some_iff.1 hj).1
 have key : ∀ (q : Nat) (s : Res), ((rs.set j (bag [])).set i (bag (xs ++ ys)))[q]? = some s → (q = i ∧ s = bag (xs ++ ys)) ∨ (q = j ∧ s = bag []) ∨ (q ≠ i ∧ q ≠ j ∧ rs[q]? = some s) := fun q s hq => by
  by_cases e : i = q
  ·
   subst e
   rw [List.getElem?_set_self (by simpa using hli)] at hq
   exact .inl ⟨rfl, (Option.some.inj hq).symm⟩
  ·
   rw [List.getElem?_set_ne e] at hq
   by_cases e2 : j = q
   ·
    subst e2
    rw [List.getElem?_set_self hlj] at hq
    exact .inr (.inl ⟨rfl, (Option.some.inj hq).symm⟩)
   ·
    rw [List.getElem?_set_ne e2] at hq
    exact .inr (.inr ⟨fun h => e h.symm, fun h => e2 h.symm, hq⟩)
 have hfp : ∀ b, b ∈ (bag (xs ++ ys)).fp → b ∈ (bag xs).fp ∨ b ∈ (bag ys).fp := fun b hb => by
  have : b ∈ (xs ++ ys).flatMap RowS.fp := hb
  rw [List.flatMap_append] at this
  exact List.mem_append.1 this
 refine ⟨h.old, fun q s hq => ?_, fun q s hq b hb => ?_, fun p q s t hp hq hne b hb hb2 => ?_⟩
 ·
  rcases key q s hq with ⟨_, rfl⟩ | ⟨_, rfl⟩ | ⟨_, _, h1⟩
  ·
   exact BagOwn.app (h.is i _ hi) (h.is j _ hj) (fun b hb => h.apart i j _ _ hi hj hij b hb)
  ·
   exact BagOwn.nil _ _
  ·
   exact h.is q s h1
 ·
  rcases key q s hq with ⟨_, rfl⟩ | ⟨_, rfl⟩ | ⟨_, _, h1⟩
  ·
   rcases hfp b hb with h2 | h2
   ·
    exact h.lies i _ hi b h2
   ·
    exact h.lies j _ hj b h2
  ·
   simp [bag] at hb
  ·
   exact h.lies q s h1 b hb
 ·
  rcases key p s hp with ⟨e1, rfl⟩ | ⟨e1, rfl⟩ | ⟨n1, n2, h1⟩ <;> rcases key q t hq with ⟨e2, rfl⟩ | ⟨e2, rfl⟩ | ⟨n3, n4, h2⟩
  ·
   exact hne (e1.trans e2.symm)
  ·
   simp [bag] at hb2
  ·
   rcases hfp b hb with h3 | h3
   ·
    exact h.apart i q _ t hi h2 (fun e => n3 e.symm) b h3 hb2
   ·
    exact h.apart j q _ t hj h2 (fun e => n4 e.symm) b h3 hb2
  ·
   simp [bag] at hb
  ·
   simp [bag] at hb
  ·
   simp [bag] at hb
  ·
   rcases hfp b hb2 with h3 | h3
   ·
    exact h.apart p i s _ h1 hi n1 b hb h3
   ·
    exact h.apart p j s _ h1 hj n2 b hb h3
  ·
   simp [bag] at hb2
  ·
   exact h.apart p q s t h1 h2 hne b hb hb2
end
section
variable {W w : World} {rs ts : List Res} {g : Nat} {t : TypeId} {cs : Array Value} {v : Value}
theorem drew1 (h : Sep W w rs) : Sep W w.drew rs := h.drews 1
theorem take (h : Sep W w rs) (is : List Nat) (he : is.map (fun i => rs[i]?) = ts.map some) (hd : is.Nodup) : Sep W w ts := by
 have hl : is.length = ts.length := by simpa using congrArg List.length he
 refine sep_sub h (fun i => is.getD i 0) (fun i r hr => ?_) (fun i j hi hj e => ?_)
 ·
  have hi : i < ts.length := (List.getElem?_eq_some_iff.1 hr).1
  have h2 := congrArg (fun l => l[i]?) he
  simp only [List.getElem?_map, List.getElem?_eq_getElem (show i < is.length by omega), hr, Option.map_some] at h2
  rw [List.getD_eq_getElem?_getD, List.getElem?_eq_getElem (show i < is.length by omega)]
  simpa using h2
 ·
  simp only [List.getD_eq_getElem?_getD, List.getElem?_eq_getElem (show i < is.length by omega), List.getElem?_eq_getElem (show j < is.length by omega), Option.getD_some] at e
  exact (List.getElem_inj hd).1 e
end
end Go.Proofs.Ytejincmlblpaoaa.Bag

namespace Go.Proofs.Ytejincmlblpaoaa.L11
open L2 L3 Ex
open Go.ChangeShapes Go.WideShapes Go.ChangeAt Go.RowKit Mem Sl Sv Bag

theorem infoI : ∃ i, Try.prog.info? 3 = some i ∧ i.zero = some (.int .i64 0) ∧ i.size = 1 ∧ i.bytes = 8 := Ex.infoOf _ _ _ _ (by kernel_rfl)
theorem infoB : ∃ i, Try.prog.info? 5 = some i ∧ i.zero = some (.int .u8 0) ∧ i.size = 1 ∧ i.bytes = 1 := Ex.infoOf _ _ _ _ (by kernel_rfl)
theorem rd_take {w : World} {B : Nat} {a : Option Addr} {k : IntKind} {l : List Int} (h : Reads w B a (ints k l)) (n : Nat) : Reads w B a (ints k (l.take n)) := fun j hj => by
 have hj' : j < (ints k l).length := by simp at hj ⊢; omega
 obtain ⟨ad, e, hb, hc⟩ := h j hj'
 exact ⟨ad, e, hb, by rw [hc, ints_get _ _ _ (by simpa using hj'), ints_get _ _ _ (by simpa using hj)]; simp⟩
def GaveLB (w : World) (l : List Int) (b : Bool) (e : Ending) (w' : World) : Prop :=
 ∃ (a : Option Addr) (c : Nat), e = .returned (.tuple #[.slice a l.length c, .bool b]) ∧ Own w' w.heap.size 5 .u8 a c l ∧ Below w.heap.size w w'
end Go.Proofs.Ytejincmlblpaoaa.L11

namespace Go.Proofs.Ytejincmlblpaoaa.Wv
open Go.ChangeShapes Go.WideShapes Go.ChangeAt Go.RowKit Mem Sl Ex Sv

theorem wpList_append_v {P : Program} {W w : World} {rs : List Res} {e : TypeId} {k : Nat} {a : Option Addr} {c n : Nat} {xs : List Value} (S : Sep W w rs) (j : Nat) (hj : rs[j]? = some (ownV e k a c n xs))
  {ops : Array Oper} {rest : List Oper} {o : Oper} {act : Act} {Q : Exit → Act → World → Prop} (hgd : o.guard = none) (s x : Operand) (t : TypeId)
  (ho : o.op = .call { callee := .builtin .append, args := #[s, x], argTypes := #[t, t] })
  (i : TypeInfo) (z : Value) (bytes : Nat) (ht : P.underlying t = some (.slice e)) (hi : P.info? e = some i) (hz : i.zero = some z)
  (hsize : i.size = k) (hby : i.bytes = bytes) (hzs : z.cells.size = k) (hk : 0 < k) (n1 : Nat) (hs : act.eval s = .slice a n1 c) (hn : n1 = n)
  (B' : Nat) (A : Option Addr) (m m1 c' : Nat) (ys : List Value) (hx : act.eval x = .slice A m1 c') (hm : m1 = m) (hr : Reads w B' A ys) (hy : ys.length = m * k) (hone : ∀ u ∈ ys, u.oneCell' = true)
  (h63 : n + m ≤ maxLen) (hbytes : (n + m) * bytes ≤ 140737488355328)
  (h : ∀ a1 c1 w', Sep W w' (rs.set j (ownV e k a1 c1 (n + m) (xs ++ ys))) → wpList P ops Q rest (act.put o.dst (.slice a1 (n + m) c1)) w') : wpList P ops Q (o :: rest) act w := by
 subst hn
 subst hm
 refine wpList_plain hgd fun K hK => ?_
 obtain ⟨a1, c1, w', hrun, h2, h3, h4⟩ := run_append_rows (P := P) w 0 t o.type e i z k bytes ht hi hz hsize hby hzs hk a c n1 xs (own_at S j hj) B' A c' m1 ys hr hy hone h63 hbytes (Nat.zero_le _)
 unfold Oper.wp execOp
 simp only [ho, resolve, invoke, builtin, Sem.run_bind, Sem.run_pure, Result.andThen_ok, List.map_toArray, List.map_cons, List.map_nil, hs, hx, hrun]
 refine hK _ _ (h a1 c1 w' (Sd.put_new S j hj (Turned.of_grown h3) h2 fun b hb => ?_))
 have hb' : (Value.slice a1 (n1 + m1) c1).ownBlock = some b := by simpa [ownV] using hb
 rcases h4 b hb' with h5 | rfl
 ·
  exact .inl (by simp [ownV, h5])
 ·
  have := World.ownsRow.lt h2 _ hb'
  exact .inr ⟨Nat.le_refl _, this.2⟩
end Go.Proofs.Ytejincmlblpaoaa.Wv

namespace Go.Proofs.Ytejincmlblpaoaa.Run
open Go.ChangeShapes Go.WideShapes Go.ChangeAt Go.RowKit Mem Sl Sv Bag

def over (xs : List Value) (o : Nat) (vs : List Value) : List Value := xs.take o ++ (vs ++ xs.drop (o + vs.length))
section
variable {w w' : World} {B : Nat} {e : TypeId} {k c n g : Nat} {a : Option Addr} {xs : List Value}
end
section
variable {W w w' : World} {rs : List Res} {e : TypeId} {k c n g : Nat} {a : Option Addr} {xs : List Value}
end
section
variable {P : Program}
end
section
variable {P : Program} {W w : World} {rs : List Res} {e : TypeId} {k g c n : Nat} {xs : List Value}
end
end Go.Proofs.Ytejincmlblpaoaa.Run

namespace Go.Proofs.Ytejincmlblpaoaa.L5
open Go.Op (bytesLess)
open L4 (less_irrefl less_total less_asymm less_trans)

structure F where
 name : ByteArray
 n : Int
def F.t (f : F) : List UInt8 := f.name.data.toList
end Go.Proofs.Ytejincmlblpaoaa.L5

namespace Go.Proofs.Ytejincmlblpaoaa.L5
open Go.Op (bytesLess)
open Go.ChangeShapes Go.WideShapes Go.ChangeAt Go.RowKit Mem Sl Ex L2 Sv

def F.cells (f : F) : List Value := [.string f.name, .int .i64 f.n]
def cellsF (l : List F) : List Value := l.flatMap F.cells
theorem cellsF_cons (f : F) (l : List F) : cellsF (f :: l) = .string f.name :: .int .i64 f.n :: cellsF l := rfl
@[simp] theorem cellsF_length : ∀ (l : List F), (cellsF l).length = l.length * 2
 | [] => rfl
 | f :: l => by rw [cellsF_cons, List.length_cons, List.length_cons, cellsF_length l, List.length_cons]; omega
end Go.Proofs.Ytejincmlblpaoaa.L5

namespace Go.Proofs.Ytejincmlblpaoaa.V
open Go.ChangeShapes Go.WideShapes Go.ChangeAt Go.RowKit Mem Sl Sv Bag

section
variable {α β : Type}
theorem rd_head {w : World} {B : Nat} {r : RowS} {ys : List RowS} (h : RowsRd w B (r :: ys)) : r.Rd w B := h r (List.mem_cons_self ..)
end

section
variable {H : Type} {enc : TypeId × Value → H} {W : World} {b : Nat} {sp : Nat → Bool} {hd : Bool} {α : Type}
end
end Go.Proofs.Ytejincmlblpaoaa.V

namespace Go.Proofs.Ytejincmlblpaoaa.V
open Go.ChangeShapes Go.WideShapes Go.ChangeAt Go.RowKit Mem Sl Sv Bag Ex

section
variable {H : Type} {enc : TypeId × Value → H} {P : Program}
end
structure Y_ByteZ where
 a : Option Addr
 c : Nat
 xs : List Int
def co_ByteZ (z : Y_ByteZ) : List Int := z.xs
def vv_ByteZ (z : Y_ByteZ) : Value := .slice z.a z.xs.length z.c
def rw_ByteZ (z : Y_ByteZ) : List RowS := [⟨5, 1, z.a, z.c, z.xs.length, ints .u8 z.xs⟩]
theorem rd_ByteZ {w : World} {B : Nat} {z : Y_ByteZ} (h : RowsRd w B (rw_ByteZ z)) : Reads w B z.a (ints .u8 z.xs) := (rd_head h).reads
structure Y_IntZ where
 a : Option Addr
 c : Nat
 xs : List Int
end Go.Proofs.Ytejincmlblpaoaa.V

namespace Go.Proofs.Ytejincmlblpaoaa.L11
open L2 L3 Ex
open V (Y_ByteZ co_ByteZ vv_ByteZ rw_ByteZ)
open Go.ChangeShapes Go.WideShapes Go.ChangeAt Go.RowKit Mem Sl Sv Bag

theorem infoS : ∃ i, Try.prog.info? 22 = some i ∧ i.zero = some (.slice none 0 0) ∧ i.size = 1 ∧ i.bytes = 24 := Ex.infoOf _ _ _ _ (by kernel_rfl)
theorem rb_place {l : List Int} (hl : Byt l) (off most : Int) : 0 ≤ rbE l off most ∧ rbE l off most ≤ l.length := by
 cases h : rbB l off most with
 | false => rw [(rb_no h).2]; omega
 | true =>
  rw [(rb_yes h).2]
  have hb := rd_bounds hl off
  unfold rbB at h
  simp only [Bool.and_eq_true, decide_eq_true_eq] at h
  omega
theorem rb_size (l : List Int) (off most : Int) : (rbL l off most).length ≤ l.length := by
 cases h : rbB l off most with
 | false => rw [(rb_no h).1]; simp
 | true => rw [(rb_yes h).1, List.length_take, List.length_drop]; omega
theorem rb_byt {l : List Int} (hl : Byt l) (off most : Int) : Byt (rbL l off most) := by
 cases h : rbB l off most with
 | false => rw [(rb_no h).1]; exact fun x hx => by cases hx
 | true => rw [(rb_yes h).1]; exact fun x hx => hl x (List.mem_of_mem_drop (List.mem_of_mem_take hx))
def row_BB (a : Option Addr) (c : Nat) (ys : List Y_ByteZ) : RowS := ⟨22, 1, a, c, ys.length, ys.map vv_ByteZ⟩
def rows_BB (a : Option Addr) (c : Nat) (ys : List Y_ByteZ) : List RowS := [row_BB a c ys] ++ ys.flatMap rw_ByteZ
def GaveRL (w : World) (r : List (List Int) × Int) (e : Ending) (w' : World) : Prop :=
 ∃ (a : Option Addr) (c : Nat) (ys : List Y_ByteZ), e = .returned (.tuple #[.slice a ys.length c, .int .i64 r.2]) ∧ ys.map co_ByteZ = r.1 ∧ BagOwn w' w.heap.size (rows_BB a c ys) ∧ Below w.heap.size w w'
def nextL (f : Nat) (l : List Int) (out : List (List Int)) (p : Int) : Option (List Int × Int) → List (List Int) × Int
 | none => (out, p)
 | some (d, q) => runL f l (out ++ [d]) q
theorem run_in {f : Nat} {l : List Int} {out : List (List Int)} {p : Int} (hp : p < l.length) : runL (f + 1) l out p = nextL f l out p (stepL l out.length p) := by
 rw [runL]
 rw [if_pos hp]
 rcases stepL l out.length p with _ | ⟨d, q⟩ <;> rfl
theorem run_end {f : Nat} {l : List Int} {out : List (List Int)} {p : Int} (hp : ¬ p < l.length) : runL f l out p = (out, p) := by
 cases f with
 | zero => rfl
 | succ f => rw [runL]; rw [if_neg hp]
theorem runL_place {l : List Int} (hb : ∀ x ∈ l, 0 ≤ x ∧ x ≤ 255) : ∀ (f : Nat) (out : List (List Int)) (p : Int), 0 ≤ p → p ≤ l.length → 0 ≤ (runL f l out p).2 ∧ (runL f l out p).2 ≤ l.length
 | 0, out, p, h0, h1 => ⟨h0, h1⟩
 | f + 1, out, p, h0, h1 => by
  by_cases hp : p < l.length
  ·
   rw [run_in hp]
   cases h : stepL l out.length p with
   | none => exact ⟨h0, h1⟩
   | some r =>
    obtain ⟨d, q⟩ := r
    have h9 := stepL_some hb h
    exact runL_place hb f _ q (by omega) h9.2.2.1
  ·
   rw [run_end hp]; exact ⟨h0, h1⟩
theorem readL_place {l : List Int} (hb : ∀ x ∈ l, 0 ≤ x ∧ x ≤ 255) : 0 ≤ (readL l).2 ∧ (readL l).2 ≤ l.length := runL_place hb _ _ _ (by omega) (by omega)
theorem one_sl (a : Option Addr) (n c : Nat) : ∀ u ∈ [Value.slice a n c], u.oneCell' = true := fun u hu => by rw [List.mem_singleton] at hu; rw [hu]; rfl

end Go.Proofs.Ytejincmlblpaoaa.L11

namespace Go.Proofs.Ytejincmlblpaoaa.L11
open L2 L3

theorem entL_len (k : Int) (d : List Int) : (entL k d).length = (enc d.length).length + d.length + (enc (sumI k d)).length := by unfold entL; simp only [List.length_append]
theorem step_enc (p t d : List Int) (k : Nat) (hd : d.length ≤ 4000) : stepL (p ++ (entL k d ++ t)) k p.length = some (d, ((p.length + (entL k d).length : Nat) : Int)) := by
 obtain ⟨s, hs⟩ : ∃ s, sumI k d = s := ⟨_, rfl⟩
 have hsr := sum_range k d
 rw [hs] at hsr
 have e0 : p ++ (entL k d ++ t) = p ++ (enc d.length ++ (d ++ (enc s ++ t))) := by unfold entL; rw [hs]; simp only [List.append_assoc]
 have e1 : p ++ (entL k d ++ t) = (p ++ enc d.length ++ d) ++ (enc s ++ t) := by rw [e0]; simp only [List.append_assoc]
 have a1 := rd_enc p (d ++ (enc s ++ t)) d.length (by omega) (by omega)
 have a2 := rd_enc (p ++ enc d.length ++ d) t s (by omega) (by omega)
 rw [← e0] at a1
 rw [← e1] at a2
 have hLl : (p ++ (entL k d ++ t)).length = p.length + (enc d.length).length + d.length + (enc s).length + t.length := by rw [e1]; simp only [List.length_append]; omega
 have hel : (entL k d).length = (enc d.length).length + d.length + (enc s).length := by rw [entL_len, hs]
 obtain ⟨L, hL⟩ : ∃ L, L = p ++ (entL k d ++ t) := ⟨_, rfl⟩
 rw [← hL] at a1 a2 hLl ⊢
 have b1 := rdN_of a1
 have b2 := rdE_of a1
 have b3 := rdB_of a1
 have hb : rbB L p.length 4000 = true := by
  unfold rbB
  rw [b1, b2, b3]
  simp only [Bool.true_and, Bool.and_eq_true, decide_eq_true_eq]
  omega
 obtain ⟨y1, y2⟩ := rb_yes hb
 rw [b1, b2] at y1 y2
 have z1 : rbL L p.length 4000 = d := by
  rw [y1, hL, e1, show ((p.length : Int) + ((enc d.length).length : Nat)).toNat = (p ++ enc d.length).length by rw [List.length_append]; omega]
  rw [List.append_assoc (p ++ enc d.length), List.drop_left, Int.toNat_natCast, List.take_left]
 have z2 : rbE L p.length 4000 = ((p ++ enc d.length ++ d).length : Nat) := by rw [y2]; simp only [List.length_append]; omega
 have z3 := rdB_of a2
 have z4 := rdN_of a2
 have z5 := rdE_of a2
 unfold stepL
 rw [hb, z1, z2, z3, z4, z5, hs, if_pos (by simp)]
 refine congrArg some (Prod.ext rfl ?_)
 show _ = _
 simp only [List.length_append]
 omega
theorem step_app {log : List Int} (u : List Int) {k : Nat} {p : Int} {r : List Int × Int} (hb : ∀ x ∈ log, 0 ≤ x ∧ x ≤ 255) (h : stepL log k p = some r) : stepL (log ++ u) k p = some r := by
 obtain ⟨d, q⟩ := r
 obtain ⟨h0, h1, h2, h3, h4⟩ := stepL_some hb h
 have e : log ++ u = log.take p.toNat ++ (entL k d ++ (log.drop q.toNat ++ u)) := by
  rw [← h4, ← List.append_assoc, ← List.append_assoc]
  refine congrArg (· ++ u) ?_
  have e9 : log.drop q.toNat = (log.drop p.toNat).drop (q - p).toNat := by rw [List.drop_drop]; refine congrArg (log.drop ·) ?_; omega
  rw [e9, List.append_assoc, List.take_append_drop, List.take_append_drop]
 have hp : (log.take p.toNat).length = p.toNat := by rw [List.length_take]; omega
 have h9 := step_enc (log.take p.toNat) (log.drop q.toNat ++ u) d k h3
 rw [← e, hp] at h9
 have h8 := congrArg List.length h4
 rw [List.length_take, List.length_drop] at h8
 rw [show p = (p.toNat : Int) by omega, h9]
 refine congrArg some (Prod.ext rfl ?_)
 show ((_ : Nat) : Int) = q
 omega
theorem step_cut (p u v d : List Int) (k : Nat) (hd : d.length ≤ 4000) (hu : u ++ v = entL k d) (hv : v ≠ []) (hb : ∀ x ∈ p ++ u, 0 ≤ x ∧ x ≤ 255) : stepL (p ++ u) k p.length = none := by
 cases h : stepL (p ++ u) k p.length with
 | none => rfl
 | some r =>
  obtain ⟨d', q⟩ := r
  have h1 := step_app v hb h
  have h2 := step_enc p [] d k hd
  rw [List.append_nil, ← hu, ← List.append_assoc, h1] at h2
  have h3 := (stepL_some hb h).2.2.1
  injection h2 with h2
  injection h2 with _ h2
  have h4 : 0 < v.length := List.length_pos_iff.2 hv
  rw [List.length_append] at h2 h3
  omega
def catL : Nat → List (List Int) → List Int
 | _, [] => []
 | k, d :: ds => entL k d ++ catL (k + 1) ds
theorem catL_app : ∀ (ds es : List (List Int)) (k : Nat), catL k (ds ++ es) = catL k ds ++ catL (k + ds.length) es
 | [], es, k => rfl
 | d :: ds, es, k => by
  show entL k d ++ catL (k + 1) (ds ++ es) = (entL k d ++ catL (k + 1) ds) ++ _
  rw [catL_app ds es, List.append_assoc, List.length_cons, show k + 1 + ds.length = k + (ds.length + 1) by omega]
theorem run_cat : ∀ (ds : List (List Int)) (p t : List Int) (out : List (List Int)) (f : Nat), (∀ d ∈ ds, d.length ≤ 4000) →
  runL (f + ds.length) (p ++ (catL out.length ds ++ t)) out p.length = runL f (p ++ (catL out.length ds ++ t)) (out ++ ds) ((p ++ catL out.length ds).length : Nat)
 | [], p, t, out, f, hd => by
  have e : p ++ catL out.length [] = p := List.append_nil p
  rw [e, List.append_nil out]
  rfl
 | d :: ds, p, t, out, f, hd => by
  have hdl := hd d (List.mem_cons_self ..)
  have e0 : p ++ (catL out.length (d :: ds) ++ t) = p ++ (entL out.length d ++ (catL (out.length + 1) ds ++ t)) := by show p ++ ((entL out.length d ++ catL (out.length + 1) ds) ++ t) = _; rw [List.append_assoc]
  have e1 : p ++ (catL out.length (d :: ds) ++ t) = (p ++ entL out.length d) ++ (catL (out ++ [d]).length ds ++ t) := by rw [e0, List.length_append, List.append_assoc]; rfl
  have hs := step_enc p (catL (out.length + 1) ds ++ t) d out.length hdl
  rw [← e0] at hs
  have hel : 0 < (entL out.length d).length := by rw [entL_len, enc_in (by omega) (by omega)]; have := uv_len_pos (d.length : Int).toNat; omega
  have hlt : (p.length : Int) < ((p ++ (catL out.length (d :: ds) ++ t)).length : Nat) := by rw [e0]; simp only [List.length_append]; omega
  rw [List.length_cons, show f + (ds.length + 1) = (f + ds.length) + 1 by omega, run_in hlt, hs]
  show runL (f + ds.length) _ (out ++ [d]) _ = _
  have h9 := run_cat ds (p ++ entL out.length d) t (out ++ [d]) f (fun x hx => hd x (List.mem_cons_of_mem _ hx))
  rw [← e1] at h9
  rw [List.length_append] at h9
  rw [h9, List.append_assoc]
  refine congrArg (runL f _ _) ?_
  show ((_ : Nat) : Int) = _
  have e2 : p ++ catL out.length (d :: ds) = (p ++ entL out.length d) ++ catL (out ++ [d]).length ds := by show p ++ (entL out.length d ++ catL (out.length + 1) ds) = _; rw [List.length_append, List.append_assoc]; rfl
  rw [e2]
theorem entL_pos (k : Int) {d : List Int} (hd : d.length ≤ 4000) : 0 < (entL k d).length := by rw [entL_len, enc_in (by omega) (by omega)]; have := uv_len_pos (d.length : Int).toNat; omega
theorem catL_pos : ∀ (ds : List (List Int)) (k : Nat), (∀ d ∈ ds, d.length ≤ 4000) → ds.length ≤ (catL k ds).length
 | [], k, h => Nat.le_refl _
 | d :: ds, k, h => by
  show ds.length + 1 ≤ (entL k d ++ catL (k + 1) ds).length
  have h1 := catL_pos ds (k + 1) fun x hx => h x (List.mem_cons_of_mem _ hx)
  have h2 := entL_pos k (h d (List.mem_cons_self ..))
  rw [List.length_append]
  omega
theorem split_cut : ∀ (ds : List (List Int)) (k cut : Nat), (∀ d ∈ ds, d.length ≤ 4000) → cut ≤ (catL k ds).length →
  ∃ (n : Nat) (u : List Int), n ≤ ds.length ∧ (catL k ds).take cut = catL k (ds.take n) ++ u ∧ (u = [] ∨ ∃ d v, d ∈ ds ∧ v ≠ [] ∧ u ++ v = entL ((k + n : Nat) : Int) d) ∧ (catL k (ds.take n)).length ≤ cut ∧ (n < ds.length → cut < (catL k (ds.take (n + 1))).length)
 | [], k, cut, hd, h => ⟨0, [], Nat.le_refl _, by simp [catL], .inl rfl, Nat.zero_le _, fun h => absurd h (Nat.lt_irrefl _)⟩
 | d :: ds, k, cut, hd, h => by
  have h' : cut ≤ (entL k d ++ catL (k + 1) ds).length := h
  rw [List.length_append] at h'
  by_cases hc : cut < (entL k d).length
  ·
   refine ⟨0, (entL k d).take cut, Nat.zero_le _, ?_, .inr ⟨d, (entL k d).drop cut, List.mem_cons_self .., ?_, List.take_append_drop ..⟩, Nat.zero_le _, fun _ => ?_⟩
   ·
    show (entL k d ++ catL (k + 1) ds).take cut = [] ++ _
    rw [List.nil_append, List.take_append_of_le_length (by omega)]
   ·
    intro e
    have := congrArg List.length e
    rw [List.length_drop] at this
    simp at this
    omega
   ·
    show cut < (entL k d ++ catL (k + 1) (ds.take 0)).length
    rw [List.length_append]
    omega
  ·
   obtain ⟨n, u, h1, h2, h3, h4, h5⟩ := split_cut ds (k + 1) (cut - (entL k d).length) (fun x hx => hd x (List.mem_cons_of_mem _ hx)) (by omega)
   refine ⟨n + 1, u, by simpa using h1, ?_, ?_, ?_, ?_⟩
   ·
    show (entL k d ++ catL (k + 1) ds).take cut = (entL k d ++ catL (k + 1) (ds.take n)) ++ u
    rw [List.take_append, List.take_of_length_le (by omega), h2, List.append_assoc]
   ·
    rcases h3 with h3 | ⟨d', v, m1, m2, m3⟩
    ·
     exact .inl h3
    ·
     exact .inr ⟨d', v, List.mem_cons_of_mem _ m1, m2, by rw [m3, show k + (n + 1) = k + 1 + n by omega]⟩
   ·
    show (entL k d ++ catL (k + 1) (ds.take n)).length ≤ cut
    rw [List.length_append]
    omega
   ·
    intro hn
    have h6 := h5 (by simpa using hn)
    show cut < (entL k d ++ catL (k + 1) (ds.take (n + 1))).length
    rw [List.length_append]
    omega
theorem read_cut (ds : List (List Int)) (cut : Nat) (hd : ∀ d ∈ ds, d.length ≤ 4000) (hb : ∀ x ∈ catL 0 ds, 0 ≤ x ∧ x ≤ 255) (hc : cut ≤ (catL 0 ds).length) :
  ∃ n : Nat, n ≤ ds.length ∧ readL ((catL 0 ds).take cut) = (ds.take n, (((catL 0 (ds.take n)).length : Nat) : Int)) ∧ (catL 0 (ds.take n)).length ≤ cut ∧ (n < ds.length → cut < (catL 0 (ds.take (n + 1))).length) := by
 obtain ⟨n, u, h1, h2, h3, h4, h5⟩ := split_cut ds 0 cut hd hc
 refine ⟨n, h1, ?_, h4, h5⟩
 have hdn : ∀ d ∈ ds.take n, d.length ≤ 4000 := fun d hx => hd d (List.mem_of_mem_take hx)
 have hln := catL_pos (ds.take n) 0 hdn
 have htn : (ds.take n).length = n := by rw [List.length_take]; omega
 have hb2 : ∀ x ∈ catL 0 (ds.take n) ++ u, 0 ≤ x ∧ x ≤ 255 := fun x hx => hb x (List.mem_of_mem_take (h2 ▸ hx))
 rw [h2]
 have hll : (catL 0 (ds.take n) ++ u).length = (catL 0 (ds.take n)).length + u.length := List.length_append
 have h6 := run_cat (ds.take n) [] u [] ((catL 0 (ds.take n) ++ u).length - n + 1) hdn
 rw [List.nil_append, List.nil_append, List.nil_append, htn, show (catL 0 (ds.take n) ++ u).length - n + 1 + n = (catL 0 (ds.take n) ++ u).length + 1 by omega] at h6
 simp only [List.length_nil] at h6
 unfold readL
 refine h6.trans ?_
 by_cases hu : u = []
 ·
  rw [run_end (by rw [hll, hu]; simp)]
 ·
  have hul := List.length_pos_iff.2 hu
  rw [run_in (by rw [hll]; omega)]
  rcases h3 with h3 | ⟨d, v, m1, m2, m3⟩
  ·
   exact absurd h3 hu
  ·
   have h7 := step_cut (catL 0 (ds.take n)) u v d n (hd d m1) (by rw [m3, Nat.zero_add]) m2 hb2
   rw [htn, h7]
   rfl
theorem catL_split (ds : List (List Int)) (k n : Nat) : ∃ t, catL k ds = catL k (ds.take n) ++ t := ⟨_, by rw [← catL_app, List.take_append_drop]⟩
theorem catL_take_le (ds : List (List Int)) (k n : Nat) : (catL k (ds.take n)).length ≤ (catL k ds).length := by
 obtain ⟨t, ht⟩ := catL_split ds k n
 rw [ht, List.length_append]
 omega
theorem read_all (ds : List (List Int)) (hd : ∀ d ∈ ds, d.length ≤ 4000) (hb : ∀ x ∈ catL 0 ds, 0 ≤ x ∧ x ≤ 255) : readL (catL 0 ds) = (ds, (((catL 0 ds).length : Nat) : Int)) := by
 obtain ⟨n, h1, h2, h3, h4⟩ := read_cut ds (catL 0 ds).length hd hb (Nat.le_refl _)
 have hn : n = ds.length := by
  by_cases h : n < ds.length
  ·
   have h5 := h4 h
   have h6 := catL_take_le ds 0 (n + 1)
   omega
  ·
   omega
 subst hn
 rw [List.take_length] at h2
 rw [List.take_length] at h2
 exact h2
theorem rep_of (ds : List (List Int)) (cut n : Nat) (hr : readL ((catL 0 ds).take cut) = (ds.take n, (((catL 0 (ds.take n)).length : Nat) : Int))) (hc : (catL 0 (ds.take n)).length ≤ cut) : repL ((catL 0 ds).take cut) = catL 0 (ds.take n) := by
 obtain ⟨t, ht⟩ := catL_split ds 0 n
 unfold repL
 rw [hr]
 show ((catL 0 ds).take cut).take (((catL 0 (ds.take n)).length : Nat) : Int).toNat = _
 rw [Int.toNat_natCast, List.take_take, Nat.min_eq_left hc, ht, List.take_left]
theorem rep_all (ds : List (List Int)) (hd : ∀ d ∈ ds, d.length ≤ 4000) (hb : ∀ x ∈ catL 0 ds, 0 ≤ x ∧ x ≤ 255) : repL (catL 0 ds) = catL 0 ds := by
 unfold repL
 rw [read_all ds hd hb]
 show (catL 0 ds).take (((catL 0 ds).length : Nat) : Int).toNat = _
 rw [Int.toNat_natCast, List.take_length]
theorem cut_unique (ds : List (List Int)) (cut n m : Nat) (hd : ∀ d ∈ ds, d.length ≤ 4000) (h1 : n ≤ ds.length) (h2 : (catL 0 (ds.take n)).length ≤ cut) (h3 : n < ds.length → cut < (catL 0 (ds.take (n + 1))).length)
  (m1 : m ≤ ds.length) (m2 : (catL 0 (ds.take m)).length ≤ cut) (m3 : m < ds.length → cut < (catL 0 (ds.take (m + 1))).length) : n = m := by
 have key : ∀ a b : Nat, a < b → b ≤ ds.length → (catL 0 (ds.take (a + 1))).length ≤ (catL 0 (ds.take b)).length := fun a b hab hb => by
  have h := catL_take_le (ds.take b) 0 (a + 1)
  rw [List.take_take, Nat.min_eq_left (by omega)] at h
  exact h
 rcases Nat.lt_trichotomy n m with h | h | h
 ·
  have := key n m h m1; have := h3 (by omega); omega
 ·
  exact h
 ·
  have := key m n h h1; have := m3 (by omega); omega
end Go.Proofs.Ytejincmlblpaoaa.L11

namespace Go.Proofs.Ytejincmlblpaoaa.L11
open Go.ChangeShapes Go.WideShapes Go.ChangeAt Go.RowKit Mem Sl Ex L2 L3

theorem implMin_b (a b : Int) (w : World) :
  Calls Try.prog 35 #[.int .i64 a, .int .i64 b] w fun e w' => e = .returned (.int .i64 (min a b)) ∧ Below w.heap.size w w' := by
 have hc : (w.alloc (.cells #[.int .i64 b] 3)).cell? ⟨w.heap.size, 0, none⟩ = some (.int .i64 b) := by simp [go_sem]
 go_enter Try.func35, Try.ntmps35
 go_wp2_with (go_at_call 51; refine (L1.extremes_one _ _ _ _ hc).mono ?_; rintro e w' ⟨rfl, rfl⟩)
 go_ret
 exact ⟨rfl, by repeat (first | exact Below.refl _ _ | apply Below.drew | (refine Below.alloc ?_ (Nat.le_refl _) _))⟩
end Go.Proofs.Ytejincmlblpaoaa.L11

namespace Go.Proofs.Ytejincmlblpaoaa.L11
open L2 L3 Ex
open V (Y_ByteZ co_ByteZ vv_ByteZ rw_ByteZ)
open Go.ChangeShapes Go.WideShapes Go.ChangeAt Go.RowKit Mem Sl Sv Bag

theorem run_none {f : Nat} {l : List Int} {o : List (List Int)} {p : Int} {R : List (List Int) × Int} (h : runL f l o p = R) (hs : stepL l o.length p = none) : R = (o, p) := by
 cases f with
 | zero => exact h.symm
 | succ f =>
  by_cases hp : p < l.length
  ·
   rw [run_in hp, hs] at h; exact h.symm
  ·
   rw [run_end hp] at h; exact h.symm
theorem run_some {f : Nat} {l : List Int} (hb : ∀ x ∈ l, 0 ≤ x ∧ x ≤ 255) {o : List (List Int)} {p q : Int} {d : List Int} {R : List (List Int) × Int} (h : runL f l o p = R) (hf : (l.length : Int) - p < f) (hs : stepL l o.length p = some (d, q)) :
  p < q ∧ q ≤ l.length ∧ ∃ f', f = f' + 1 ∧ runL f' l (o ++ [d]) q = R := by
 have h9 := stepL_some hb hs
 obtain ⟨f', rfl⟩ : ∃ f', f = f' + 1 := ⟨f - 1, by omega⟩
 rw [run_in (by omega), hs] at h
 exact ⟨h9.2.1, h9.2.2.1, f', rfl, h⟩

theorem sumHi {w : World} {B : Nat} {a : Option Addr} {c m : Nat} {n : Int} {d : List Int} (hr : Reads w B a (ints .i64 ([101, n] ++ b2i d))) (hm : m = 2 + (b2i d).length) (hd : d.length ≤ 1000000000) :
  Calls Try.prog 41 #[.slice a m c] w fun e w' => e = .returned (.int .i64 (sumI n d)) ∧ w = w' := by
 have e2 : m = (101 :: n :: b2i d).length := by rw [hm]; simp; omega
 rw [e2]
 exact implHash_any a c _ w B hr (by simp [b2i]; omega)

set_option maxHeartbeats 4000000 in
theorem implCheckSum_any (n : Int) (a : Option Addr) (c : Nat) (d : List Int) (w : World) (hr : Reads w w.heap.size a (ints .u8 d)) (hb : Byt d) (hl : d.length ≤ 100000000) :
  Calls Try.prog 20 #[.int .i64 n, .slice a d.length c] w fun e w' => e = .returned (.int .i64 (sumI n d)) ∧ Below w.heap.size w w' := by
 have HB := Lib.hid (fun w1 (h : Below w.heap.size w w1) => implBytesToInts_any a c d w1 ((hr.below h).more h.size) hb (by omega))
 have hbl : (b2i d).length ≤ 1000000001 := by simp [b2i]; omega
 obtain ⟨D, hD⟩ : ∃ x, b2i d = x := ⟨_, rfl⟩
 rw [hD] at HB hbl
 have HD := Lib.hid hD
 have HDL := Lib.hid hl
 obtain ⟨L, hL⟩ : ∃ x, d.length = x := ⟨_, rfl⟩
 rw [hL] at HB ⊢
 clear hD hr hb hl hL
 obtain ⟨iI, hi1, hi2, hi3, hi4⟩ := infoI
 have HII := Lib.hid (And.intro hi1 (And.intro hi2 (And.intro hi3 hi4)))
 clear hi1 hi2 hi3 hi4
 have S1 := Lib.hid (show Sl.Sep w w [] from Sl.Sep.start w)
 go_enter Try.func20, Try.ntmps20
 go_wp2_with fail
 have S2 := Lib.hid (show Sl.Sep w (World.alloc w (.cells #[.int .i64 101, .int .i64 n] 3)) [Sl.own 3 .i64 (some ⟨w.heap.size, 0, none⟩) 2 ([101, n])] from Sl.Sep.pushOwn S1.out ((Below.refl _ _).alloc (Nat.le_refl _) _) (show Own (World.alloc w (.cells #[.int .i64 101, .int .i64 n] 3)) w.heap.size 3 .i64 (some ⟨w.heap.size, 0, none⟩) 2 [101, n] from own_lit w 3 .i64 [101, n] (Nat.le_refl _) (by simp [maxLen])))
 clear S1
 obtain ⟨g1, hg⟩ : ∃ g', g' = w.heap.size := ⟨_, rfl⟩
 rw [← hg] at S2 ⊢
 clear hg
 generalize w.alloc (.cells #[.int .i64 101, .int .i64 n] 3) = w1 at S2 ⊢
 go_at_call 42
 refine (HB.out _ S2.out.old).mono ?_
 rintro e w2 ⟨ba, bc, rfl, ho, hb⟩
 have S3 := Lib.hid (show Sl.Sep w _ [Sl.own 3 .i64 (some ⟨g1, 0, none⟩) 2 ([101, n]), Sl.own 3 .i64 ba bc D] from Sl.Sep.pushOwn S2.out hb ho)
 clear S2
 clear hb ho
 go_wp2_with (at_builtin; refine Sd.wpList_append_sep _ rfl _ _ 24 rfl 3 iI (.int .i64 0) 8 Try.underlying24 HII.out.1 HII.out.2.1 HII.out.2.2.1 HII.out.2.2.2 rfl .i64 _ 2 _ ([101, n]) rfl rfl _ _ S3.out 0 rfl _ _ _ _ D rfl rfl ((Sl.Sep.own S3.out 1 rfl).reads) (by unfold maxLen; simp; omega) (by simp; omega) ?_; intro a2' c2' w3 hA)
 have S4 := Lib.hid (show Sl.Sep w _ [Sl.own 3 .i64 a2' c2' ([101, n] ++ D), _] from hA)
 clear S3
 clear hA
 go_at_call 41
 have hq := (Sl.Sep.own S4.out 0 rfl).reads
 rw [← HD.out] at hq
 refine (sumHi hq (by rw [HD.out]) (by have := HDL.out; omega)).mono ?_
 rintro e wz ⟨rfl, rfl⟩
 clear hq
 go_wp2_with fail
 go_ret
 exact ⟨rfl, S4.out.old⟩

set_option maxHeartbeats 4000000 in
theorem implAppendLog_any (a a2 : Option Addr) (c c2 : Nat) (l d : List Int) (n : Int) (w : World) (hr : Reads w w.heap.size a (ints .u8 l)) (hc : l.length ≤ c) (hl : l.length ≤ 100000000) (hr2 : Reads w w.heap.size a2 (ints .u8 d)) (hb2 : Byt d) (hd : d.length ≤ 100000000) :
  Calls Try.prog 12 #[.slice a l.length c, .int .i64 n, .slice a2 d.length c2] w (GaveLB w (appL l n d) (appB l n d)) := by
 have HCS := Lib.hid (fun w1 (h : Below w.heap.size w w1) => implCheckSum_any n a2 c2 d w1 ((hr2.below h).more h.size) hb2 hd)
 have HAB := Lib.hid (fun (w1 : World) (h : Below w.heap.size w w1) => implAppendBytes_any a a2 c c2 l d w1 ((hr.below h).more h.size) ((hr2.below h).more h.size) hc (by omega) (by omega))
 have HTB := Lib.hid (fun (w1 : World) (h : Below w.heap.size w w1) => take_any a c l 0 l.length w1 ((hr.below h).more h.size) hc (by omega) (by omega) (by omega))
 rw [show (l.drop 0).take (l.length - 0) = l from by simp] at HTB
 have hXl : (l ++ enc d.length ++ d).length ≤ 300000000 := by have h1 := enc_len (d.length : Int); simp only [List.length_append]; omega
 obtain ⟨X, hX⟩ : ∃ x, l ++ enc d.length ++ d = x := ⟨_, rfl⟩
 rw [hX] at HAB hXl
 obtain ⟨s, hs⟩ : ∃ x, sumI n d = x := ⟨_, rfl⟩
 rw [hs] at HCS
 have HY := Lib.hid (show X ++ enc s = l ++ entL n d from by rw [← hX, ← hs]; unfold entL; simp only [List.append_assoc])
 have HR := Lib.hid (show appL l n d = (if appB l n d then X ++ enc s else l) ∧ appB l n d = (!(decide (n < 0)) && decide ((X ++ enc s).length ≤ 4000)) from by rw [HY.out]; exact ⟨rfl, rfl⟩)
 obtain ⟨Y, hY⟩ : ∃ x, X ++ enc s = x := ⟨_, rfl⟩
 rw [hY] at HR
 have HXY := Lib.hid hY
 have hYl : Y.length ≤ 300000100 := by have h1 := enc_len s; rw [← hY, List.length_append]; omega
 obtain ⟨RL, hRL⟩ : ∃ x, appL l n d = x := ⟨_, rfl⟩
 obtain ⟨RB, hRB⟩ : ∃ x, appB l n d = x := ⟨_, rfl⟩
 rw [hRL, hRB] at HR ⊢
 clear hX hs hY hRL hRB HY
 unfold Gave at HTB
 obtain ⟨L, hL⟩ : ∃ x, l.length = x := ⟨_, rfl⟩
 have HLL := Lib.hid hL
 obtain ⟨M, hM⟩ : ∃ x, d.length = x := ⟨_, rfl⟩
 rw [hL, hM] at HAB
 rw [hM] at HCS
 rw [hL] at HTB
 rw [hL, hM]
 have hl' : L ≤ 100000000 := by omega
 clear hr hr2 hb2 hd hM hl hL hc
 obtain ⟨iB, hi1, hi2, hi3, hi4⟩ := infoB
 have HIB := Lib.hid (And.intro hi1 (And.intro hi2 (And.intro hi3 hi4)))
 clear hi1 hi2 hi3 hi4
 have S1 := Lib.hid (show Sl.Sep w w [] from Sl.Sep.start w)
 go_enter Try.func12, Try.ntmps12
 go_wp2_with fail
 go_at_call 33
 refine (HAB.out _ S1.out.old).mono ?_
 rintro e w1 ⟨xa, xc, rfl, ho, hb⟩
 have S2 := Lib.hid (show Sl.Sep w _ [Sl.own 5 .u8 xa xc X] from Sl.Sep.pushOwn S1.out hb ho)
 clear S1
 clear hb ho
 go_wp2_with fail
 go_at_call 20
 refine (HCS.out _ S2.out.old).mono ?_
 rintro e w2 ⟨rfl, hb⟩
 have S3 := Lib.hid (S2.out.keep hb)
 clear S2
 clear hb
 go_wp2_with fail
 have HX := Lib.hid (Sl.Sep.ownAt S3.out 0 rfl)
 go_at_call 32
 refine (extend_any _ xa xc X s _ HX.out (by omega) S3.out.old.size).mono ?_
 rintro e w3 ⟨ya, yc, rfl, ho, hb⟩
 rw [HXY.out] at ho ⊢
 have HO := Lib.hid ho
 have HBB := Lib.hid (S3.out.old.trans hb)
 clear ho hb HX S3
 by_cases hn0 : n < 0
 ·
  skip
  go_wp2_with fail
  go_at_call 34
  refine (HTB.out _ HBB.out).mono ?_
  rintro e wz ⟨ta, tc, rfl, ho, hb⟩
  go_wp2_with fail
  go_ret2
  obtain ⟨e1, e2⟩ := HR.out
  have e3 : RB = false := by rw [e2, decide_eq_true hn0]; rfl
  rw [e3, if_neg Bool.false_ne_true] at e1
  rw [e1, e3]
  have e9 := HLL.out
  subst e9
  exact ⟨_, _, rfl, ho.base HBB.out.size, HBB.out.trans (hb.mono HBB.out.size)⟩
 ·
  skip
  by_cases hy : (4000 : Int) < (Y.length : Int)
  ·
   skip
   go_wp2_with fail
   go_at_call 34
   refine (HTB.out _ HBB.out).mono ?_
   rintro e wz ⟨ta, tc, rfl, ho, hb⟩
   go_wp2_with fail
   go_ret2
   obtain ⟨e1, e2⟩ := HR.out
   have e3 : RB = false := by rw [e2, decide_eq_false (by omega : ¬ Y.length ≤ 4000), Bool.and_false]
   rw [e3, if_neg Bool.false_ne_true] at e1
   rw [e1, e3]
   have e9 := HLL.out
   subst e9
   exact ⟨_, _, rfl, ho.base HBB.out.size, HBB.out.trans (hb.mono HBB.out.size)⟩
  ·
   skip
   go_wp2_with fail
   go_ret2
   obtain ⟨e1, e2⟩ := HR.out
   have e3 : RB = true := by rw [e2, decide_eq_true (by omega : Y.length ≤ 4000), decide_eq_false (by omega : ¬ n < 0)]; rfl
   rw [e3] at e1
   rw [e1, e3]
   exact ⟨_, _, rfl, HO.out, HBB.out⟩
set_option maxHeartbeats 8000000 in
theorem implReadLog_any (a : Option Addr) (c : Nat) (l : List Int) (hb : Byt l) (hc : l.length ≤ c) (hl : l.length ≤ 100000000) (w : World) (hr : Reads w w.heap.size a (ints .u8 l)) :
  Calls Try.prog 14 #[.slice a l.length c] w (GaveRL w (readL l)) := by
 obtain ⟨R, hR⟩ : ∃ x, readL l = x := ⟨_, rfl⟩
 rw [hR]
 have HR0 := Lib.hid (show runL (l.length + 1) l [] 0 = R from hR)
 have HRB := Lib.hid (fun (o : Int) (h0 : 0 ≤ o) (h1 : o ≤ l.length) (w1 : World) (h : Below w.heap.size w w1) => implReadBytes_any a c l o 4000 w1 ((hr.below h).more h.size) hb hc (by omega) (by omega) (by omega))
 have HRD := Lib.hid (fun (o : Int) (h0 : 0 ≤ o) (h1 : o ≤ l.length) (w1 : World) (h : Below w.heap.size w w1) => implReadB_any a c l o w1 _ (Nat.le_refl _) ((hr.below h).more h.size) hb hc (by omega) (by omega) (by omega))
 have HBL := Lib.hid (And.intro hb hl)
 obtain ⟨L, hL⟩ : ∃ n, n = l.length := ⟨_, rfl⟩
 have HLE := Lib.hid hL
 rw [← hL] at HRB HRD hl ⊢
 clear hL hb hc hr hR
 obtain ⟨iS, hi1, hi2, hi3, hi4⟩ := infoS
 have HIS := Lib.hid (And.intro hi1 (And.intro hi2 (And.intro hi3 hi4)))
 clear hi1 hi2 hi3 hi4
 have S1 := Lib.hid (show Sl.Sep w w [] from Sl.Sep.start w)
 have S2 := Lib.hid (show Sl.Sep w (w.alloc (.cells #[] 22)) [Sv.ownV 22 1 (some ⟨w.heap.size, 0, none⟩) 0 0 ([])] from Sv.push_own S1.out ((Below.refl _ _).alloc (Nat.le_refl _) _) (OwnV.madeAt w 22 1 0 w.heap.size #[] rfl (Nat.le_refl _) rfl (by decide)))
 clear S1
 have S3 := Lib.hid (show Sl.Sep w _ [Sv.ownV 22 1 (some ⟨w.heap.size, 0, none⟩) 0 0 ([]), Bag.bag ([])] from push_none S2.out)
 clear S2
 go_enter Try.func14, Try.ntmps14
 go_wp2
 go_step3
 go_wp2
 go_step3
 go_wp2
 go_loopw [4, 5] (fun s i wr => ∃ (A : Option Addr) (C : Nat) (ys : List Y_ByteZ) (p : Int) (f : Nat), s = .slice A ys.length C ∧ i = .int .i64 p ∧ 0 ≤ p ∧ p ≤ L ∧ (ys.length : Int) ≤ p ∧ L - p < f ∧ Hid (runL f l (ys.map co_ByteZ) p = R ∧ Sl.Sep w wr [Sv.ownV 22 1 A C ys.length (ys.map vv_ByteZ), Bag.bag (ys.flatMap rw_ByteZ)])) (fun _ i _ => L - (intOf i).toNat)
 case atStart => exact ⟨_, _, [], 0, L + 1, rfl, rfl, by omega, by omega, by simp, by omega, And.intro (by rw [HLE.out]; exact HR0.out) S3.out⟩
 case round =>
  obtain ⟨A, C, ys, p, f, rfl, rfl, hp0, hp1, hyl, hf, hrel⟩ := hrel
  have HI := Lib.hid hrel.out.1
  have S9 := Lib.hid hrel.out.2
  clear hrel
  clear S3
  obtain ⟨m, hm⟩ : ∃ m, ys.length = m := ⟨_, rfl⟩
  have HM := Lib.hid hm
  rw [hm] at hyl
  have hmm : m ≤ 100000000 := by omega
  rw [hm] at S9 ⊢
  clear hm
  have HA := HRB.out p hp0 hp1
  have hq1 := rb_place HBL.out.1 p 4000
  have hz1 := rb_size l p 4000
  have hy1 := rb_byt HBL.out.1 p 4000
  rw [← HLE.out] at hq1 hz1
  have HNO := Lib.hid (fun (h : stepL l m p = none) => run_none HI.out (by rw [List.length_map, HM.out]; exact h))
  have HYE := Lib.hid (fun (d : List Int) (q : Int) (h : stepL l m p = some (d, q)) => run_some (q := q) (d := d) HBL.out.1 HI.out (by rw [← HLE.out]; exact hf) (by rw [List.length_map, HM.out]; exact h))
  rw [← HLE.out] at HYE
  clear HI
  have HSE := Lib.hid (show stepL l m p = if rbB l p 4000 && (rdB l (rbE l p 4000) && rdN l (rbE l p 4000) == sumI m (rbL l p 4000)) then some (rbL l p 4000, rdE l (rbE l p 4000)) else none from rfl)
  obtain ⟨ST, hST⟩ : ∃ x, stepL l m p = x := ⟨_, rfl⟩
  rw [hST] at HNO HYE HSE
  clear hST
  obtain ⟨J, eJ⟩ : ∃ x, rbL l p 4000 = x := ⟨_, rfl⟩
  obtain ⟨q1, eq1⟩ : ∃ x, rbE l p 4000 = x := ⟨_, rfl⟩
  obtain ⟨b1, eb1⟩ : ∃ x, rbB l p 4000 = x := ⟨_, rfl⟩
  unfold GaveT at HA
  rw [eJ, eq1, eb1] at HA HSE
  rw [eJ] at hz1 hy1
  rw [eq1] at hq1
  replace HA := Lib.hid HA
  clear eJ eq1 eb1
  have HD := HRD.out q1 hq1.1 hq1.2
  obtain ⟨n2, en2⟩ : ∃ x, rdN l q1 = x := ⟨_, rfl⟩
  obtain ⟨q2, eq2⟩ : ∃ x, rdE l q1 = x := ⟨_, rfl⟩
  obtain ⟨b2, eb2⟩ : ∃ x, rdB l q1 = x := ⟨_, rfl⟩
  unfold RdE at HD
  rw [en2, eq2, eb2] at HD HSE
  replace HD := Lib.hid HD
  clear en2 eq2 eb2
  have HCS := Lib.hid (fun (w1 : World) (a1 : Option Addr) (c1 : Nat) (h : Reads w1 w1.heap.size a1 (ints .u8 J)) => implCheckSum_any m a1 c1 J w1 h hy1 (by omega))
  obtain ⟨K, eK⟩ : ∃ x, sumI m J = x := ⟨_, rfl⟩
  rw [eK] at HSE HCS
  clear eK
  go_wp2_with fail
  go_at_call 37
  refine (HA.out _ S9.out.old).mono ?_
  rintro e w1 ⟨da, dc, rfl, ho0, hb⟩
  have ho : BagOwn w1 _ (rw_ByteZ ⟨da, dc, J⟩) := BagOwn.one ho0
  have S10 := Lib.hid (show Sl.Sep w _ [Sv.ownV 22 1 A C m (ys.map vv_ByteZ), Bag.bag (ys.flatMap rw_ByteZ), Bag.bag (rw_ByteZ ⟨da, dc, J⟩)] from Bag.push_bag S9.out hb ho)
  clear S9
  clear hb ho ho0
  go_wp2_with fail
  go_at_call 38
  refine (HD.out _ S10.out.old).mono ?_
  rintro e w2 ⟨rfl, hb⟩
  have S11 := Lib.hid (S10.out.keep hb)
  clear S10
  clear hb
  cases b1 with
  | false =>
   go_wp2_with fail
   try rw [Exit.noGoto_ret]
   go_ret2
   have hRR : R = (ys.map co_ByteZ, p) := HNO.out (by rw [HSE.out]; rfl)
   subst hRR
   have hm := HM.out
   subst hm
   have S12 := Lib.hid (show Sl.Sep w _ [Sv.ownV 22 1 A C ys.length (ys.map vv_ByteZ), Bag.bag (ys.flatMap rw_ByteZ)] from Bag.take S11.out [0, 1] (by rfl) (by decide))
   clear S11
   have S98 := Lib.hid (show Sl.Sep w _ [Bag.bag [row_BB A C ys], _] from Bag.bag_of_one S12.out 0 (r := row_BB A C ys) rfl)
   have S99 := Lib.hid (show Sl.Sep w _ [Bag.bag (rows_BB A C ys), Bag.bag []] from Bag.bag_join S98.out 0 1 (by decide) rfl rfl)
   exact ⟨A, C, ys, rfl, rfl, Bag.bag_from S99.out 0 rfl, S99.out.old⟩
  | true =>
   cases b2 with
   | false =>
    go_wp2_with fail
    try rw [Exit.noGoto_ret]
    go_ret2
    have hRR : R = (ys.map co_ByteZ, p) := HNO.out (by rw [HSE.out]; rfl)
    subst hRR
    have hm := HM.out
    subst hm
    have S12 := Lib.hid (show Sl.Sep w _ [Sv.ownV 22 1 A C ys.length (ys.map vv_ByteZ), Bag.bag (ys.flatMap rw_ByteZ)] from Bag.take S11.out [0, 1] (by rfl) (by decide))
    clear S11
    have S98 := Lib.hid (show Sl.Sep w _ [Bag.bag [row_BB A C ys], _] from Bag.bag_of_one S12.out 0 (r := row_BB A C ys) rfl)
    have S99 := Lib.hid (show Sl.Sep w _ [Bag.bag (rows_BB A C ys), Bag.bag []] from Bag.bag_join S98.out 0 1 (by decide) rfl rfl)
    exact ⟨A, C, ys, rfl, rfl, Bag.bag_from S99.out 0 rfl, S99.out.old⟩
   | true =>
    go_wp2_with fail
    go_at_call 20
    refine (HCS.out _ _ _ (V.rd_ByteZ (z := ⟨da, dc, J⟩) (Bag.bag_rd S11.out 2 rfl))).mono ?_
    rintro e w3 ⟨rfl, hb⟩
    have S12 := Lib.hid (S11.out.keep hb)
    clear S11
    clear hb
    by_cases hk : n2 = K
    ·
     skip
     subst hk
     obtain ⟨hq3, hq4, f', rfl, HNX⟩ := HYE.out J q2 (by rw [HSE.out]; simp)
     replace HNX := Lib.hid HNX
     have S13 := Lib.hid (show Sl.Sep w (w3.alloc (.cells #[.slice da J.length dc] 22)) [Sv.ownV 22 1 A C m (ys.map vv_ByteZ), Bag.bag (ys.flatMap rw_ByteZ), Bag.bag (rw_ByteZ ⟨da, dc, J⟩), Sv.ownV 22 1 (some ⟨w3.heap.size, 0, none⟩) 1 1 ([.slice da J.length dc])] from Sv.push_own S12.out ((Below.refl _ _).alloc (Nat.le_refl _) _) (OwnV.madeAt w3 22 1 1 w3.heap.size #[.slice da J.length dc] rfl (Nat.le_refl _) rfl (by decide)))
     clear S12
     go_wp2_with (at_builtin; (refine Wv.wpList_append_v S13.out 0 rfl rfl _ _ 29 (by rfl) iS (.slice none 0 0) 24 Try.underlying29 HIS.out.1 HIS.out.2.1 HIS.out.2.2.1 HIS.out.2.2.2 rfl (by omega) _ (by rfl) rfl _ _ 1 _ _ [.slice da J.length dc] (by rfl) rfl (Sv.own_at S13.out 3 rfl).reads rfl (one_sl _ _ _) (by unfold maxLen; omega) (by omega) ?_; intro A2 C2 w9 hA))
     have S14 := Lib.hid (show Sl.Sep w w9 [Sv.ownV 22 1 A2 C2 (m + 1) (ys.map vv_ByteZ ++ [.slice da J.length dc]), Bag.bag (ys.flatMap rw_ByteZ), Bag.bag (rw_ByteZ ⟨da, dc, J⟩), Sv.ownV 22 1 (some ⟨w3.heap.size, 0, none⟩) 1 1 ([.slice da J.length dc])] from hA)
     clear S13
     clear hA
     have S15 := Lib.hid (show Sl.Sep w _ [_, Bag.bag (ys.flatMap rw_ByteZ ++ (rw_ByteZ ⟨da, dc, J⟩)), Bag.bag ([]), _] from Bag.bag_join S14.out 1 2 (by decide) rfl rfl)
     clear S14
     have S16 := Lib.hid (show Sl.Sep w _ [_, _] from Bag.take S15.out [0, 1] (by rfl) (by decide))
     clear S15
     go_roundw
     case rel => exact ⟨A2, C2, ys ++ [⟨da, dc, J⟩], q2, f', by simp [HM.out], rfl, by omega, by omega, by rw [List.length_append, HM.out]; simp; omega, by omega, And.intro (by rw [List.map_append]; exact HNX.out) (by simp only [List.map_append, List.flatMap_append, List.length_append, HM.out, List.map_cons, List.map_nil, List.flatMap_cons, List.flatMap_nil, List.append_nil, List.length_cons, List.length_nil]; exact S16.out)⟩
     case measure => simp [intOf]; omega
    ·
     skip
     go_wp2_with fail
     try rw [Exit.noGoto_ret]
     go_ret2
     have hRR : R = (ys.map co_ByteZ, p) := HNO.out (by rw [HSE.out]; simp [hk])
     subst hRR
     have hm := HM.out
     subst hm
     have S13 := Lib.hid (show Sl.Sep w _ [_, _] from Bag.take S12.out [0, 1] (by rfl) (by decide))
     clear S12
     have S98 := Lib.hid (show Sl.Sep w _ [Bag.bag [row_BB A C ys], _] from Bag.bag_of_one S13.out 0 (r := row_BB A C ys) rfl)
     have S99 := Lib.hid (show Sl.Sep w _ [Bag.bag (rows_BB A C ys), Bag.bag []] from Bag.bag_join S98.out 0 1 (by decide) rfl rfl)
     exact ⟨A, C, ys, rfl, rfl, Bag.bag_from S99.out 0 rfl, S99.out.old⟩
set_option maxHeartbeats 4000000 in
theorem implCrashLog_any (a a2 : Option Addr) (c c2 : Nat) (l g : List Int) (n : Int) (w : World) (hr : Reads w w.heap.size a (ints .u8 l)) (hc : l.length ≤ c) (hl : l.length ≤ 100000000) (hr2 : Reads w w.heap.size a2 (ints .u8 g)) (hg : g.length ≤ 100000000) :
  Calls Try.prog 13 #[.slice a l.length c, .int .i64 n, .slice a2 g.length c2] w (Gave w w.heap.size 5 .u8 (crashL l n g)) := by
 have HMX := Lib.hid (fun w => implMax_b n 0 w)
 have HMN := Lib.hid (fun w => implMin_b (max n 0) l.length w)
 obtain ⟨q0, hq0⟩ : ∃ x, max n 0 = x := ⟨_, rfl⟩
 rw [hq0] at HMN HMX
 obtain ⟨k, hk⟩ : ∃ x : Nat, min q0 (l.length : Int) = (x : Int) := ⟨(min q0 (l.length : Int)).toNat, by omega⟩
 rw [hk] at HMN
 have hkl : k ≤ l.length := by omega
 have HE := Lib.hid (show crashL l n g = l.take k ++ g from by unfold crashL; rw [show (max 0 (min n (l.length : Int))).toNat = k from by omega])
 have HTK := Lib.hid (fun (w1 : World) (h : Below w.heap.size w w1) => take_any a c l 0 k w1 ((hr.below h).more h.size) hc (by omega) (by omega) hkl)
 rw [show (l.drop 0).take (k - 0) = l.take k from by simp] at HTK
 obtain ⟨T, hT⟩ : ∃ x, l.take k = x := ⟨_, rfl⟩
 rw [hT] at HTK HE
 have hTl : T.length ≤ 100000000 := by rw [← hT, List.length_take]; omega
 obtain ⟨R, hR⟩ : ∃ x, crashL l n g = x := ⟨_, rfl⟩
 rw [hR] at HE ⊢
 have HL := Lib.hid hr2
 clear hr hr2 hR hq0 hk hT
 obtain ⟨L, hL⟩ : ∃ x, l.length = x := ⟨_, rfl⟩
 obtain ⟨M, hM⟩ : ∃ x, g.length = x := ⟨_, rfl⟩
 have HLM := Lib.hid hM
 rw [hL] at HMN HTK hc hl hkl ⊢
 rw [hM] at hg ⊢
 clear hL hM
 obtain ⟨iB, hi1, hi2, hi3, hi4⟩ := infoB
 have HIB := Lib.hid (And.intro hi1 (And.intro hi2 (And.intro hi3 hi4)))
 clear hi1 hi2 hi3 hi4
 have S1 := Lib.hid (show Sl.Sep w w [] from Sl.Sep.start w)
 go_enter Try.func13, Try.ntmps13
 go_wp2_with fail
 go_at_call 36
 refine (HMX.out _).mono ?_
 rintro e w1 ⟨rfl, hb⟩
 have S2 := Lib.hid (S1.out.keep hb)
 clear S1
 clear hb
 go_wp2_with fail
 go_at_call 35
 refine (HMN.out _).mono ?_
 rintro e w2 ⟨rfl, hb⟩
 have S3 := Lib.hid (S2.out.keep hb)
 clear S2
 clear hb
 go_wp2_with fail
 go_at_call 34
 refine (HTK.out _ S3.out.old).mono ?_
 rintro e w3 ⟨ta, tc, rfl, ho, hb⟩
 have S4 := Lib.hid (show Sl.Sep w _ [Sl.own 5 .u8 ta tc T] from Sl.Sep.pushOwn S3.out hb ho)
 clear S3
 clear hb ho
 go_wp2_with (at_builtin; (refine Sd.wpList_append_sep _ rfl _ _ 22 rfl 5 iB (.int .u8 0) 1 Try.underlying22 HIB.out.1 HIB.out.2.1 HIB.out.2.2.1 HIB.out.2.2.2 rfl .u8 _ _ _ T rfl rfl _ _ S4.out 0 rfl _ _ _ _ g rfl HLM.out.symm ((HL.out.below S4.out.old).more S4.out.old.size) (by unfold maxLen; rw [HLM.out]; omega) (by rw [HLM.out]; omega) ?_; intro a3' c3' wb hA2))
 have S5 := Lib.hid (show Sl.Sep w wb [Sl.own 5 .u8 a3' c3' (T ++ g)] from hA2)
 clear S4
 clear hA2
 go_ret
 rw [HE.out]
 exact Gave.mk (by simp [HLM.out]) (Sl.Sep.ownAt S5.out 0 rfl) S5.out.old
set_option maxHeartbeats 4000000 in
theorem implRepairLog_any (a : Option Addr) (c : Nat) (l : List Int) (hb : Byt l) (hc : l.length ≤ c) (hl : l.length ≤ 100000000) (w : World) (hr : Reads w w.heap.size a (ints .u8 l)) :
  Calls Try.prog 16 #[.slice a l.length c] w (Gave w w.heap.size 5 .u8 (repL l)) := by
 have HRL := Lib.hid (implReadLog_any a c l hb hc hl w hr)
 have hpl := readL_place hb
 obtain ⟨k, hk⟩ : ∃ k : Nat, (readL l).2 = (k : Int) := ⟨(readL l).2.toNat, by omega⟩
 have HE := Lib.hid (show repL l = l.take k from by unfold repL; rw [hk]; rfl)
 unfold GaveRL at HRL
 rw [hk] at HRL hpl
 have HTK := Lib.hid (fun (w1 : World) (h : Below w.heap.size w w1) => take_any a c l 0 k w1 ((hr.below h).more h.size) hc (by omega) (by omega) (by omega))
 rw [show (l.drop 0).take (k - 0) = l.take k from by simp, ← HE.out] at HTK
 obtain ⟨R, hR⟩ : ∃ x, repL l = x := ⟨_, rfl⟩
 rw [hR] at HTK ⊢
 clear HE
 obtain ⟨L, hL⟩ : ∃ x, l.length = x := ⟨_, rfl⟩
 rw [hL] at HRL HTK ⊢
 clear hL hr hR hk hb hpl hc hl
 go_enter Try.func16, Try.ntmps16
 go_wp2_with fail
 go_at_call 14
 refine HRL.out.mono ?_
 rintro e w1 ⟨ra, rc, ys, rfl, -, -, hb⟩
 go_wp2_with fail
 go_at_call 34
 refine (HTK.out _ hb).mono ?_
 rintro e w2 ⟨ta, tc, rfl, ho, hb2⟩
 go_wp2_with fail
 go_ret
 exact Gave.mk rfl (ho.base hb.size) (hb.trans (hb2.mono hb.size))
set_option maxHeartbeats 4000000 in
theorem implCountLog_any (a : Option Addr) (c : Nat) (l : List Int) (hb : Byt l) (hc : l.length ≤ c) (hl : l.length ≤ 100000000) (w : World) (hr : Reads w w.heap.size a (ints .u8 l)) :
  Calls Try.prog 17 #[.slice a l.length c] w fun e w' => e = .returned (.int .i64 (cntL l)) ∧ Below w.heap.size w w' := by
 have HRL := Lib.hid (implReadLog_any a c l hb hc hl w hr)
 unfold GaveRL at HRL
 have HE := Lib.hid (show cntL l = (readL l).1.length from rfl)
 obtain ⟨n, hn⟩ : ∃ x, cntL l = x := ⟨_, rfl⟩
 rw [hn] at HE ⊢
 obtain ⟨L, hL⟩ : ∃ x, l.length = x := ⟨_, rfl⟩
 rw [hL] at HRL ⊢
 clear hL hr hn hb hc hl
 go_enter Try.func17, Try.ntmps17
 go_wp2_with fail
 go_at_call 14
 refine HRL.out.mono ?_
 rintro e w1 ⟨ra, rc, ys, rfl, hys, -, hb⟩
 have he : ys.length = n := by rw [HE.out, ← hys, List.length_map]
 go_wp2_with fail
 go_ret
 exact ⟨by first | rfl | rw [he], hb⟩

end Go.Proofs.Ytejincmlblpaoaa.L11

