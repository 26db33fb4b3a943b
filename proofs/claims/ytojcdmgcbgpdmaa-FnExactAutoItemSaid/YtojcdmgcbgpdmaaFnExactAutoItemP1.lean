/-
  What the law FnExactAutoItem needs, laid by my program lawpack.py, part 1: the texts Reg, Tk, Frame, L1Base, Mem, Args, Sl, Ex, L2Num, L2App, Law, Draw1, Sd, Sv, L4Num, L1Num, L4Par, L2Rd, L2Rd2, L4Sp, L4Cmp, L4Law, L4Open, Bag, L5Num, L5Sp, L5Rec, L5Eq, L5Rem, L3Num, L3Fn, L5Enc, L5Eql, L4Cod, L6Num, L5Set, RegL, L6Sa, L5Opn, L6Opn, L1Fmt, L5Law, Run, L6La, one behind the other; each begins with its own words.
-/
import Derived.Test.YtojcdmgcbgpdmaaRows
import Derived.Deep.RegionHeld3
import Derived.WalkKit
import Derived.ProofKit
import Derived.OpenShut
import Derived.Below
import Derived.Carry
import Derived.ChangeSame
import Derived.BigQuiet
import Derived.Deep.QuietTactic
import Derived.Lib.Hide
import Derived.Laws.OwnMore
import Derived.Deep.Draws
import Derived.Laws.Rows
import Derived.Lib.BufferOwn
import Derived.Lib.SmallJoins
import Derived.Laws.Bits128
import Derived.Laws.BitsLemmas
import Derived.ChangeSlices
import Derived.SizedLaws
import Derived.OwnWalk
import Derived.Maps.AppendAt
import Derived.Laws.AppendOwnNone
import Derived.LoopTactic
import Derived.IntWalk
import Derived.Outline
import Derived.Laws.BitsAllLaws
import Derived.RegionTactic
import Derived.Lib.AtoiAllCases
import GoSem.Op.String
import Derived.Lib.ItoaNum
import Derived.Lib.ItoaLen
import Derived.Lib.AtoiTie
import Derived.Laws.BytesArg
import Derived.ChangeArms
import Derived.Deep.DeepCutAuto
import Derived.Deep.RegionLaw
import Derived.Lib.ConvBytes
import Derived.DataReads
import Derived.WalkLawsBesides
import Derived.WalkSpells
import Derived.Lib.AppendZerosOnto
import Derived.Laws.IdiomCopy
import Derived.Deep.AppendSrc
import Derived.Laws.StructEq
import Derived.Lib.Bytealg
import Derived.Lib.AppendStr
import Derived.ChangeKeysEq
set_option linter.unusedSimpArgs false
set_option linter.unusedVariables false
set_option maxRecDepth 100000
namespace Go.Proofs.Ytojcdmgcbgpdmaa.Args
end Go.Proofs.Ytojcdmgcbgpdmaa.Args
namespace Go.Proofs.Ytojcdmgcbgpdmaa.Bag
end Go.Proofs.Ytojcdmgcbgpdmaa.Bag
namespace Go.Proofs.Ytojcdmgcbgpdmaa.Closed
end Go.Proofs.Ytojcdmgcbgpdmaa.Closed
namespace Go.Proofs.Ytojcdmgcbgpdmaa.Draw
end Go.Proofs.Ytojcdmgcbgpdmaa.Draw
namespace Go.Proofs.Ytojcdmgcbgpdmaa.Ex
end Go.Proofs.Ytojcdmgcbgpdmaa.Ex
namespace Go.Proofs.Ytojcdmgcbgpdmaa.Frame
end Go.Proofs.Ytojcdmgcbgpdmaa.Frame
namespace Go.Proofs.Ytojcdmgcbgpdmaa.L1
end Go.Proofs.Ytojcdmgcbgpdmaa.L1
namespace Go.Proofs.Ytojcdmgcbgpdmaa.L2
end Go.Proofs.Ytojcdmgcbgpdmaa.L2
namespace Go.Proofs.Ytojcdmgcbgpdmaa.L3
end Go.Proofs.Ytojcdmgcbgpdmaa.L3
namespace Go.Proofs.Ytojcdmgcbgpdmaa.L4
end Go.Proofs.Ytojcdmgcbgpdmaa.L4
namespace Go.Proofs.Ytojcdmgcbgpdmaa.L5
end Go.Proofs.Ytojcdmgcbgpdmaa.L5
namespace Go.Proofs.Ytojcdmgcbgpdmaa.L6
end Go.Proofs.Ytojcdmgcbgpdmaa.L6
namespace Go.Proofs.Ytojcdmgcbgpdmaa.Law
end Go.Proofs.Ytojcdmgcbgpdmaa.Law
namespace Go.Proofs.Ytojcdmgcbgpdmaa.Mem
end Go.Proofs.Ytojcdmgcbgpdmaa.Mem
namespace Go.Proofs.Ytojcdmgcbgpdmaa.Reg
end Go.Proofs.Ytojcdmgcbgpdmaa.Reg
namespace Go.Proofs.Ytojcdmgcbgpdmaa.Run
end Go.Proofs.Ytojcdmgcbgpdmaa.Run
namespace Go.Proofs.Ytojcdmgcbgpdmaa.Sd
end Go.Proofs.Ytojcdmgcbgpdmaa.Sd
namespace Go.Proofs.Ytojcdmgcbgpdmaa.Sl
end Go.Proofs.Ytojcdmgcbgpdmaa.Sl
namespace Go.Proofs.Ytojcdmgcbgpdmaa.Sv
end Go.Proofs.Ytojcdmgcbgpdmaa.Sv
namespace Go.Proofs.Ytojcdmgcbgpdmaa.V
end Go.Proofs.Ytojcdmgcbgpdmaa.V
namespace Go.Proofs.Ytojcdmgcbgpdmaa.lawFnExactAutoItem
end Go.Proofs.Ytojcdmgcbgpdmaa.lawFnExactAutoItem
namespace Go.Proofs.Ytojcdmgcbgpdmaa.Reg
def nthO {α : Type} : Nat → List α → Option α
 | _, [] => none
 | 0, x :: _ => some x
 | i + 1, _ :: l => nthO i l
theorem nthO_eq {α : Type} : ∀ (l : List α) (i : Nat), l.toArray[i]? = nthO i l
 | [], i => by simp [nthO]
 | x :: l, 0 => by simp [nthO]
 | x :: l, i + 1 => by
  have := nthO_eq l i
  simp only [List.getElem?_toArray, List.getElem?_cons_succ] at this ⊢
  exact this
section
variable {P : Program} {l : List Oper} {Q : Exit → Act → World → Prop} {md : Region.Mode} {S : World → Prop} {fuel i : Nat} {oi : Oper} {v : Value} {listed : Array Bool} {a : Act} {w : World}
theorem take_op (hi : nthO i l = some oi) (hs : Region.noSelect l.toArray = true) (hf : Region.free md l.toArray listed i = true) (hr : (Region.ready md l.toArray listed).contains i = true)
  (hQ : ∀ c a w, Q (.panic c) (a.put oi.dst v) w → Q (.panic c) a w) (hw : Region.wanted oi (yielded l.toArray a.tmps) = true) (hy : ∀ w, S w → (execOp a.eval oi).run P w = .ok (.value v) w) (hS : S w)
  (h : wpAnyH P md l.toArray Q S fuel (listed.setIfInBounds i true) (a.put oi.dst v) w) : wpAnyH P md l.toArray Q S (fuel + 1) listed a w :=
 wpAnyH_take (by rw [nthO_eq]; exact hi) hs hf hr hQ (.inl ⟨hw, hy⟩) hS h
theorem skip_op (hi : nthO i l = some oi) (hs : Region.noSelect l.toArray = true) (hf : Region.free md l.toArray listed i = true) (hr : (Region.ready md l.toArray listed).contains i = true)
  (hQ : ∀ c a w, Q (.panic c) (a.put oi.dst undef) w → Q (.panic c) a w) (hw : Region.wanted oi (yielded l.toArray a.tmps) = false) (hS : S w)
  (h : wpAnyH P md l.toArray Q S fuel (listed.setIfInBounds i true) (a.put oi.dst undef) w) : wpAnyH P md l.toArray Q S (fuel + 1) listed a w :=
 wpAnyH_take (by rw [nthO_eq]; exact hi) hs hf hr hQ (.inr ⟨hw, rfl⟩) hS h
theorem one_op (hi : nthO i l = some oi) (hr : Region.ready md l.toArray listed = [i])
  (h : ∀ K' : Act → World → Prop, Shut (∀ a w, S w → (S w → wpAnyH P md l.toArray Q S fuel (listed.setIfInBounds i true) a w) → K' a w) → if Region.wanted oi (yielded l.toArray a.tmps) = true then Oper.wp P oi a w K' Q else K' (a.put oi.dst undef) w) :
  wpAnyH P md l.toArray Q S (fuel + 1) listed a w :=
 wpAnyH_ready hr (by simp) (AllReadyH.cons (by rw [nthO_eq]; exact hi) h AllReadyH.nil)
theorem cons_op {rs : List Nat} (hi : nthO i l = some oi)
  (h : ∀ K' : Act → World → Prop, Shut (∀ a w, S w → (S w → wpAnyH P md l.toArray Q S fuel (listed.setIfInBounds i true) a w) → K' a w) → if Region.wanted oi (yielded l.toArray a.tmps) = true then Oper.wp P oi a w K' Q else K' (a.put oi.dst undef) w)
  (hs : AllReadyH P md l.toArray Q S fuel listed a w rs) : AllReadyH P md l.toArray Q S fuel listed a w (i :: rs) := AllReadyH.cons (by rw [nthO_eq]; exact hi) h hs
theorem skip_one (hi : nthO i l = some oi) (hr : Region.ready md l.toArray listed = [i]) (hw : Region.wanted oi (yielded l.toArray a.tmps) = false) (hS : S w)
  (h : wpAnyH P md l.toArray Q S fuel (listed.setIfInBounds i true) (a.put oi.dst undef) w) : wpAnyH P md l.toArray Q S (fuel + 1) listed a w :=
 wpAnyH_all hr (by simp) (fun j hj => by
  obtain rfl := List.mem_singleton.1 hj
  unfold wpOp
  have hi' : l.toArray[j]? = some oi := by rw [nthO_eq]; exact hi
  rw [hi']
  simp only [hw]
  exact ⟨hS, h⟩)
end
end Go.Proofs.Ytojcdmgcbgpdmaa.Reg

set_option linter.unusedSimpArgs false
namespace Go.Proofs.Ytojcdmgcbgpdmaa
def Reg.okOp (md : Region.Mode) (l : List Oper) (listed : Array Bool) (i : Nat) : Bool := Region.noSelect l.toArray && (Region.free md l.toArray listed i && (Region.ready md l.toArray listed).contains i)
theorem zp0 (a : Act) (i : Nat) (v : Value) : a.put (some i) v = { a with tmps := a.tmps.setIfInBounds i v } := rfl
theorem zp1 {α : Type} (l : List α) (i : Nat) (x : α) : l.toArray.setIfInBounds i x = (l.set i x).toArray := List.setIfInBounds_toArray ..
theorem zp2 {α : Type} (l : List α) (x y : α) : (x :: l).set 0 y = y :: l := rfl
theorem zp3 {α : Type} (l : List α) (x y : α) (i : Nat) : (x :: l).set (i + 1) y = x :: l.set i y := rfl
theorem zp4 (a : Act) (v : Value) : a.put none v = a := rfl
section
variable {P : Program} {l : List Oper} {Q : Exit → Act → World → Prop} {md : Region.Mode} {S : World → Prop} {fuel : Nat} {oi : Oper} {v : Value} {listed : Array Bool} {a : Act} {w : World}
open Reg
theorem Reg.okOp_spec {i : Nat} (h : okOp md l listed i = true) : Region.noSelect l.toArray = true ∧ Region.free md l.toArray listed i = true ∧ (Region.ready md l.toArray listed).contains i = true := by
 unfold okOp at h
 simp only [Bool.and_eq_true] at h
 exact h
theorem tk (i : Nat) (hi : nthO i l = some oi) (h : wpAnyH P md l.toArray Q S fuel (listed.setIfInBounds i true) (a.put oi.dst v) w)
  (hk : okOp md l listed i = true := by kernel_rfl) (hw : Region.wanted oi (yielded l.toArray a.tmps) = true := by rfl)
  (hy : ∀ w, S w → (execOp a.eval oi).run P w = .ok (.value v) w := by (intro w hSw; (try dsimp only at hSw); go_simp; try with_reducible rfl))
  (hQ : ∀ c a w, Q (.panic c) (a.put oi.dst v) w → Q (.panic c) a w := by exact fun _ _ _ h => h) (hS : S w := by assumption) :
  wpAnyH P md l.toArray Q S (fuel + 1) listed a w :=
 take_op hi (okOp_spec hk).1 (okOp_spec hk).2.1 (okOp_spec hk).2.2 hQ hw hy hS h
theorem sk (i : Nat) (hi : nthO i l = some oi) (h : wpAnyH P md l.toArray Q S fuel (listed.setIfInBounds i true) (a.put oi.dst undef) w)
  (hk : okOp md l listed i = true := by kernel_rfl) (hw : Region.wanted oi (yielded l.toArray a.tmps) = false := by rfl)
  (hQ : ∀ c a w, Q (.panic c) (a.put oi.dst undef) w → Q (.panic c) a w := by exact fun _ _ _ h => h) (hS : S w := by assumption) :
  wpAnyH P md l.toArray Q S (fuel + 1) listed a w :=
 skip_op hi (okOp_spec hk).1 (okOp_spec hk).2.1 (okOp_spec hk).2.2 hQ hw hS h
end
end Go.Proofs.Ytojcdmgcbgpdmaa

namespace Go.Proofs.Ytojcdmgcbgpdmaa.Frame
open Go.ChangeShapes Go.WideShapes Go.ChangeAt Go.RowKit

section
variable {H : Type} {enc : TypeId × Value → H} {P : Program}

theorem trodAll_below (hl : laidOutB P = true) {W W' : World} (hb : Below W.heap.size W W') (sp : Nat → Bool) :
  ∀ {ts : List TypeId} {vs : List Value} {ds : List (DataW H)} {ps : List MemPlace}, (ts.all fun t => P.readableRec t && decide (t < P.types.size)) = true →
  DataW.TrodAll enc P W 0 (fun _ => true) true ts vs ds ps → (∀ x ∈ ps, x.block < W.heap.size) → (∀ p ∈ ps, sp p.block = true) → DataW.TrodAll enc P W' 0 sp true ts vs ds ps
 | [], vs, ds, ps, _, h, _, _ => by
  obtain ⟨rfl, rfl, rfl⟩ := trodAll_nil h
  exact trodAll_mk0
 | t :: ts, vs, ds, ps, hr, h, hlt, hs => by
  simp only [List.all_cons, Bool.and_eq_true, decide_eq_true_eq] at hr
  obtain ⟨v, vs', d, ds', p, q, rfl, rfl, rfl, h0, hr0⟩ := trodAll_cons h
  refine trodAll_cons_mk (WideElems.Trod_stays hl hr.1.1 hr.1.2 h0 (fun x hx => hb.same (hlt x (by simp [hx]))) (fun x hx => hs x (by simp [hx]))) ?_
  exact trodAll_below hl hb sp hr.2 hr0 (fun x hx => hlt x (by simp [hx])) (fun x hx => hs x (by simp [hx]))

theorem law_post {f : Func} {s : ChangeSpec} {apart fresh handsOn : Bool} {W W' : World} {args : Array Value} {ds : List (DataW H)} {p : List MemPlace} {tb : TypeId}
  (hvars : s.vars = []) (hW : DataW.Whole enc P f.params.toList s.vars apart W args.toList ds [] p)
  (hA : DataW.TrodAll enc P W 0 (fun _ => true) true f.params.toList args.toList ds p)
  (hs1 : (s.fn H (ds ++ [])).results = [.lit (.bool true)]) (hs2 : (s.fn H (ds ++ [])).args = ds) (hs3 : (s.fn H (ds ++ [])).vars = [])
  (hl : laidOutB P = true) (hr : (f.params.toList.all fun t => P.readableRec t && decide (t < P.types.size)) = true)
  (htb : f.resultTypes = #[tb]) (hb2 : P.underlying tb = some .bool) (hb : Below W.heap.size W W') :
  s.post enc P f apart fresh handsOn false W args (.bool true) W' := by
 have hlt : ∀ x ∈ p, x.block < W.heap.size := fun x hx => hW.lt x hx
 refine ⟨ds, [], p, [], p, [], hW, ?_, ?_, ?_, hb.frame _, fun h => by cases h⟩
 ·
  rw [hs1, htb]; exact trodAll_mk1 (shut_bool hb2 _)
 ·
  rw [hs2]; exact trodAll_below hl hb _ hr hA hlt (fun x hx => by simpa using hlt x hx)
 ·
  rw [hs3, hvars]; rfl
end
end Go.Proofs.Ytojcdmgcbgpdmaa.Frame

namespace Go.Proofs.Ytojcdmgcbgpdmaa.L1
open Go.ChangeShapes Go.WideShapes Go.ChangeAt Go.RowKit

def inB (n lo hi : Int) : Bool := decide (lo ≤ n) && decide (n ≤ hi)
theorem inB_true {n lo hi : Int} : inB n lo hi = true ↔ lo ≤ n ∧ n ≤ hi := by unfold inB; simp
theorem inB_false {n lo hi : Int} : inB n lo hi = false ↔ ¬ (lo ≤ n ∧ n ≤ hi) := by
  rw [← inB_true]; simp

theorem ret_bool {a b : Bool} (h : a = b) : Ending.returned (.bool a) = .returned (.bool b) := by rw [h]
theorem inRange_any (n lo hi : Int) (w : World) :
    Calls Try.prog 98 #[.int .i64 n, .int .i64 lo, .int .i64 hi] w fun e w' => e = .returned (.bool (inB n lo hi)) ∧ w = w' := by
  by_cases h1 : lo ≤ n <;> by_cases h2 : n ≤ hi <;>
    (go_enter Try.func98, Try.ntmps98
     go_wp2
     go_ret
     exact ⟨ret_bool (by unfold inB; simp [h1, h2]), rfl⟩)

theorem l1In_any (n lo hi : Int) (w : World) :
    Calls Try.prog 91 #[.int .i64 n, .int .i64 lo, .int .i64 hi] w fun e w' => e = .returned (.bool (inB n lo hi)) ∧ w = w' := by
  by_cases h1 : lo ≤ n <;> by_cases h2 : n ≤ hi <;>
    (go_enter Try.func91, Try.ntmps91
     go_wp2
     go_ret
     exact ⟨ret_bool (by unfold inB; simp [h1, h2]), rfl⟩)


end Go.Proofs.Ytojcdmgcbgpdmaa.L1

namespace Go.Proofs.Ytojcdmgcbgpdmaa.Mem
open Go.RowKit

def Row (w : World) (g : Nat) (t : TypeId) (cs : Array Value) : Prop := w.heap[g]? = some (.cells cs t (0, 0))

section
variable {w w' : World} {g : Nat} {t : TypeId} {cs : Array Value}
theorem Row.inside (h : Row w g t cs) : g < w.heap.size := (Array.getElem?_eq_some_iff.1 h).1
theorem Row.cell (h : Row w g t cs) (i : Nat) : w.cell? ⟨g, i, none⟩ = cs[i]? := cell_of_row w g i cs t (0, 0) h
theorem Row.free (h : Row w g t cs) (i : Nat) : w.frozen? ⟨g, i, none⟩ = false := by
 have h' : w.heap[g]? = some (.cells cs t (0, 0)) := h
 simp [World.frozen?, h']
theorem Row.made (w : World) (t : TypeId) (cs : Array Value) : Row (w.alloc (.cells cs t)) w.heap.size t cs := heap_alloc_new w _
theorem Row.more (h : Row w g t cs) (o : Obj) : Row (w.alloc o) g t cs := (Below.heap_alloc w o g h.inside).trans h
theorem Row.put (h : Row w g t cs) (i : Nat) (u : Value) : Row (w.setCell ⟨g, i, none⟩ u) g t (cs.setIfInBounds i u) := by
 have h' : w.heap[g]? = some (.cells cs t (0, 0)) := h
 show (w.setCell ⟨g, i, none⟩ u).heap[g]? = _
 simp [World.setCell, Array.getElem?_modify, h']
theorem Row.grown {row : Option Nat} (h : Row w g t cs) (hb : w.grownBy w' row) (hg : some g ≠ row) : Row w' g t cs := (hb.block g h.inside hg).trans h
theorem Row.below {B : Nat} (h : Row w g t cs) (hb : Below B w w') (hg : g < B) : Row w' g t cs := (hb.block g hg).trans h
end

theorem grownBy_refl (w : World) (row : Option Nat) : w.grownBy w row := ⟨rfl, rfl, rfl, Nat.le_refl _, fun _ _ _ => rfl⟩
theorem grownBy_put (w : World) (g i : Nat) (u : Value) : w.grownBy (w.setCell ⟨g, i, none⟩ u) (some g) :=
 ⟨rfl, rfl, rfl, by simp [World.setCell], fun k _ hne => Below.heap_setCell _ _ _ _ (fun e => hne (by subst e; rfl))⟩
theorem grownBy_step {a w w' : World} {row : Option Nat} (h : a.grownBy w row) (k : w.grownBy w' row) : a.grownBy w' row := _root_.Go.Lib.grownBy_trans h k
theorem below_of {B : Nat} {w w' : World} {row : Option Nat} (h : w.grownBy w' row) (hB : B ≤ w.heap.size) (hr : ∀ k, row = some k → B ≤ k) : Below B w w' := (Below.refl B w).grown h hB hr

theorem add_block (a : Addr) (n : Nat) : (a.add n).block = a.block := by unfold Addr.add; split <;> rfl

def Bytes (w : World) (B : Nat) (a : Option Addr) (len : Nat) : Prop :=
 ∀ j, j < len → ∃ ad n, a = some ad ∧ ad.block < B ∧ w.cell? (ad.add j) = some (.int .u8 n) ∧ 0 ≤ n ∧ n ≤ 255

theorem Bytes.below {w w' : World} {B : Nat} {a : Option Addr} {len : Nat} (h : Bytes w B a len) (hb : Below B w w') : Bytes w' B a len := fun j hj => by
 obtain ⟨ad, n, e, hB, hc, h0, h1⟩ := h j hj
 exact ⟨ad, n, e, hB, by rw [hb.cell (by rw [add_block]; exact hB)]; exact hc, h0, h1⟩

def Cur (B : Nat) (w : World) (c : Nat) : Prop :=
 B ≤ c ∧ ∃ (a : Option Addr) (len cap i : Nat) (h : Int), Row w c 177 #[.slice a len cap, .int .i64 i, .int .i64 h] ∧ i ≤ len ∧ len ≤ 4611686018427387904 ∧ Bytes w B a len

theorem Cur.grown {B : Nat} {w w' : World} {c : Nat} {row : Option Nat} (h : Cur B w c) (hb : w.grownBy w' row) (hc : some c ≠ row) (hr : ∀ k, row = some k → B ≤ k) (hB : B ≤ w.heap.size) : Cur B w' c := by
 obtain ⟨h0, a, len, cap, i, x, h1, h2, h3, h4⟩ := h
 exact ⟨h0, a, len, cap, i, x, h1.grown hb hc, h2, h3, h4.below (below_of hb hB hr)⟩

end Go.Proofs.Ytojcdmgcbgpdmaa.Mem

namespace Go.Proofs.Ytojcdmgcbgpdmaa.Args
open Go.ChangeShapes Go.WideShapes Go.ChangeAt Go.RowKit Mem

def Holds (w : World) (B : Nat) (a : Option Addr) (l : List UInt8) : Prop :=
 ∀ j (hj : j < l.length), ∃ ad, a = some ad ∧ ad.block < B ∧ w.cell? (ad.add j) = some (.int .u8 (l[j].toNat : Int))
theorem Holds.bytes {w : World} {B : Nat} {a : Option Addr} {l : List UInt8} (h : Holds w B a l) : Bytes w B a l.length := fun j hj => by
 obtain ⟨ad, e, hb, hc⟩ := h j hj
 exact ⟨ad, _, e, hb, hc, by omega, by have := l[j].toNat_lt; omega⟩
theorem Holds.below {w w' : World} {B : Nat} {a : Option Addr} {l : List UInt8} (h : Holds w B a l) (hb : Below B w w') : Holds w' B a l := fun j hj => by
 obtain ⟨ad, e, hB, hc⟩ := h j hj
 exact ⟨ad, e, hB, by rw [hb.cell (by rw [add_block]; exact hB)]; exact hc⟩

section
variable {H : Type} {enc : TypeId × Value → H} {P : Program}

end
end Go.Proofs.Ytojcdmgcbgpdmaa.Args

namespace Go.Proofs.Ytojcdmgcbgpdmaa.Sl
open Go.ChangeShapes Go.WideShapes Go.ChangeAt Go.RowKit Mem

def Reads (w : World) (B : Nat) (a : Option Addr) (l : List Value) : Prop :=
 ∀ j (hj : j < l.length), ∃ ad, a = some ad ∧ ad.block < B ∧ w.cell? (ad.add j) = some l[j]

def ints (k : IntKind) (l : List Int) : List Value := l.map (Value.int k)
@[simp] theorem ints_length (k : IntKind) (l : List Int) : (ints k l).length = l.length := List.length_map ..
theorem ints_get (k : IntKind) (l : List Int) (j : Nat) (h : j < l.length) : (ints k l)[j]'(by simpa using h) = .int k l[j] := List.getElem_map ..
theorem add_add (a : Addr) (i j : Nat) : (a.add i).add j = a.add (i + j) := by
 unfold Addr.add
 by_cases hi : i = 0 <;> by_cases hj : j = 0 <;> simp [hi, hj, Nat.add_assoc]

section
variable {w w' : World} {B B' : Nat} {a : Option Addr} {l : List Value}
theorem Reads.nil : Reads w B a [] := fun _ hj => absurd hj (by simp)
theorem Reads.keep (h : Reads w B a l) (hk : ∀ p : Addr, p.block < B → w'.cell? p = w.cell? p) : Reads w' B a l := fun j hj => by
 obtain ⟨ad, e, hb, hc⟩ := h j hj
 exact ⟨ad, e, hb, (hk _ (by rw [add_block]; exact hb)).trans hc⟩
theorem Reads.below (h : Reads w B a l) (hb : Below B w w') : Reads w' B a l := h.keep fun _ hp => hb.cell hp
theorem Reads.more (h : Reads w B a l) (hB : B ≤ B') : Reads w B' a l := fun j hj => by
 obtain ⟨ad, e, hb, hc⟩ := h j hj
 exact ⟨ad, e, by omega, hc⟩
theorem Reads.at_ (h : Reads w B a l) (j : Nat) (hj : j < l.length) : ∃ ad, a = some ad ∧ ad.block < B ∧ w.cell? (ad.add j) = some l[j] := h j hj
theorem Reads.int {k : IntKind} {l : List Int} (h : Reads w B a (ints k l)) (j : Nat) (hj : j < l.length) : ∃ ad, a = some ad ∧ ad.block < B ∧ w.cell? (ad.add j) = some (.int k l[j]) := by
 obtain ⟨ad, e, hb, hc⟩ := h j (by simpa using hj)
 exact ⟨ad, e, hb, by rw [hc, ints_get k l j hj]⟩
end

def Own (w : World) (B : Nat) (e : TypeId) (k : IntKind) (a : Option Addr) (c : Nat) (l : List Int) : Prop :=
 w.ownsRow B e 1 (.slice a l.length c) l.length (ints k l)

section
variable {w w' : World} {B B' : Nat} {e : TypeId} {k : IntKind} {a : Option Addr} {c : Nat} {l : List Int}
theorem Own.form (h : Own w B e k a c l) : (a = none ∧ l = [] ∧ c = 0) ∨ ∃ g, a = some ⟨g, 0, none⟩ ∧ B ≤ g ∧ g < w.heap.size ∧ l.length ≤ c ∧ c ≤ maxLen := by
 rcases h.2 with ⟨hv, hn⟩ | ⟨g, cap, cur, hv, hb, hg, h1, h2, _⟩
 ·
  injection hv with h1 h2 h3
  exact .inl ⟨h1, List.eq_nil_of_length_eq_zero hn, h3⟩
 ·
  injection hv with h3 h4 h5
  exact .inr ⟨g, h3, hb, (Array.getElem?_eq_some_iff.1 hg).1, by omega, by omega⟩
theorem Own.reads (h : Own w B e k a c l) : Reads w w.heap.size a (ints k l) := fun j hj => by
 rcases h.form with ⟨_, rfl, _⟩ | ⟨g, rfl, hb, hg, _⟩
 ·
  simp [ints] at hj
 ·
  exact ⟨_, rfl, hg, h.cells (g := g) rfl j _ (List.getElem?_eq_getElem hj)⟩
theorem Own.cap (h : Own w B e k a c l) : l.length ≤ c := by
 rcases h.form with ⟨_, rfl, _⟩ | ⟨g, rfl, hb, hg, h1, _⟩
 ·
  simp
 ·
  exact h1
theorem Own.base (h : Own w B e k a c l) (hB : B' ≤ B) : Own w B' e k a c l := by
 refine ⟨h.1, ?_⟩
 rcases h.2 with hv | ⟨g, cap, cur, hv, hb, r⟩
 ·
  exact .inl hv
 ·
  exact .inr ⟨g, cap, cur, hv, by omega, r⟩
theorem Own.lift (h : Own w B e k a c l) (hB : ∀ b ∈ (Value.slice a l.length c).ownBlock.toList, B' ≤ b) : Own w B' e k a c l := by
 refine ⟨h.1, ?_⟩
 rcases h.2 with hv | ⟨g, cap, cur, hv, hb, r⟩
 ·
  exact .inl hv
 ·
  exact .inr ⟨g, cap, cur, hv, hB g (by rw [hv]; simp [Value.ownBlock]), r⟩
theorem Own.below (h : Own w B e k a c l) (hb : Below w.heap.size w w') : Own w' B e k a c l := by
 refine ⟨h.1, ?_⟩
 rcases h.2 with hv | ⟨g, cap, cur, hv, hB, hg, r⟩
 ·
  exact .inl hv
 ·
  exact .inr ⟨g, cap, cur, hv, hB, (hb.block g (Array.getElem?_eq_some_iff.1 hg).1).trans hg, r⟩
theorem Own.empty (w : World) (e : TypeId) (k : IntKind) (hB : B ≤ w.heap.size) : Own (w.alloc (.cells #[] e)) B e k (some ⟨w.heap.size, 0, none⟩) 0 [] :=
 World.ownsRow_made w #[] 0 hB (Nat.zero_le _) rfl
end

def Gave (w : World) (B : Nat) (e : TypeId) (k : IntKind) (l : List Int) (en : Ending) (w' : World) : Prop := ∃ a c, en = .returned (.slice a l.length c) ∧ Own w' B e k a c l ∧ Below B w w'
theorem Gave.mk {w w' : World} {B : Nat} {e : TypeId} {k : IntKind} {l : List Int} {a : Option Addr} {c n : Nat} (hn : n = l.length) (ho : Own w' B e k a c l) (hb : Below B w w') : Gave w B e k l (.returned (.slice a n c)) w' := ⟨a, c, by rw [hn], ho, hb⟩


structure Res where
 fp : List Nat
 is : World → Prop
 loc : ∀ {w w' : World}, (∀ b ∈ fp, w'.heap[b]? = w.heap[b]?) → is w → is w'

def own (e : TypeId) (k : IntKind) (a : Option Addr) (c : Nat) (l : List Int) : Res where
 fp := (Value.slice a l.length c).ownBlock.toList
 is w := Own w 0 e k a c l
 loc := fun hs h => ⟨h.1, by
  rcases h.2 with hv | ⟨g, cap, cur, hv, hB, hg, r⟩
  ·
   exact .inl hv
  ·
   exact .inr ⟨g, cap, cur, hv, hB, (hs g (by rw [hv]; simp [Value.ownBlock])).trans hg, r⟩⟩

structure Turned (fp : List Nat) (w w' : World) : Prop where
 os : w'.os = w.os
 tape : w'.tape = w.tape
 output : w'.output = w.output
 size : w.heap.size ≤ w'.heap.size
 block : ∀ b, b < w.heap.size → b ∉ fp → w'.heap[b]? = w.heap[b]?
theorem Turned.of_grown {w w' : World} {r : Option Nat} (h : w.grownBy w' r) : Turned r.toList w w' :=
 ⟨h.os, h.tape, h.output, h.size, fun b hb hn => h.block b hb (fun e => hn (by rw [← e]; simp))⟩
theorem Turned.refl (fp : List Nat) (w : World) : Turned fp w w := ⟨rfl, rfl, rfl, Nat.le_refl _, fun _ _ _ => rfl⟩
theorem Turned.trans {fp : List Nat} {w w1 w2 : World} (h : Turned fp w w1) (k : Turned fp w1 w2) : Turned fp w w2 :=
 ⟨k.os.trans h.os, k.tape.trans h.tape, k.output.trans h.output, Nat.le_trans h.size k.size, fun b hb hn => (k.block b (Nat.lt_of_lt_of_le hb h.size) hn).trans (h.block b hb hn)⟩
theorem Turned.of_below {fp : List Nat} {w w' : World} (h : Below w.heap.size w w') : Turned fp w w' := ⟨h.os, h.tape, h.output, h.size, fun b hb _ => h.block b hb⟩
theorem Turned.below {fp : List Nat} {w w' : World} {B : Nat} (h : Turned fp w w') (hB : B ≤ w.heap.size) (hf : ∀ b ∈ fp, B ≤ b) : Below B w w' :=
 ⟨h.os, h.tape, h.output, h.size, fun b hb => h.block b (by omega) (fun hm => by have := hf b hm; omega)⟩

structure Sep (W w : World) (rs : List Res) : Prop where
 old : Below W.heap.size W w
 is : ∀ (i : Nat) (r : Res), rs[i]? = some r → r.is w
 lies : ∀ (i : Nat) (r : Res), rs[i]? = some r → ∀ b ∈ r.fp, W.heap.size ≤ b ∧ b < w.heap.size
 apart : ∀ (i j : Nat) (r s : Res), rs[i]? = some r → rs[j]? = some s → i ≠ j → ∀ b ∈ r.fp, b ∉ s.fp

section
variable {W w w' : World} {rs : List Res} {r r' : Res}
theorem Sep.start (W : World) : Sep W W [] := ⟨Below.refl _ _, fun i r h => by simp at h, fun i r h => by simp at h, fun i j r s h => by simp at h⟩
theorem Sep.keep (h : Sep W w rs) (hb : Below w.heap.size w w') : Sep W w' rs :=
 ⟨h.old.trans (hb.mono h.old.size), fun i r hi => r.loc (fun b hm => hb.block b (h.lies i r hi b hm).2) (h.is i r hi), fun i r hi b hm => ⟨(h.lies i r hi b hm).1, Nat.lt_of_lt_of_le (h.lies i r hi b hm).2 hb.size⟩, h.apart⟩
theorem Sep.push (h : Sep W w rs) (hb : Below w.heap.size w w') (hr : r.is w') (hf : ∀ b ∈ r.fp, w.heap.size ≤ b ∧ b < w'.heap.size) : Sep W w' (rs ++ [r]) := by
 have hk := h.keep hb
 have hsz := h.old.size
 have hlast : ∀ (i : Nat) (s : Res), (rs ++ [r])[i]? = some s → (rs[i]? = some s ∧ i < rs.length) ∨ (s = r ∧ i = rs.length) := fun i s hi => by
  rcases Nat.lt_trichotomy i rs.length with hl | hl | hl
  ·
   rw [List.getElem?_append_left hl] at hi
   exact .inl ⟨hi, hl⟩
  ·
   subst hl
   simp at hi
   exact .inr ⟨hi.symm, rfl⟩
  ·
   rw [List.getElem?_eq_none (by simp; omega)] at hi
   cases hi
 refine ⟨hk.old, fun i s hi => ?_, fun i s hi => ?_, fun i j s t hi hj hne => ?_⟩
 ·
  rcases hlast i s hi with ⟨h1, _⟩ | ⟨rfl, _⟩
  ·
   exact hk.is i s h1
  ·
   exact hr
 ·
  rcases hlast i s hi with ⟨h1, _⟩ | ⟨rfl, _⟩
  ·
   exact hk.lies i s h1
  ·
   exact fun b hm => ⟨by have := (hf b hm).1; omega, (hf b hm).2⟩
 ·
  rcases hlast i s hi with ⟨h1, e1⟩ | ⟨rfl, e1⟩ <;> rcases hlast j t hj with ⟨h2, e2⟩ | ⟨rfl, e2⟩
  ·
   exact h.apart i j s t h1 h2 hne
  ·
   exact fun b hm hm2 => by have := (h.lies i s h1 b hm).2; have := (hf b hm2).1; omega
  ·
   exact fun b hm hm2 => by have := (h.lies j t h2 b hm2).2; have := (hf b hm).1; omega
  ·
   omega
theorem Sep.put (h : Sep W w rs) (i : Nat) (hi : rs[i]? = some r) (ht : Turned r.fp w w') (hr : r'.is w') (hf : ∀ b ∈ r'.fp, b ∈ r.fp) : Sep W w' (rs.set i r') := by
 have hlt : i < rs.length := (List.getElem?_eq_some_iff.1 hi).1
 have hcase : ∀ (j : Nat) (s : Res), (rs.set i r')[j]? = some s → (j ≠ i ∧ rs[j]? = some s) ∨ (j = i ∧ s = r') := fun j s hj => by
  rw [List.getElem?_set] at hj
  by_cases e : i = j
  ·
   subst e
   rw [if_pos rfl, if_pos hlt] at hj
   exact .inr ⟨rfl, (Option.some.inj hj).symm⟩
  ·
   rw [if_neg e] at hj
   exact .inl ⟨fun e' => e e'.symm, hj⟩
 refine ⟨h.old.trans (ht.below h.old.size (fun b hm => (h.lies i r hi b hm).1)), fun j s hj => ?_, fun j s hj b hm => ?_, fun j k s t hj hk hne b hm hm2 => ?_⟩
 ·
  rcases hcase j s hj with ⟨hne, h1⟩ | ⟨rfl, rfl⟩
  ·
   exact s.loc (fun b hm => ht.block b (h.lies j s h1 b hm).2 (h.apart j i s r h1 hi hne b hm)) (h.is j s h1)
  ·
   exact hr
 ·
  rcases hcase j s hj with ⟨hne, h1⟩ | ⟨rfl, rfl⟩
  ·
   exact ⟨(h.lies j s h1 b hm).1, Nat.lt_of_lt_of_le (h.lies j s h1 b hm).2 ht.size⟩
  ·
   exact ⟨(h.lies _ r hi b (hf b hm)).1, Nat.lt_of_lt_of_le (h.lies _ r hi b (hf b hm)).2 ht.size⟩
 ·
  rcases hcase j s hj with ⟨hne1, h1⟩ | ⟨rfl, rfl⟩ <;> rcases hcase k t hk with ⟨hne2, h2⟩ | ⟨rfl, rfl⟩
  ·
   exact h.apart j k s t h1 h2 hne b hm hm2
  ·
   exact h.apart j _ s r h1 hi hne1 b hm (hf b hm2)
  ·
   exact h.apart k _ t r h2 hi hne2 b hm2 (hf b hm)
  ·
   exact hne rfl
theorem Sep.own {e : TypeId} {k : IntKind} {a : Option Addr} {c : Nat} {l : List Int} (h : Sep W w rs) (i : Nat) (hi : rs[i]? = some (Sl.own e k a c l)) : Own w 0 e k a c l := h.is i _ hi
theorem Sep.drews (h : Sep W w rs) (n : Nat) : Sep W (w.drewN n) rs := h.keep ⟨rfl, rfl, rfl, Nat.le_refl _, fun _ _ => rfl⟩
theorem Sep.alloc (h : Sep W w rs) (o : Obj) : Sep W (w.alloc o) rs := h.keep ((Below.refl _ _).alloc (Nat.le_refl _) o)
end

section
variable {P : Program} (w : World)
end

end Go.Proofs.Ytojcdmgcbgpdmaa.Sl

namespace Go.Proofs.Ytojcdmgcbgpdmaa.Ex
open Go.ChangeShapes Go.WideShapes Go.ChangeAt Go.RowKit Mem Sl

def marks (kd : IntKind) (k : Int) (n : Nat) : List Int := (List.range n).map fun (i : Nat) => kd.wrap (k + (i : Int))
@[simp] theorem marks_length (kd : IntKind) (k : Int) (n : Nat) : (marks kd k n).length = n := by simp [marks]
theorem set_step {α : Type} (x : α) (p q : List α) (y : α) (k : Nat) (hk : p.length = k) : (p ++ y :: q).set k x = (p ++ [x]) ++ q := by
 subst hk
 simp

theorem infoOf (e : TypeId) (z : Value) (s b : Nat) (h : (Try.prog.info? e).map (fun i => (i.zero, i.size, i.bytes)) = some (some z, s, b)) : ∃ i, Try.prog.info? e = some i ∧ i.zero = some z ∧ i.size = s ∧ i.bytes = b := info_parts h

theorem replicate_cons {α : Type} (x : α) (n k : Nat) (h : k < n) : List.replicate (n - k) x = x :: List.replicate (n - (k + 1)) x := by
 rw [show n - k = (n - (k + 1)) + 1 by omega, List.replicate_succ]


def Drew (w w' : World) : Prop := ∃ n, w' = w.drewN n
theorem Drew.refl (w : World) : Drew w w := ⟨0, rfl⟩
theorem Drew.more {w w1 : World} (h : Drew w w1) (n : Nat) : Drew w (w1.drewN n) := by
 obtain ⟨m, rfl⟩ := h
 exact ⟨m + n, World.drewN_drewN ..⟩
theorem Drew.below {w w' : World} (h : Drew w w') (B : Nat) : Below B w w' := by
 obtain ⟨n, rfl⟩ := h
 exact ⟨rfl, rfl, rfl, Nat.le_refl _, fun _ _ => rfl⟩
theorem Drew.trans {w w1 w2 : World} (h : Drew w w1) (k : Drew w1 w2) : Drew w w2 := by
 obtain ⟨n, rfl⟩ := k
 exact h.more n

end Go.Proofs.Ytojcdmgcbgpdmaa.Ex

namespace Go.Proofs.Ytojcdmgcbgpdmaa.L2

def uv (n : Nat) : List Int := if n < 128 then [(n : Int)] else ((n % 128 + 128 : Nat) : Int) :: uv (n / 128)
termination_by n
decreasing_by omega
def enc (n : Int) : List Int := if L1.inB n 0 1000000000000 = true then uv n.toNat else []
def rdAux : Nat → Int → List Int → Option (Int × Nat)
 | _, _, [] => none
 | k, v, c :: s =>
  if 6 ≤ k then none
  else if c < 128 then (if (c = 0 ∧ 0 < k) ∨ 1000000000000 < v + c % 128 * 128 ^ k then none else some (v + c % 128 * 128 ^ k, k + 1))
  else rdAux (k + 1) (v + c % 128 * 128 ^ k) s
def rd (l : List Int) (off : Int) : Option (Int × Nat) := if 0 ≤ off then rdAux 0 0 (l.drop off.toNat) else none
def rdN (l : List Int) (off : Int) : Int := match rd l off with | some (v, _) => v | none => 0
def rdE (l : List Int) (off : Int) : Int := match rd l off with | some (_, m) => off + m | none => 0
def rdB (l : List Int) (off : Int) : Bool := (rd l off).isSome

theorem rdN_of {l : List Int} {off v : Int} {m : Nat} (h : rd l off = some (v, m)) : rdN l off = v := by unfold rdN; rw [h]
theorem rdE_of {l : List Int} {off v : Int} {m : Nat} (h : rd l off = some (v, m)) : rdE l off = off + m := by unfold rdE; rw [h]
theorem rdB_of {l : List Int} {off v : Int} {m : Nat} (h : rd l off = some (v, m)) : rdB l off = true := by unfold rdB; rw [h]; rfl
end Go.Proofs.Ytojcdmgcbgpdmaa.L2

namespace Go.Proofs.Ytojcdmgcbgpdmaa.L2
open Go.ChangeShapes Go.WideShapes Go.ChangeAt Go.RowKit Mem Sl Ex

theorem info8 : (Try.prog.info? 5).map (fun i => (i.zero, i.size, i.bytes)) = some (some (.int .u8 0), 1, 1) := by kernel_rfl

theorem below_alloc {B : Nat} {w w' : World} (h : Below B w w') (o : Obj) (hB : B ≤ w.heap.size) : Below B w (w'.alloc o) := h.alloc (Nat.le_trans hB h.size) o
theorem below_own {B : Nat} {w w' : World} {e : TypeId} {k : IntKind} {a : Option Addr} {c : Nat} {l : List Int} (ho : Own w B e k a c l) (hg : w.grownBy w' (Value.slice a l.length c).ownBlock) (hB : B ≤ w.heap.size) : Below B w w' :=
 (Below.refl _ _).grown hg hB (fun k hk => (ho.lt k hk).1)

end Go.Proofs.Ytojcdmgcbgpdmaa.L2

namespace Go.Proofs.Ytojcdmgcbgpdmaa.Law
open Go.ChangeShapes Go.WideShapes Go.ChangeAt Go.RowKit Mem Sl Ex

section
variable {H : Type} {enc : TypeId × Value → H} {P : Program}
theorem wf_i64 {n : Int} (h : (Lit.int .i64 n).wf = true) : -9223372036854775808 ≤ n ∧ n ≤ 9223372036854775807 := by
 simpa [Lit.wf, IntKind.min, IntKind.max, IntKind.signed, IntKind.bits] using h
end

theorem Sep.drew {W w w' : World} {rs : List Res} (h : Sep W w rs) (hd : Drew w w') : Sep W w' rs := h.keep (hd.below _)

end Go.Proofs.Ytojcdmgcbgpdmaa.Law

namespace Go.Proofs.Ytojcdmgcbgpdmaa.Draw
open Go.ChangeShapes Go.WideShapes Go.ChangeAt Go.RowKit Mem

def On (B c : Nat) (w0 w : World) : Prop := Cur B w c ∧ w0.grownBy w (some c)
theorem On.start {B c : Nat} {w : World} (h : Cur B w c) : On B c w w := ⟨h, grownBy_refl w _⟩
theorem On.alloc {B c : Nat} {w0 w : World} (h : On B c w0 w) (o : Obj) : On B c w0 (w.alloc o) := by
 have hB : B ≤ w.heap.size := by
  obtain ⟨hc, a, len, cap, i, x, hr, _⟩ := h.1
  exact Nat.le_trans hc (Nat.le_of_lt hr.inside)
 exact ⟨h.1.grown (World.grownBy_alloc w o none) (by simp) (by simp) hB, grownBy_step h.2 (World.grownBy_alloc w o _)⟩
def Num (B c : Nat) (w0 : World) (P : Int → Prop) (e : Ending) (w' : World) : Prop := ∃ n, e = .returned (.int .i64 n) ∧ P n ∧ On B c w0 w'
def Ints (w : World) (P : Int → Prop) (b len : Nat) : Prop := ∀ j, j < len → ∃ v, w.cell? ⟨b, j, none⟩ = some (.int .i64 v) ∧ P v
theorem Ints.on {B c b len : Nat} {w0 w : World} {P : Int → Prop} (h : Ints w0 P b len) (ho : On B c w0 w) (hb : b < w0.heap.size) (hbc : b ≠ c) : Ints w P b len := fun j hj => by
 obtain ⟨v, hc, hp⟩ := h j hj
 exact ⟨v, by rw [World.cell?_of_block (ho.2.block b hb (by simpa using hbc))]; exact hc, hp⟩

def Strs (w : World) (P : ByteArray → Prop) (b len : Nat) : Prop := ∀ j, j < len → ∃ v, w.cell? ⟨b, j, none⟩ = some (.string v) ∧ P v
theorem Strs.on {B c b len : Nat} {w0 w : World} {P : ByteArray → Prop} (h : Strs w0 P b len) (ho : On B c w0 w) (hb : b < w0.heap.size) (hbc : b ≠ c) : Strs w P b len := fun j hj => by
 obtain ⟨v, hc, hp⟩ := h j hj
 exact ⟨v, by rw [World.cell?_of_block (ho.2.block b hb (by simpa using hbc))]; exact hc, hp⟩
theorem On.lt {B c : Nat} {w0 w : World} (h : On B c w0 w) : c < w.heap.size := by
 obtain ⟨hc, a, len, cap, i, x, hr, _⟩ := h.1
 exact hr.inside


end Go.Proofs.Ytojcdmgcbgpdmaa.Draw

namespace Go.Proofs.Ytojcdmgcbgpdmaa.Sd
open Go.ChangeShapes Go.WideShapes Go.ChangeAt Go.RowKit Mem Sl Ex Draw

section
variable {W w w' : World} {rs : List Res} {r r' : Res}
theorem put_new (h : Sep W w rs) (i : Nat) (hi : rs[i]? = some r) (ht : Turned r.fp w w') (hr : r'.is w') (hf : ∀ b ∈ r'.fp, b ∈ r.fp ∨ (w.heap.size ≤ b ∧ b < w'.heap.size)) : Sep W w' (rs.set i r') := by
 have hlt : i < rs.length := (List.getElem?_eq_some_iff.1 hi).1
 have hsz := h.old.size
 have hcase : ∀ (j : Nat) (s : Res), (rs.set i r')[j]? = some s → (j ≠ i ∧ rs[j]? = some s) ∨ (j = i ∧ s = r') := fun j s hj => by
  rw [List.getElem?_set] at hj
  by_cases e : i = j
  ·
   subst e
   rw [if_pos rfl, if_pos hlt] at hj
   exact .inr ⟨rfl, (Option.some.inj hj).symm⟩
  ·
   rw [if_neg e] at hj
   exact .inl ⟨fun e' => e e'.symm, hj⟩
 refine ⟨h.old.trans (ht.below h.old.size (fun b hm => (h.lies i r hi b hm).1)), fun j s hj => ?_, fun j s hj b hm => ?_, fun j k s t hj hk hne b hm hm2 => ?_⟩
 ·
  rcases hcase j s hj with ⟨hne, h1⟩ | ⟨rfl, rfl⟩
  ·
   exact s.loc (fun b hm => ht.block b (h.lies j s h1 b hm).2 (h.apart j i s r h1 hi hne b hm)) (h.is j s h1)
  ·
   exact hr
 ·
  rcases hcase j s hj with ⟨hne, h1⟩ | ⟨rfl, rfl⟩
  ·
   exact ⟨(h.lies j s h1 b hm).1, Nat.lt_of_lt_of_le (h.lies j s h1 b hm).2 ht.size⟩
  ·
   rcases hf b hm with h2 | h2
   ·
    exact ⟨(h.lies _ r hi b h2).1, Nat.lt_of_lt_of_le (h.lies _ r hi b h2).2 ht.size⟩
   ·
    exact ⟨by omega, h2.2⟩
 ·
  rcases hcase j s hj with ⟨hne1, h1⟩ | ⟨rfl, rfl⟩ <;> rcases hcase k t hk with ⟨hne2, h2⟩ | ⟨rfl, rfl⟩
  ·
   exact h.apart j k s t h1 h2 hne b hm hm2
  ·
   rcases hf b hm2 with h3 | h3
   ·
    exact h.apart j _ s r h1 hi hne1 b hm h3
   ·
    have := (h.lies j s h1 b hm).2; omega
  ·
   rcases hf b hm with h3 | h3
   ·
    exact h.apart k _ t r h2 hi hne2 b hm2 h3
   ·
    have := (h.lies k t h2 b hm2).2; omega
  ·
   exact hne rfl
end

section
variable {W w w' : World} {rs : List Res} {c : Nat}
end

section
variable {W w : World} {rs : List Res} {c : Nat}
end

section
variable {P : Program} (w : World)
end

end Go.Proofs.Ytojcdmgcbgpdmaa.Sd

namespace Go.Proofs.Ytojcdmgcbgpdmaa.Sv
open Go.ChangeShapes Go.WideShapes Go.ChangeAt Go.RowKit Mem Sl

def OwnV (w : World) (B : Nat) (e : TypeId) (k : Nat) (a : Option Addr) (c n : Nat) (xs : List Value) : Prop := w.ownsRow B e k (.slice a n c) n xs

section
variable {w w' : World} {B B' : Nat} {e : TypeId} {k : Nat} {a : Option Addr} {c n : Nat} {xs : List Value}
theorem OwnV.len (h : OwnV w B e k a c n xs) : xs.length = n * k := h.1
theorem OwnV.form (h : OwnV w B e k a c n xs) : (a = none ∧ n = 0 ∧ xs = [] ∧ c = 0) ∨ ∃ g, a = some ⟨g, 0, none⟩ ∧ B ≤ g ∧ g < w.heap.size ∧ n ≤ c ∧ c ≤ maxLen := by
 rcases h.2 with ⟨hv, hn⟩ | ⟨g, cap, cur, hv, hb, hg, h1, h2, _⟩
 ·
  injection hv with h1 h2 h3
  exact .inl ⟨h1, hn, List.eq_nil_of_length_eq_zero (by rw [h.1, hn, Nat.zero_mul]), h3⟩
 ·
  injection hv with h3 h4 h5
  exact .inr ⟨g, h3, hb, (Array.getElem?_eq_some_iff.1 hg).1, by omega, by omega⟩
theorem OwnV.cap (h : OwnV w B e k a c n xs) : n ≤ c := by
 rcases h.form with ⟨_, rfl, _⟩ | ⟨g, rfl, hb, hg, h1, _⟩
 ·
  simp
 ·
  exact h1
theorem OwnV.reads (h : OwnV w B e k a c n xs) : Reads w w.heap.size a xs := fun j hj => by
 rcases h.form with ⟨_, _, rfl, _⟩ | ⟨g, rfl, hb, hg, _⟩
 ·
  simp at hj
 ·
  exact ⟨_, rfl, hg, World.ownsRow.cells (g := g) h rfl j _ (List.getElem?_eq_getElem hj)⟩
theorem OwnV.base (h : OwnV w B e k a c n xs) (hB : B' ≤ B) : OwnV w B' e k a c n xs := by
 refine ⟨h.1, ?_⟩
 rcases h.2 with hv | ⟨g, cap, cur, hv, hb, r⟩
 ·
  exact .inl hv
 ·
  exact .inr ⟨g, cap, cur, hv, by omega, r⟩
theorem OwnV.lift (h : OwnV w B e k a c n xs) (hB : ∀ b ∈ (Value.slice a n c).ownBlock.toList, B' ≤ b) : OwnV w B' e k a c n xs := by
 refine ⟨h.1, ?_⟩
 rcases h.2 with hv | ⟨g, cap, cur, hv, hb, r⟩
 ·
  exact .inl hv
 ·
  exact .inr ⟨g, cap, cur, hv, hB g (by rw [hv]; simp [Value.ownBlock]), r⟩
theorem OwnV.below (h : OwnV w B e k a c n xs) (hb : Below w.heap.size w w') : OwnV w' B e k a c n xs := by
 refine ⟨h.1, ?_⟩
 rcases h.2 with hv | ⟨g, cap, cur, hv, hB, hg, r⟩
 ·
  exact .inl hv
 ·
  exact .inr ⟨g, cap, cur, hv, hB, (hb.block g (Array.getElem?_eq_some_iff.1 hg).1).trans hg, r⟩
theorem OwnV.alloc (h : OwnV w B e k a c n xs) (o : Obj) : OwnV (w.alloc o) B e k a c n xs := h.below ((Below.refl _ _).alloc (Nat.le_refl _) o)
theorem OwnV.nil (w : World) (B : Nat) (e : TypeId) (k : Nat) : OwnV w B e k none 0 0 [] := ⟨(Nat.zero_mul k).symm, .inl ⟨rfl, rfl⟩⟩
theorem OwnV.empty (w : World) (e : TypeId) (k : Nat) (hB : B ≤ w.heap.size) : OwnV (w.alloc (.cells #[] e)) B e k (some ⟨w.heap.size, 0, none⟩) 0 0 [] := by
 have := World.ownsRow_made (base := B) (e := e) (size := k) w #[] 0 hB (Nat.zero_le _) (Nat.zero_mul k).symm
 exact this
theorem OwnV.emptyAt (w : World) (e : TypeId) (k g : Nat) (hg : g = w.heap.size) (hB : B ≤ w.heap.size) : OwnV (w.alloc (.cells #[] e)) B e k (some ⟨g, 0, none⟩) 0 0 [] := by
 subst hg
 exact OwnV.empty w e k hB
theorem OwnV.madeAt (w : World) (e : TypeId) (k n g : Nat) (cs : Array Value) (hg : g = w.heap.size) (hB : B ≤ w.heap.size) (hn : cs.size = n * k) (hm : n ≤ maxLen) : OwnV (w.alloc (.cells cs e)) B e k (some ⟨g, 0, none⟩) n n cs.toList := by
 subst hg
 exact ⟨by simpa using hn, .inr ⟨w.heap.size, n, cs, rfl, hB, heap_alloc_new w _, Nat.le_refl _, hm, hn, by rw [← hn, ← Array.length_toList, List.take_length]⟩⟩
theorem OwnV.made (w : World) (e : TypeId) (k n : Nat) (cs : Array Value) (hB : B ≤ w.heap.size) (hn : cs.size = n * k) (hm : n ≤ maxLen) : OwnV (w.alloc (.cells cs e)) B e k (some ⟨w.heap.size, 0, none⟩) n n cs.toList :=
 ⟨by simpa using hn, .inr ⟨w.heap.size, n, cs, rfl, hB, heap_alloc_new w _, Nat.le_refl _, hm, hn, by rw [← hn, ← Array.length_toList, List.take_length]⟩⟩
theorem OwnV.far (h : OwnV w B e k a c n xs) (g j : Nat) (v : Value) (hg : g < B) : OwnV (w.setCell ⟨g, j, none⟩ v) B e k a c n xs := by
 refine ⟨h.1, ?_⟩
 rcases h.2 with hv | ⟨g', cap, cur, hv, hB, hg', r⟩
 ·
  exact .inl hv
 ·
  exact .inr ⟨g', cap, cur, hv, hB, (Below.heap_setCell w ⟨g, j, none⟩ v g' (by show g' ≠ g; omega)).trans hg', r⟩
theorem OwnV.cell {g : Nat} (h : OwnV w B e k (some ⟨g, 0, none⟩) c n xs) (j : Nat) (hj : j < xs.length) : w.cell? ⟨g, j, none⟩ = some xs[j] := by
 have := World.ownsRow.cells (g := g) h rfl j _ (List.getElem?_eq_getElem hj)
 rwa [Addr.add_lit, Nat.zero_add] at this
theorem OwnV.free {g : Nat} (h : OwnV w B e k (some ⟨g, 0, none⟩) c n xs) (j : Nat) : w.frozen? ⟨g, j, none⟩ = false := by
 rcases h.2 with ⟨hv, hn⟩ | ⟨g', cap, cur, hv, hb, hg, _⟩
 ·
  injection hv with h1; cases h1
 ·
  injection hv with h1
  injection h1 with h1
  injection h1 with h1
  subst h1
  simp [World.frozen?, hg]
theorem OwnV.set {g : Nat} (h : OwnV w B e k (some ⟨g, 0, none⟩) c n xs) (j : Nat) (hj : j < xs.length) (v : Value) : OwnV (w.setCell ⟨g, j, none⟩ v) B e k (some ⟨g, 0, none⟩) c n (xs.set j v) := by
 refine ⟨by simpa using h.1, ?_⟩
 rcases h.2 with ⟨hv, hn⟩ | ⟨g', cap, cur, hv, hb, hg, h1, h2, h3, h4⟩
 ·
  injection hv with h1; cases h1
 ·
  injection hv with e1 e2 e3
  injection e1 with e1
  injection e1 with e1
  subst e1
  refine .inr ⟨g, cap, cur.setIfInBounds j v, by rw [e3], hb, Row.put (w := w) (t := e) (cs := cur) hg j v, h1, h2, by simpa using h3, ?_⟩
  rw [Array.toList_setIfInBounds, List.take_set, h4]
end

def ownV (e : TypeId) (k : Nat) (a : Option Addr) (c n : Nat) (xs : List Value) : Res where
 fp := (Value.slice a n c).ownBlock.toList
 is w := OwnV w 0 e k a c n xs
 loc := fun hs h => ⟨h.1, by
  rcases h.2 with hv | ⟨g, cap, cur, hv, hB, hg, r⟩
  ·
   exact .inl hv
  ·
   exact .inr ⟨g, cap, cur, hv, hB, (hs g (by rw [hv]; simp [Value.ownBlock])).trans hg, r⟩⟩
section
variable {W w w' : World} {rs : List Res} {e : TypeId} {k : Nat} {a : Option Addr} {c n : Nat} {xs : List Value}
theorem own_at (h : Sep W w rs) (i : Nat) (hi : rs[i]? = some (ownV e k a c n xs)) : OwnV w 0 e k a c n xs := h.is i _ hi
theorem own_from (h : Sep W w rs) (i : Nat) (hi : rs[i]? = some (ownV e k a c n xs)) : OwnV w W.heap.size e k a c n xs :=
 (own_at h i hi).lift fun b hm => (h.lies i _ hi b hm).1
theorem push_own (h : Sep W w rs) (hb : Below w.heap.size w w') (ho : OwnV w' w.heap.size e k a c n xs) : Sep W w' (rs ++ [ownV e k a c n xs]) :=
 h.push hb (ho.base (Nat.zero_le _)) fun b hm => by
  rcases ho.form with ⟨rfl, _⟩ | ⟨g, rfl, h1, h2, _⟩
  ·
   simp [ownV, Value.ownBlock] at hm
  ·
   simp [ownV, Value.ownBlock] at hm
   subst hm
   exact ⟨h1, h2⟩
theorem set_own {g : Nat} (h : Sep W w rs) (i : Nat) (hi : rs[i]? = some (ownV e k (some ⟨g, 0, none⟩) c n xs)) (j : Nat) (hj : j < xs.length) (v : Value) : Sep W (w.setCell ⟨g, j, none⟩ v) (rs.set i (ownV e k (some ⟨g, 0, none⟩) c n (xs.set j v))) :=
 h.put i hi (Turned.of_grown (grownBy_put w g j v)) ((own_at h i hi).set j hj v) (fun b hb => hb)
end

theorem sep_sub {W w : World} {rs ts : List Res} (h : Sep W w rs) (f : Nat → Nat) (hf : ∀ i r, ts[i]? = some r → rs[f i]? = some r) (hi : ∀ i j, i < ts.length → j < ts.length → f i = f j → i = j) : Sep W w ts :=
 ⟨h.old, fun i r hr => h.is (f i) r (hf i r hr), fun i r hr => h.lies (f i) r (hf i r hr), fun i j r s hr hs hne => h.apart (f i) (f j) r s (hf i r hr) (hf j s hs) (fun e => hne (hi i j (List.getElem?_eq_some_iff.1 hr).1 (List.getElem?_eq_some_iff.1 hs).1 e))⟩
section
variable {P : Program} (w : World)
theorem run_append_rows (B : Nat) (t ty e : TypeId) (i : TypeInfo) (z : Value) (k bytes : Nat) (ht : P.underlying t = some (.slice e)) (hi : P.info? e = some i) (hz : i.zero = some z)
  (hsize : i.size = k) (hby : i.bytes = bytes) (hzs : z.cells.size = k) (hk : 0 < k) (a : Option Addr) (c n : Nat) (xs : List Value) (hown : OwnV w B e k a c n xs)
  (B' : Nat) (A : Option Addr) (c' m : Nat) (ys : List Value) (hr : Reads w B' A ys) (hy : ys.length = m * k) (hone : ∀ u ∈ ys, u.oneCell' = true)
  (h63 : n + m ≤ maxLen) (hbytes : (n + m) * bytes ≤ 140737488355328) (hbase : B ≤ w.heap.size) :
  ∃ a1 c1 w', (Builtin.append_ #[t, t] ty #[.slice a n c, .slice A m c']).run P w = .ok (.slice a1 (n + m) c1) w' ∧ OwnV w' B e k a1 c1 (n + m) (xs ++ ys) ∧ w.grownBy w' (Value.slice a n c).ownBlock ∧ ∀ b, (Value.slice a1 (n + m) c1).ownBlock = some b → (Value.slice a n c).ownBlock = some b ∨ b = w.heap.size := by
 have fin : ∀ {v' : Value} {w' : World}, w'.ownsRow B e k v' (n + m) (xs ++ ys) → ∃ a1 c1, v' = .slice a1 (n + m) c1 ∧ OwnV w' B e k a1 c1 (n + m) (xs ++ ys) := by
  intro v' w' h
  rcases h.2 with ⟨rfl, hn⟩ | ⟨g, cap, cur, rfl, _⟩
  ·
   refine ⟨none, 0, by rw [hn], ?_⟩
   unfold OwnV
   rw [hn]
   rw [hn] at h
   exact h
  ·
   exact ⟨_, cap, rfl, h⟩
 rcases A with _ | ad
 ·
  have hm : ys = [] := by
   rcases ys with _ | ⟨x, ys⟩
   ·
    rfl
   ·
    obtain ⟨ad, h, _⟩ := hr 0 (by simp)
    cases h
  subst hm
  have hm0 : m = 0 := by
   rcases Nat.eq_zero_or_pos m with h | h
   ·
    exact h
   ·
    have := Nat.mul_pos h hk
    simp at hy
    omega
  subst hm0
  have hrun : (Builtin.append_ #[t, t] ty #[.slice a n c, .slice none 0 c']).run P w = .ok (.slice a n c) w := by
   rcases hown.form with ⟨rfl, rfl, _, rfl⟩ | ⟨g, rfl, _, _, h1, _⟩
   ·
    simp [Builtin.append_, run_underlying ht, sizeOf, typeInfo, hi, Builtin.lenOf, Builtin.firstCells]
   ·
    simp [Builtin.append_, run_underlying ht, sizeOf, typeInfo, hi, Builtin.lenOf, Builtin.firstCells, h1, storeCells]
  exact ⟨a, c, w, by simpa using hrun, by simpa using hown, grownBy_refl w _, fun b hb => .inl (by
   cases a with
   | none => simp [Value.ownBlock] at hb
   | some ad => simpa [Value.ownBlock] using hb)⟩
 ·
  have hcells : ∀ j u, ys[j]? = some u → w.cell? (ad.add j) = some u := by
   intro j u hu
   have hj := (List.getElem?_eq_some_iff.1 hu).1
   obtain ⟨ad', h, _, hc⟩ := hr j hj
   injection h with h
   subst h
   rw [hc, ← hu, List.getElem?_eq_getElem hj]
  obtain ⟨v', w', hrun, h2, h3, -, h5⟩ := run_append_own_at (P := P) w B t ty e i z k bytes ht hi hz hsize hby hzs hk _ n xs hown ad m c' ys hy hcells hone h63 hbytes hbase
  obtain ⟨a1, c1, rfl, ho⟩ := fin h2
  refine ⟨a1, c1, w', hrun, ho, h3, fun b hb => ?_⟩
  rcases h5 with h5 | h5
  ·
   exact .inl (by rw [← h5]; exact hb)
  ·
   rw [h5] at hb
   exact .inr (Option.some.inj hb).symm
theorem wpList_append_rows {ops : Array Oper} {rest : List Oper} {o : Oper} {act : Act} {Q : Exit → Act → World → Prop} (hgd : o.guard = none) (s x : Operand) (t : TypeId)
  (ho : o.op = .call { callee := .builtin .append, args := #[s, x], argTypes := #[t, t] })
  (B : Nat) (e : TypeId) (i : TypeInfo) (z : Value) (k bytes : Nat) (ht : P.underlying t = some (.slice e)) (hi : P.info? e = some i) (hz : i.zero = some z)
  (hsize : i.size = k) (hby : i.bytes = bytes) (hzs : z.cells.size = k) (hk : 0 < k) (a : Option Addr) (n n1 c : Nat) (xs : List Value) (hs : act.eval s = .slice a n1 c) (hn : n1 = n) (hown : OwnV w B e k a c n xs)
  (B' : Nat) (A : Option Addr) (m m1 c' : Nat) (ys : List Value) (hx : act.eval x = .slice A m1 c') (hm : m1 = m) (hr : Reads w B' A ys) (hy : ys.length = m * k) (hone : ∀ u ∈ ys, u.oneCell' = true)
  (h63 : n + m ≤ maxLen) (hbytes : (n + m) * bytes ≤ 140737488355328) (hbase : B ≤ w.heap.size)
  (h : ∀ a1 c1 w', OwnV w' B e k a1 c1 (n + m) (xs ++ ys) → w.grownBy w' (Value.slice a n c).ownBlock → wpList P ops Q rest (act.put o.dst (.slice a1 (n + m) c1)) w') : wpList P ops Q (o :: rest) act w := by
 subst hn
 subst hm
 refine wpList_plain hgd fun K hK => ?_
 obtain ⟨a1, c1, w', hrun, h2, h3, -⟩ := run_append_rows (P := P) w B t o.type e i z k bytes ht hi hz hsize hby hzs hk a c n1 xs hown B' A c' m1 ys hr hy hone h63 hbytes hbase
 unfold Oper.wp execOp
 simp only [ho, resolve, invoke, builtin, Sem.run_bind, Sem.run_pure, Result.andThen_ok, List.map_toArray, List.map_cons, List.map_nil, hs, hx, hrun]
 exact hK _ _ (h a1 c1 w' h2 h3)
end
theorem step_append_s {P : Program} {W w : World} {rs : List Res} {e : TypeId} {k : Nat} {a : Option Addr} {c n : Nat} {xs : List Value} (S : Sep W w rs) (j : Nat) (hj : rs[j]? = some (ownV e k a c n xs))
  {ops : Array Oper} {o : Oper} {act : Act} {K : Act → World → Prop} {Q : Exit → Act → World → Prop} {E : Prop} (hgd : o.guard = none) (s x : Operand) (t : TypeId)
  (ho : o.op = .call { callee := .builtin .append, args := #[s, x], argTypes := #[t, t] })
  (i : TypeInfo) (z : Value) (bytes : Nat) (ht : P.underlying t = some (.slice e)) (hi : P.info? e = some i) (hz : i.zero = some z)
  (hsize : i.size = k) (hby : i.bytes = bytes) (hzs : z.cells.size = k) (hk : 0 < k) (n1 : Nat) (hs : act.eval s = .slice a n1 c) (hn : n1 = n)
  (B' : Nat) (A : Option Addr) (m m1 c' : Nat) (ys : List Value) (hx : act.eval x = .slice A m1 c') (hm : m1 = m) (hr : Reads w B' A ys) (hy : ys.length = m * k) (hone : ∀ u ∈ ys, u.oneCell' = true)
  (h63 : n + m ≤ maxLen) (hbytes : (n + m) * bytes ≤ 140737488355328)
  (h : ∀ a1 c1 w', Sep W w' (rs.set j (ownV e k a1 c1 (n + m) (xs ++ ys))) → K (act.put o.dst (.slice a1 (n + m) c1)) w') : if Region.wanted o (yielded ops act.tmps) = true then Oper.wp P o act w K Q else E := by
 have hw : Region.wanted o (yielded ops act.tmps) = true := by simp [Region.wanted, hgd]
 rw [if_pos hw]
 subst hn
 subst hm
 obtain ⟨a1, c1, w', hrun, h2, h3, h4⟩ := run_append_rows (P := P) w 0 t o.type e i z k bytes ht hi hz hsize hby hzs hk a c n1 xs (own_at S j hj) B' A c' m1 ys hr hy hone h63 hbytes (Nat.zero_le _)
 unfold Oper.wp execOp
 simp only [ho, resolve, invoke, builtin, Sem.run_bind, Sem.run_pure, Result.andThen_ok, List.map_toArray, List.map_cons, List.map_nil, hs, hx, hrun]
 refine h a1 c1 w' (Sd.put_new S j hj (Turned.of_grown h3) h2 fun b hb => ?_)
 have hb' : (Value.slice a1 (n1 + m1) c1).ownBlock = some b := by simpa [ownV] using hb
 rcases h4 b hb' with h5 | rfl
 ·
  exact .inl (by simp [ownV, h5])
 ·
  have := World.ownsRow.lt h2 _ hb'
  exact .inr ⟨Nat.le_refl _, this.2⟩
end Go.Proofs.Ytojcdmgcbgpdmaa.Sv

namespace Go.Proofs.Ytojcdmgcbgpdmaa.L4
open Go.Op (bytesLess)

theorem less_irrefl : ∀ (a : List UInt8), bytesLess a a = false
 | [] => rfl
 | x :: r => by simp [bytesLess, less_irrefl r]
theorem less_total : ∀ (a b : List UInt8), a ≠ b → bytesLess a b = false → bytesLess b a = true
 | [], [], h, _ => absurd rfl h
 | _ :: _, [], _, _ => rfl
 | [], _ :: _, _, h => by simp [bytesLess] at h
 | a :: x, b :: y, hne, h => by
  simp only [bytesLess, Bool.or_eq_false_iff, decide_eq_false_iff_not, UInt8.not_lt] at h
  obtain ⟨h1, h2⟩ := h
  by_cases e : a = b
  ·
   subst e
   simp at h2
   have := less_total x y (fun e2 => hne (by rw [e2])) h2
   simp [bytesLess, this]
  ·
   have : b < a := by
    rcases UInt8.lt_or_eq_of_le h1 with h3 | h3
    ·
     exact h3
    ·
     exact absurd h3.symm e
   simp [bytesLess, this]
theorem less_asymm : ∀ (a b : List UInt8), bytesLess a b = true → bytesLess b a = false
 | [], [], h => by simp [bytesLess] at h
 | _ :: _, [], h => by simp [bytesLess] at h
 | [], _ :: _, _ => rfl
 | a :: x, b :: y, h => by
  simp only [bytesLess, Bool.or_eq_true, decide_eq_true_eq, Bool.and_eq_true, beq_iff_eq] at h
  simp only [bytesLess, Bool.or_eq_false_iff, decide_eq_false_iff_not, UInt8.not_lt, Bool.and_eq_false_imp, beq_iff_eq]
  rcases h with h | ⟨rfl, h⟩
  ·
   exact ⟨UInt8.le_of_lt h, fun e => by subst e; exact absurd h (UInt8.lt_irrefl _)⟩
  ·
   exact ⟨UInt8.le_refl _, fun _ => less_asymm x y h⟩
theorem less_trans : ∀ (a b c : List UInt8), bytesLess a b = true → bytesLess b c = true → bytesLess a c = true
 | [], [], _, h1, _ => by simp [bytesLess] at h1
 | _ :: _, [], _, h1, _ => by simp [bytesLess] at h1
 | _, _ :: _, [], _, h2 => by simp [bytesLess] at h2
 | [], _ :: _, _ :: _, _, _ => by simp [bytesLess]
 | a :: x, b :: y, c :: z, h1, h2 => by
  simp only [bytesLess, Bool.or_eq_true, decide_eq_true_eq, Bool.and_eq_true, beq_iff_eq] at h1 h2 ⊢
  rcases h1 with h1 | ⟨rfl, h1⟩ <;> rcases h2 with h2 | ⟨rfl, h2⟩
  ·
   exact .inl (UInt8.lt_trans h1 h2)
  ·
   exact .inl h1
  ·
   exact .inl h2
  ·
   exact .inr ⟨rfl, less_trans x y z h1 h2⟩
theorem less_append : ∀ (x y u v : List UInt8), x.length = y.length → bytesLess (x ++ u) (y ++ v) = (bytesLess x y || (x == y && bytesLess u v))
 | [], [], u, v, _ => by simp [bytesLess]
 | _ :: _, [], _, _, h => by simp at h
 | [], _ :: _, _, _, h => by simp at h
 | a :: x, b :: y, u, v, h => by
  have ih := less_append x y u v (by simpa using h)
  simp only [List.cons_append, bytesLess, ih, List.cons_beq_cons]
  cases decide (a < b) <;> cases hab : (a == b) <;> simp

def sgn (a b : Bool) : Int := if a then -1 else if b then 1 else 0
def cmpL (x y : List UInt8) : Int := sgn (bytesLess x y) (!(bytesLess x y || x == y))
theorem cmpL_less {x y : List UInt8} (h : bytesLess x y = true) : cmpL x y = -1 := by simp [cmpL, sgn, h]
theorem cmpL_refl (x : List UInt8) : cmpL x x = 0 := by simp [cmpL, sgn, less_irrefl]
theorem cmpL_more {x y : List UInt8} (h : bytesLess y x = true) : cmpL x y = 1 := by
 have h1 := less_asymm y x h
 have h2 : x ≠ y := fun e => by subst e; rw [less_irrefl] at h; cases h
 simp [cmpL, sgn, h1, h2]
theorem cmpL_cases (x y : List UInt8) : (bytesLess x y = true ∧ cmpL x y = -1) ∨ (x = y ∧ cmpL x y = 0) ∨ (bytesLess y x = true ∧ cmpL x y = 1) := by
 cases h : bytesLess x y with
 | true => exact .inl ⟨rfl, cmpL_less h⟩
 | false =>
  by_cases e : x = y
  ·
   subst e; exact .inr (.inl ⟨rfl, cmpL_refl x⟩)
  ·
   have := less_total x y e h
   exact .inr (.inr ⟨this, cmpL_more this⟩)
theorem cmpL_swap (x y : List UInt8) : cmpL y x = -cmpL x y := by
 rcases cmpL_cases x y with ⟨h, e⟩ | ⟨rfl, e⟩ | ⟨h, e⟩
 ·
  rw [e, cmpL_more h]; rfl
 ·
  rw [e]; rfl
 ·
  rw [e, cmpL_less h]
theorem cmpL_zero {x y : List UInt8} : cmpL x y = 0 ↔ x = y := by
 rcases cmpL_cases x y with ⟨h, e⟩ | ⟨rfl, e⟩ | ⟨h, e⟩
 ·
  rw [e]; exact ⟨fun h => by omega, fun e => by subst e; rw [less_irrefl] at h; cases h⟩
 ·
  exact ⟨fun _ => rfl, fun _ => e⟩
 ·
  rw [e]; exact ⟨fun h => by omega, fun e => by subst e; rw [less_irrefl] at h; cases h⟩
theorem cmpL_append (x y u v : List UInt8) (h : x.length = y.length) : cmpL (x ++ u) (y ++ v) = if x = y then cmpL u v else cmpL x y := by
 by_cases e : x = y
 ·
  subst e
  rw [if_pos rfl]
  have e2 : (x ++ u == x ++ v) = (u == v) := by rw [Bool.eq_iff_iff, beq_iff_eq, beq_iff_eq, List.append_cancel_left_eq]
  simp [cmpL, less_append, less_irrefl, e2]
 ·
  rw [if_neg e]
  have e2 : (x ++ u == y ++ v) = false := by
   rw [beq_eq_false_iff_ne]
   exact fun h2 => e (List.append_inj h2 h).1
  have e3 : (x == y) = false := by simpa using e
  simp only [cmpL, less_append x y u v h, e2, e3, Bool.false_and, Bool.or_false]

def be : Nat → Nat → List UInt8
 | 0, _ => []
 | k + 1, m => UInt8.ofNat (m / 256 ^ k % 256) :: be k m
@[simp] theorem be_length : ∀ (k m : Nat), (be k m).length = k
 | 0, _ => rfl
 | k + 1, m => by simp [be, be_length k m]
theorem be_mod : ∀ (k m : Nat), be k m = be k (m % 256 ^ k)
 | 0, _ => rfl
 | k + 1, m => by
  have e1 : m % 256 ^ (k + 1) / 256 ^ k % 256 = m / 256 ^ k % 256 := by
   rw [Nat.pow_succ, Nat.mod_mul_right_div_self, Nat.mod_mod]
  have e2 : m % 256 ^ (k + 1) % 256 ^ k = m % 256 ^ k := Nat.mod_mod_of_dvd m ⟨256, by rw [Nat.pow_succ]⟩
  simp only [be, e1]
  rw [be_mod k m, be_mod k (m % 256 ^ (k + 1)), e2]
theorem ofNat_lt {a b : Nat} (ha : a < 256) (hb : b < 256) : (UInt8.ofNat a < UInt8.ofNat b) ↔ a < b := by
 rw [UInt8.lt_iff_toNat_lt, UInt8.toNat_ofNat', UInt8.toNat_ofNat', Nat.mod_eq_of_lt ha, Nat.mod_eq_of_lt hb]
theorem ofNat_inj {a b : Nat} (ha : a < 256) (hb : b < 256) (h : UInt8.ofNat a = UInt8.ofNat b) : a = b := by
 have := congrArg UInt8.toNat h
 rwa [UInt8.toNat_ofNat', UInt8.toNat_ofNat', Nat.mod_eq_of_lt ha, Nat.mod_eq_of_lt hb] at this
theorem be_less : ∀ (k m n : Nat), m < 256 ^ k → n < 256 ^ k → bytesLess (be k m) (be k n) = decide (m < n)
 | 0, m, n, hm, hn => by
  simp at hm hn
  subst hm; subst hn
  rfl
 | k + 1, m, n, hm, hn => by
  have hp : 0 < 256 ^ k := Nat.pow_pos (by decide)
  have qm : m / 256 ^ k < 256 := Nat.div_lt_of_lt_mul (by rw [Nat.pow_succ] at hm; exact hm)
  have qn : n / 256 ^ k < 256 := Nat.div_lt_of_lt_mul (by rw [Nat.pow_succ] at hn; exact hn)
  have ih := be_less k (m % 256 ^ k) (n % 256 ^ k) (Nat.mod_lt _ hp) (Nat.mod_lt _ hp)
  rw [← be_mod, ← be_mod] at ih
  simp only [be, bytesLess, ih, Nat.mod_eq_of_lt qm, Nat.mod_eq_of_lt qn]
  have dm := Nat.div_add_mod m (256 ^ k)
  have dn := Nat.div_add_mod n (256 ^ k)
  rcases Nat.lt_trichotomy (m / 256 ^ k) (n / 256 ^ k) with h | h | h
  ·
   rw [decide_eq_true ((ofNat_lt qm qn).2 h), Bool.true_or]
   symm
   rw [decide_eq_true_iff]
   exact Nat.lt_of_div_lt_div h
  ·
   have e1 : (UInt8.ofNat (m / 256 ^ k) < UInt8.ofNat (n / 256 ^ k)) = False := by rw [h]; simp [UInt8.lt_irrefl]
   have e2 : (UInt8.ofNat (m / 256 ^ k) == UInt8.ofNat (n / 256 ^ k)) = true := by rw [h]; simp
   rw [decide_eq_false (by rw [e1]; exact id), e2, Bool.false_or, Bool.true_and]
   rw [h] at dm
   rw [decide_eq_decide]
   omega
  ·
   rw [decide_eq_false (fun h2 => by rw [ofNat_lt qm qn] at h2; omega)]
   have e2 : (UInt8.ofNat (m / 256 ^ k) == UInt8.ofNat (n / 256 ^ k)) = false := by
    rw [beq_eq_false_iff_ne]
    exact fun e => by have := ofNat_inj qm qn e; omega
   rw [e2, Bool.false_and, Bool.or_false]
   symm
   rw [decide_eq_false_iff_not]
   have := Nat.lt_of_div_lt_div h
   omega
theorem be_inj (k m n : Nat) (hm : m < 256 ^ k) (hn : n < 256 ^ k) (h : be k m = be k n) : m = n := by
 have h1 := be_less k m n hm hn
 have h2 := be_less k n m hn hm
 rw [h, less_irrefl] at h1
 rw [h, less_irrefl] at h2
 have a := of_decide_eq_false h1.symm
 have b := of_decide_eq_false h2.symm
 omega

structure K where
 kind : Int
 n : Int
 text : ByteArray
def K.t (k : K) : List UInt8 := k.text.data.toList
theorem K.ext' {a b : K} (h1 : a.kind = b.kind) (h2 : a.n = b.n) (h3 : a.t = b.t) : a = b := by
 obtain ⟨k1, n1, ⟨⟨t1⟩⟩⟩ := a
 obtain ⟨k2, n2, ⟨⟨t2⟩⟩⟩ := b
 simp only [K.t] at h1 h2 h3
 subst h1; subst h2; subst h3
 rfl
def K.zero : K := ⟨0, 0, ⟨#[]⟩⟩
def chr (b : UInt8) : Bool := (decide (97 ≤ b.toNat) && decide (b.toNat ≤ 122)) || (decide (48 ≤ b.toNat) && decide (b.toNat ≤ 57))
def isT (l : List UInt8) : Bool := l.all chr && decide (l.length ≤ 12)
def isK (k : K) : Bool := L1.inB k.kind 1 3 && L1.inB k.n (-1000000000000) 1000000000000 && (k.kind != 2 || k.n == 0) && isT k.t && (k.kind != 1 || k.t == [])
structure Good (k : K) : Prop where
 k0 : 1 ≤ k.kind
 k1 : k.kind ≤ 3
 n0 : -1000000000000 ≤ k.n
 n1 : k.n ≤ 1000000000000
 n2 : k.kind = 2 → k.n = 0
 t : isT k.t = true
 t1 : k.kind = 1 → k.t = []
theorem isK_iff {k : K} : isK k = true ↔ Good k := by
 unfold isK
 simp only [Bool.and_eq_true, Bool.or_eq_true, bne_iff_ne, beq_iff_eq, L1.inB_true]
 constructor
 ·
  rintro ⟨⟨⟨⟨⟨a, b⟩, c, d⟩, e⟩, f⟩, g⟩
  exact ⟨a, b, c, d, fun h => e.resolve_left (fun h2 => h2 h), f, fun h => g.resolve_left (fun h2 => h2 h)⟩
 ·
  rintro ⟨a, b, c, d, e, f, g⟩
  refine ⟨⟨⟨⟨⟨a, b⟩, c, d⟩, ?_⟩, f⟩, ?_⟩
  ·
   by_cases h : k.kind = 2
   ·
    exact .inr (e h)
   ·
    exact .inl h
  ·
   by_cases h : k.kind = 1
   ·
    exact .inr (g h)
   ·
    exact .inl h
def cmpK (a b : K) : Int :=
 if !(isK a) || !(isK b) then 0 else if a.kind ≠ b.kind then sgn (decide (a.kind < b.kind)) true else if a.n ≠ b.n then sgn (decide (a.n < b.n)) true else cmpL a.t b.t
def num6 (k : K) : List UInt8 := if k.kind = 2 then [] else be 6 (k.n + 1000000000000).toNat
def encU (k : K) : List UInt8 := if isK k then UInt8.ofNat k.kind.toNat :: (num6 k ++ k.t) else []
theorem encU_good {k : K} (h : isK k = true) : encU k = UInt8.ofNat k.kind.toNat :: (num6 k ++ k.t) := by unfold encU; rw [if_pos h]
theorem cmpL_cons (a b : UInt8) (x y : List UInt8) : cmpL (a :: x) (b :: y) = if a = b then cmpL x y else cmpL [a] [b] := by
 have := cmpL_append [a] [b] x y rfl
 simpa using this
theorem cmpL_one {a b : Nat} (ha : a < 256) (hb : b < 256) (h : a ≠ b) : cmpL [UInt8.ofNat a] [UInt8.ofNat b] = sgn (decide (a < b)) true := by
 rcases Nat.lt_or_gt_of_ne h with h | h
 ·
  rw [cmpL_less (by simp [bytesLess, ofNat_lt ha hb, h])]
  simp [sgn, h]
 ·
  rw [cmpL_more (by simp [bytesLess, ofNat_lt hb ha, h])]
  have : ¬ a < b := by omega
  simp [sgn, this]
theorem cmp_enc {a b : K} (ha : isK a = true) (hb : isK b = true) : cmpL (encU a) (encU b) = cmpK a b := by
 have ga := isK_iff.1 ha
 have gb := isK_iff.1 hb
 have k1 := ga.k0; have k2 := ga.k1; have k3 := gb.k0; have k4 := gb.k1
 rw [encU_good ha, encU_good hb, cmpL_cons]
 unfold cmpK
 rw [ha, hb]
 simp only [Bool.not_true, Bool.or_self, Bool.false_eq_true, if_false]
 by_cases hk : a.kind = b.kind
 ·
  rw [if_pos (by rw [hk]), if_neg (fun h => h hk)]
  by_cases h2 : a.kind = 2
  ·
   have e1 : num6 a = [] := by unfold num6; rw [if_pos h2]
   have e2 : num6 b = [] := by unfold num6; rw [if_pos (by omega)]
   rw [e1, e2, if_neg (fun h => h (by rw [ga.n2 h2, gb.n2 (by omega)]))]
   rfl
  ·
   have e1 : num6 a = be 6 (a.n + 1000000000000).toNat := by unfold num6; rw [if_neg h2]
   have e2 : num6 b = be 6 (b.n + 1000000000000).toNat := by unfold num6; rw [if_neg (by omega)]
   have a0 := ga.n0; have a1 := ga.n1; have b0 := gb.n0; have b1 := gb.n1
   have p6 : (256 : Nat) ^ 6 = 281474976710656 := by decide
   rw [e1, e2, cmpL_append _ _ _ _ (by simp)]
   by_cases hn : a.n = b.n
   ·
    rw [if_pos (by rw [hn]), if_neg (fun h => h hn)]
   ·
    have hne : (a.n + 1000000000000).toNat ≠ (b.n + 1000000000000).toNat := by omega
    have hbn : be 6 (a.n + 1000000000000).toNat ≠ be 6 (b.n + 1000000000000).toNat := fun h => hne (be_inj 6 _ _ (by rw [p6]; omega) (by rw [p6]; omega) h)
    rw [if_neg hbn, if_pos hn]
    have e3 : (be 6 (a.n + 1000000000000).toNat == be 6 (b.n + 1000000000000).toNat) = false := by simpa using hbn
    unfold cmpL
    rw [e3, be_less 6 _ _ (by rw [p6]; omega) (by rw [p6]; omega), Bool.or_false]
    rw [show decide ((a.n + 1000000000000).toNat < (b.n + 1000000000000).toNat) = decide (a.n < b.n) by rw [decide_eq_decide]; omega]
    cases decide (a.n < b.n) <;> rfl
 ·
  have hne : a.kind.toNat ≠ b.kind.toNat := by omega
  have hbn : UInt8.ofNat a.kind.toNat ≠ UInt8.ofNat b.kind.toNat := fun h => hne (ofNat_inj (by omega) (by omega) h)
  rw [if_neg hbn, if_pos hk, cmpL_one (by omega) (by omega) hne]
  rw [show decide (a.kind.toNat < b.kind.toNat) = decide (a.kind < b.kind) by rw [decide_eq_decide]; omega]
theorem enc_inj {a b : K} (ha : isK a = true) (hb : isK b = true) (h : encU a = encU b) : a = b := by
 have ga := isK_iff.1 ha
 have gb := isK_iff.1 hb
 have k1 := ga.k0; have k2 := ga.k1; have k3 := gb.k0; have k4 := gb.k1
 have hc := cmp_enc ha hb
 rw [h, cmpL_refl] at hc
 unfold cmpK at hc
 rw [ha, hb] at hc
 simp only [Bool.not_true, Bool.or_self, Bool.false_eq_true, if_false] at hc
 by_cases hk : a.kind = b.kind
 ·
  rw [if_neg (fun h => h hk)] at hc
  by_cases hn : a.n = b.n
  ·
   rw [if_neg (fun h => h hn)] at hc
   exact K.ext' hk hn (cmpL_zero.1 hc.symm)
  ·
   rw [if_pos hn] at hc
   unfold sgn at hc
   split at hc <;> simp at hc
 ·
  rw [if_pos hk] at hc
  unfold sgn at hc
  split at hc <;> simp at hc
theorem cmpK_zero {a b : K} (ha : isK a = true) (hb : isK b = true) : cmpK a b = 0 ↔ a = b := by
 rw [← cmp_enc ha hb, cmpL_zero]
 exact ⟨enc_inj ha hb, fun h => by rw [h]⟩
theorem cmpK_swap (a b : K) : cmpK b a = -cmpK a b := by
 cases ha : isK a with
 | false => simp [cmpK, ha]
 | true => cases hb : isK b with
  | false => simp [cmpK, hb]
  | true => rw [← cmp_enc ha hb, ← cmp_enc hb ha, cmpL_swap]
end Go.Proofs.Ytojcdmgcbgpdmaa.L4

namespace Go.Proofs.Ytojcdmgcbgpdmaa.L1

def digs (u : Nat) : List UInt8 :=
 if _h : u = 0 then [] else digs (u / 10) ++ [UInt8.ofNat (48 + u % 10)]
termination_by u
decreasing_by omega

theorem digs_zero : digs 0 = [] := by rw [digs, dif_pos rfl]
theorem digs_step {u : Nat} (h : u ≠ 0) : digs u = digs (u / 10) ++ [UInt8.ofNat (48 + u % 10)] := by rw [digs, dif_neg h]
theorem digs_eq (u : Nat) (h : u ≠ 0) : digs u = Lib.decDigits u := by
 induction u using Nat.strongRecOn with
 | _ u ih =>
  rw [digs_step h]
  by_cases h10 : u < 10
  ·
   rw [Lib.decDigits, dif_pos h10, show u / 10 = 0 by omega, digs_zero, Nat.mod_eq_of_lt h10]; rfl
  ·
   rw [Lib.decDigits, dif_neg h10, ih (u / 10) (by omega) (by omega)]
theorem digs_length (u : Nat) : (digs u).length ≤ Lib.nDigits u := by
 by_cases h : u = 0
 ·
  subst h; rw [digs_zero]; exact Nat.zero_le _
 ·
  rw [digs_eq u h, Lib.decDigits_length]; exact Nat.le_refl _

theorem decFrom_snoc (l : List UInt8) (b : UInt8) : ∀ acc, Lib.decFrom acc (l ++ [b]) = (Lib.decFrom acc l).bind fun n => (Lib.digitVal b).map fun d => n * 10 + d := by
 induction l with
 | nil =>
  intro acc
  simp only [List.nil_append, Lib.decFrom]
  cases Lib.digitVal b <;> rfl
 | cons a t ih =>
  intro acc
  simp only [List.cons_append, Lib.decFrom]
  cases Lib.digitVal a with
  | none => rfl
  | some d => exact ih _

theorem digitVal_dig (d : Nat) (h : d < 10) : Lib.digitVal (UInt8.ofNat (48 + d)) = some d := by
 have e : (UInt8.ofNat (48 + d)).toNat = 48 + d := by
  rw [UInt8.toNat_ofNat']; omega
 unfold Lib.digitVal
 rw [if_pos (by rw [e]; omega), e]
 congr 1; omega

theorem decFrom_dec (u : Nat) : Lib.decFrom 0 (Lib.decDigits u) = some u := by
 induction u using Nat.strongRecOn with
 | _ u ih =>
  by_cases h10 : u < 10
  ·
   rw [Lib.decDigits_one h10]
   simp only [Lib.decFrom, digitVal_dig u h10]
   simp
  ·
   rw [Lib.decDigits, dif_neg h10, decFrom_snoc, ih (u / 10) (by omega), digitVal_dig _ (by omega)]
   simp only [Option.bind_some, Option.map_some]
   congr 1; omega

theorem nDigits_pow (k u : Nat) (h : u < 10 ^ (k + 1)) : Lib.nDigits u ≤ k + 1 := by
 induction k generalizing u with
 | zero => rw [Lib.nDigits_small (by simpa using h)]; exact Nat.le_refl _
 | succ k ih =>
  by_cases h10 : u < 10
  ·
   rw [Lib.nDigits_small h10]; omega
  ·
   rw [Lib.nDigits_big h10]
   have := ih (u / 10) (by rw [Nat.pow_succ] at h; omega)
   omega

def Num (l : List UInt8) (n : Int) : Prop := 0 ≤ n ∧ n ≤ 1000000000000 ∧ Lib.itoa n = l

theorem itoa_nonneg {n : Int} (h : 0 ≤ n) : Lib.itoa n = Lib.decDigits n.toNat := by
 unfold Lib.itoa; rw [if_neg (by omega)]
theorem Num.length {l : List UInt8} {n : Int} (h : Num l n) : 1 ≤ l.length ∧ l.length ≤ 13 := by
 obtain ⟨h0, h1, h2⟩ := h
 rw [← h2, itoa_nonneg h0, Lib.decDigits_length]
 exact ⟨Lib.nDigits_pos _, nDigits_pow 12 _ (by show _ < 10000000000000; omega)⟩
theorem Num.dec {l : List UInt8} {n : Int} (h : Num l n) : Lib.decFrom 0 l = some n.toNat := by
 obtain ⟨h0, h1, h2⟩ := h
 rw [← h2, itoa_nonneg h0]; exact decFrom_dec _
theorem Num.digit {l : List UInt8} {n : Int} (h : Num l n) (k : Nat) (b : UInt8) (hb : l[k]? = some b) : 48 ≤ b.toNat ∧ b.toNat ≤ 57 := by
 obtain ⟨d, hd⟩ := Lib.digit_of_decFrom l 0 _ h.dec k b hb
 unfold Lib.digitVal at hd
 split at hd
 ·
  assumption
 ·
  cases hd
theorem Num.atoi {l : List UInt8} {n : Int} (h : Num l n) : Lib.atoiAll l = .ok n := by
 have hl := h.length
 have hd := h.dec
 rw [Lib.atoiAll_short l (by omega)]
 have ha : Lib.atoi l = some n := by
  cases l with
  | nil => simp at hl
  | cons b r =>
   have hb := h.digit 0 b rfl
   have e1 : (b == 45) = false := by
    rw [beq_eq_false_iff_ne]; intro e; subst e; revert hb; decide
   have e2 : (b == 43) = false := by
    rw [beq_eq_false_iff_ne]; intro e; subst e; revert hb; decide
   simp only [Lib.atoi, e1, e2, Lib.decNat, List.isEmpty_cons, Bool.false_eq_true, if_false, hd, Option.map_some]
   congr 1
   have := h.1
   omega
 rw [ha]; rfl
def pOk (l : List UInt8) : Bool := match Lib.atoiAll l with
 | .ok v => decide (0 ≤ v) && decide (v ≤ 1000000000000) && (Lib.itoa v == l)
 | _ => false
theorem Num.ok {l : List UInt8} {n : Int} (h : Num l n) : pOk l = true := by
 unfold pOk; rw [h.atoi]; simp [h.1, h.2.1, h.2.2]
end Go.Proofs.Ytojcdmgcbgpdmaa.L1

namespace Go.Proofs.Ytojcdmgcbgpdmaa.L4
open L1

def hd (s : List UInt8) : List UInt8 := s.takeWhile (· != 39)
end Go.Proofs.Ytojcdmgcbgpdmaa.L4

namespace Go.Proofs.Ytojcdmgcbgpdmaa.L2
open Go.ChangeShapes Go.WideShapes Go.ChangeAt Go.RowKit Mem Sl Ex

def Byt (l : List Int) : Prop := ∀ x ∈ l, 0 ≤ x ∧ x ≤ 255
def RdE (l : List Int) (off : Int) : Ending := .returned (.tuple #[.int .i64 (rdN l off), .int .i64 (rdE l off), .bool (rdB l off)])
theorem RdE.none {l : List Int} {off : Int} (h : rd l off = none) : RdE l off = .returned (.tuple #[.int .i64 0, .int .i64 0, .bool false]) := by
 unfold RdE rdN rdE rdB
 rw [h]; rfl
theorem RdE.some {l : List Int} {off v e : Int} {m : Nat} (h : rd l off = some (v, m)) (he : off + m = e) : RdE l off = .returned (.tuple #[.int .i64 v, .int .i64 e, .bool true]) := by
 unfold RdE
 rw [rdN_of h, rdE_of h, rdB_of h, he]
def Mid (l : List Int) (o k : Nat) (v : Int) : Prop := 0 ≤ v ∧ v < 128 ^ k ∧ rd l o = rdAux k v (l.drop (o + k))
theorem Mid.start (l : List Int) (o : Nat) : Mid l o 0 0 := ⟨by omega, by decide, by
 unfold rd
 rw [if_pos (by omega)]
 simp⟩
theorem Mid.cons {l : List Int} {o k : Nat} {v : Int} (h : Mid l o k v) (hk : o + k < l.length) (h6 : k < 6) :
  rd l o = if l[o + k] < 128 then (if (l[o + k] = 0 ∧ 0 < k) ∨ 1000000000000 < v + l[o + k] % 128 * 128 ^ k then none else some (v + l[o + k] % 128 * 128 ^ k, k + 1)) else rdAux (k + 1) (v + l[o + k] % 128 * 128 ^ k) (l.drop (o + (k + 1))) := by
 rw [h.2.2, List.drop_eq_getElem_cons hk, rdAux, if_neg (by omega)]
 rfl
end Go.Proofs.Ytojcdmgcbgpdmaa.L2

namespace Go.Proofs.Ytojcdmgcbgpdmaa.L2
open Go.ChangeShapes Go.WideShapes Go.ChangeAt Go.RowKit Mem Sl Ex

def rbB (l : List Int) (off most : Int) : Bool := rdB l off && decide (rdN l off ≤ most) && decide (rdN l off ≤ (l.length : Int) - rdE l off)
def rbL (l : List Int) (off most : Int) : List Int := if rbB l off most = true then (l.drop (rdE l off).toNat).take (rdN l off).toNat else []
def rbE (l : List Int) (off most : Int) : Int := if rbB l off most = true then rdE l off + rdN l off else 0
def GaveT (w : World) (B : Nat) (e : TypeId) (k : IntKind) (l : List Int) (v : Int) (b : Bool) (en : Ending) (w' : World) : Prop := ∃ a c, en = .returned (.tuple #[.slice a l.length c, .int .i64 v, .bool b]) ∧ Own w' B e k a c l ∧ Below B w w'
theorem GaveT.mk {w w' : World} {B : Nat} {e : TypeId} {k : IntKind} {l : List Int} {v v' : Int} {b b' : Bool} {a : Option Addr} {c n : Nat} (hn : n = l.length) (hv : v' = v) (hb : b' = b) (ho : Own w' B e k a c l) (hw : Below B w w') :
  GaveT w B e k l v b (.returned (.tuple #[.slice a n c, .int .i64 v', .bool b'])) w' := ⟨a, c, by rw [hn, hv, hb], ho, hw⟩



def dc (l : List Int) : Int → Nat → Option (List Int × Int)
 | off, 0 => some ([], off)
 | off, n + 1 => match rd l off with
  | none => none
  | some (v, m) => (dc l (off + m) n).map fun p => (v :: p.1, p.2)
def DcMid (l : List Int) (off : Int) (n k : Nat) (acc : List Int) (o : Int) : Prop := acc.length = k ∧ dc l off n = (dc l o (n - k)).map fun p => (acc ++ p.1, p.2)
theorem DcMid.start (l : List Int) (off : Int) (n : Nat) : DcMid l off n 0 [] off := ⟨rfl, by simp⟩
theorem DcMid.none {l : List Int} {off : Int} {n k : Nat} {acc : List Int} {o : Int} (h : DcMid l off n k acc o) (hk : k < n) (hr : rdB l o = false) : dc l off n = none := by
 rw [h.2, show n - k = (n - (k + 1)) + 1 by omega, dc]
 have e : rd l o = Option.none := by
  unfold rdB at hr
  cases hh : rd l o with
  | none => rfl
  | some p => rw [hh] at hr; cases hr
 rw [e]
 rfl
end Go.Proofs.Ytojcdmgcbgpdmaa.L2

namespace Go.Proofs.Ytojcdmgcbgpdmaa.L4
open Go.ChangeShapes Go.WideShapes Go.ChangeAt Go.RowKit Mem Sl Ex L2

def K.v (k : K) : Value := .agg #[.int .i64 k.kind, .int .i64 k.n, .string k.text]
def K.cells (k : K) : Array Value := #[.int .i64 k.kind, .int .i64 k.n, .string k.text]

theorem isT_no {s : List UInt8} (j : Nat) (b : UInt8) (hb : s[j]? = some b) (h : chr b = false) : isT s = false := by
  unfold isT
  rw [Bool.and_eq_false_iff]
  left
  rw [List.all_eq_false]
  exact ⟨b, List.mem_of_getElem? hb, by simp [h]⟩
theorem isT_all {s : List UInt8} (h : ∀ j (hj : j < s.length), chr s[j] = true) : isT s = decide (s.length ≤ 12) := by
  unfold isT
  rw [show s.all chr = true by rw [List.all_eq_true]; intro x hx; obtain ⟨i, hi, rfl⟩ := List.getElem_of_mem hx; exact h i hi, Bool.true_and]

theorem l4Text_any (s : ByteArray) (hs : s.size ≤ 281474976710656) (w : World) :
    Calls Try.prog 168 #[.string s] w fun e w' => e = .returned (.bool (isT s.data.toList)) ∧ w = w' := by
  have hsz : s.data.toList.length = s.size := by rw [Array.length_toList]; rfl
  have HZ := Lib.hid hsz
  clear hsz
  go_enter Try.func168, Try.ntmps168
  go_wp2
  go_loop [3] (fun i => ∃ k : Nat, k ≤ s.size ∧ i = .int .i64 k ∧ Hid (∀ j (hj : j < s.data.toList.length), j < k → chr s.data.toList[j] = true)) (fun i => s.size - (intOf i).toNat)
  case atStart => exact ⟨0, Nat.zero_le _, rfl, fun j hj h => by omega⟩
  case round =>
    obtain ⟨k, hk, rfl, hrel⟩ := hrel
    by_cases hlt : k < s.size
    · have hb : s.data.toList[k]? = some s[k] := by
        rw [List.getElem?_eq_getElem (by rw [HZ.out]; exact hlt)]
        rfl
      have HB := Lib.hid hb
      clear hb
      have hT : ∀ b : Bool, chr s[k] = b → Hid (chr s[k] = b) := fun b h => h
      rcases (show ((s[k].toNat : Int) < 48 ∧ chr s[k] = false) ∨ ((48 ≤ (s[k].toNat : Int) ∧ (s[k].toNat : Int) ≤ 57) ∧ chr s[k] = true) ∨ ((58 ≤ (s[k].toNat : Int) ∧ (s[k].toNat : Int) ≤ 96) ∧ chr s[k] = false) ∨ ((97 ≤ (s[k].toNat : Int) ∧ (s[k].toNat : Int) ≤ 122) ∧ chr s[k] = true) ∨ ((122 < (s[k].toNat : Int)) ∧ chr s[k] = false) by
        unfold chr
        simp only [Bool.or_eq_true, Bool.and_eq_true, Bool.or_eq_false_iff, Bool.and_eq_false_iff, decide_eq_true_eq, decide_eq_false_iff_not]
        omega) with ⟨h1, h2⟩ | ⟨⟨h1, h3⟩, h2⟩ | ⟨⟨h1, h3⟩, h2⟩ | ⟨⟨h1, h3⟩, h2⟩ | ⟨h1, h2⟩
      all_goals
        have H2 := hT _ h2
        clear h2 hT
        go_wp2
        first
        | (go_round
           case rel => exact ⟨k + 1, by omega, by go_num, fun j hj h => by
              by_cases e : j < k
              · exact hrel.out j hj e
              · obtain rfl : j = k := by omega
                have := HB.out
                rw [List.getElem?_eq_getElem hj] at this
                rw [Option.some.inj this]
                exact H2.out⟩
           case measure => simp [intOf]; omega)
        | (go_ret
           exact ⟨by rw [isT_no k _ HB.out H2.out]; rfl, rfl⟩)
    · by_cases h12 : (s.size : Int) ≤ 12
      all_goals
        go_wp2
        go_ret
        obtain rfl : k = s.size := by omega
        have e1 := isT_all (fun j hj => hrel.out j hj (by rw [HZ.out] at hj; exact hj))
        rw [HZ.out] at e1
        refine ⟨?_, rfl⟩
        rw [e1]
        first
        | (rw [decide_eq_true (show s.size ≤ 12 by omega)]; rfl)
        | (rw [decide_eq_false (show ¬ s.size ≤ 12 by omega)]; rfl)
set_option maxHeartbeats 2000000 in
theorem specIsKey_any (k : K) (hs : k.text.size ≤ 281474976710656) (w : World) :
    Calls Try.prog 85 #[k.v] w fun e w' => e = .returned (.bool (isK k)) ∧ Below w.heap.size w w' := by
  obtain ⟨kd, n, s⟩ := k
  unfold K.v
  obtain ⟨b1, hb1⟩ : ∃ b, L1.inB kd 1 3 = b := ⟨_, rfl⟩
  obtain ⟨b2, hb2⟩ : ∃ b, L1.inB n (-1000000000000) 1000000000000 = b := ⟨_, rfl⟩
  obtain ⟨b4, hb4⟩ : ∃ b, isT s.data.toList = b := ⟨_, rfl⟩
  have H1 := Lib.hid (fun w => L1.l1In_any kd 1 3 w)
  have H2 := Lib.hid (fun w => L1.l1In_any n (-1000000000000) 1000000000000 w)
  have H4 := Lib.hid (fun w => l4Text_any s hs w)
  rw [hb1] at H1
  rw [hb2] at H2
  rw [hb4] at H4
  obtain ⟨c0, hc0⟩ : ∃ b, (n == 0) = b := ⟨_, rfl⟩
  obtain ⟨ct, hct⟩ : ∃ b, (s.toList == []) = b := ⟨_, rfl⟩
  have HE := show isK ⟨kd, n, s⟩ = (b1 && b2 && (kd != 2 || c0) && b4 && (kd != 1 || ct)) by unfold isK; rw [hb1, hb2, show K.t ⟨kd, n, s⟩ = s.data.toList from rfl, hb4, ← hct, ByteArray.toList_eq, ← hc0]
  have HB := Lib.hid (fun o => below_alloc (Below.refl w.heap.size w) o (Nat.le_refl _))
  clear hb1 hb2 hb4
  rcases (show kd = 1 ∨ kd = 2 ∨ (kd ≠ 1 ∧ kd ≠ 2) by omega) with rfl | rfl | ⟨hk1, hk2⟩
  · rw [show isK ⟨1, n, s⟩ = (b1 && (b2 && (b4 && ct))) by rw [HE]; cases b1 <;> cases b2 <;> cases b4 <;> cases ct <;> rfl]
    clear HE hc0
    rcases (show b1 = false ∨ (b1 = true ∧ b2 = false) ∨ (b1 = true ∧ b2 = true ∧ b4 = false) ∨ (b1 = true ∧ b2 = true ∧ b4 = true) by cases b1 <;> cases b2 <;> cases b4 <;> simp) with rfl | ⟨rfl, rfl⟩ | ⟨rfl, rfl, rfl⟩ | ⟨rfl, rfl, rfl⟩
    all_goals
      go_enter Try.func85, Try.ntmps85
      go_wp2_with (first
        | (go_at_call 91; with_reducible refine (H1.out _).mono ?_; rintro e w1 ⟨rfl, rfl⟩)
        | (go_at_call 91; with_reducible refine (H2.out _).mono ?_; rintro e w1 ⟨rfl, rfl⟩)
        | (go_at_call 168; refine (H4.out _).mono ?_; rintro e w1 ⟨rfl, rfl⟩))
      go_ret
      exact ⟨rfl, HB.out _⟩
  · rw [show isK ⟨2, n, s⟩ = (b1 && (b2 && (c0 && b4))) by rw [HE]; cases b1 <;> cases b2 <;> cases b4 <;> cases c0 <;> rfl]
    clear HE hct
    rcases (show b1 = false ∨ (b1 = true ∧ b2 = false) ∨ (b1 = true ∧ b2 = true ∧ c0 = false) ∨ (b1 = true ∧ b2 = true ∧ c0 = true ∧ b4 = false) ∨ (b1 = true ∧ b2 = true ∧ c0 = true ∧ b4 = true) by cases b1 <;> cases b2 <;> cases c0 <;> cases b4 <;> simp) with rfl | ⟨rfl, rfl⟩ | ⟨rfl, rfl, rfl⟩ | ⟨rfl, rfl, rfl, rfl⟩ | ⟨rfl, rfl, rfl, rfl⟩
    all_goals
      go_enter Try.func85, Try.ntmps85
      go_wp2_with (first
        | (go_at_call 91; with_reducible refine (H1.out _).mono ?_; rintro e w1 ⟨rfl, rfl⟩)
        | (go_at_call 91; with_reducible refine (H2.out _).mono ?_; rintro e w1 ⟨rfl, rfl⟩)
        | (go_at_call 168; refine (H4.out _).mono ?_; rintro e w1 ⟨rfl, rfl⟩))
      go_ret
      exact ⟨rfl, HB.out _⟩
  · have hk1' : (kd == 1) = false := by simpa using hk1
    have hk2' : (kd == 2) = false := by simpa using hk2
    rw [show isK ⟨kd, n, s⟩ = (b1 && (b2 && b4)) by rw [HE]; unfold bne; rw [hk1', hk2']; cases b1 <;> cases b2 <;> cases b4 <;> rfl]
    clear HE hct hc0
    replace hk1 : ¬ kd = 1 := hk1
    replace hk2 : ¬ kd = 2 := hk2
    rcases (show b1 = false ∨ (b1 = true ∧ b2 = false) ∨ (b1 = true ∧ b2 = true ∧ b4 = false) ∨ (b1 = true ∧ b2 = true ∧ b4 = true) by cases b1 <;> cases b2 <;> cases b4 <;> simp) with rfl | ⟨rfl, rfl⟩ | ⟨rfl, rfl, rfl⟩ | ⟨rfl, rfl, rfl⟩
    all_goals
      go_enter Try.func85, Try.ntmps85
      go_wp2_with (first
        | (go_at_call 91; with_reducible refine (H1.out _).mono ?_; rintro e w1 ⟨rfl, rfl⟩)
        | (go_at_call 91; with_reducible refine (H2.out _).mono ?_; rintro e w1 ⟨rfl, rfl⟩)
        | (go_at_call 168; refine (H4.out _).mono ?_; rintro e w1 ⟨rfl, rfl⟩))
      go_ret
      exact ⟨rfl, HB.out _⟩
end Go.Proofs.Ytojcdmgcbgpdmaa.L4

namespace Go.Proofs.Ytojcdmgcbgpdmaa.L4
open Go.Op (bytesLess)
open Go.ChangeShapes Go.WideShapes Go.ChangeAt Go.RowKit Mem Sl Ex L2

theorem l4Sign_any (a b : Bool) (w : World) :
    Calls Try.prog 169 #[.bool a, .bool b] w fun e w' => e = .returned (.int .i64 (sgn a b)) ∧ w = w' := by
  cases a <;> cases b <;>
    (go_enter Try.func169, Try.ntmps169
     go_wp2
     go_ret
     exact ⟨rfl, rfl⟩)

def Box (w : World) (g : Nat) (t : TypeId) (k : K) : Prop := Row w g t k.cells
theorem Box.facts {w : World} {g : Nat} {t : TypeId} {kd n : Int} {s : ByteArray} (h : Box w g t ⟨kd, n, s⟩) : w.cell? ⟨g, 0, none⟩ = some (.int .i64 kd) ∧ w.cell? ⟨g, 1, none⟩ = some (.int .i64 n) ∧ w.cell? ⟨g, 2, none⟩ = some (.string s) := by
  have h' : Row w g t #[.int .i64 kd, .int .i64 n, .string s] := h
  have c0 := h'.cell 0
  have c1 := h'.cell 1
  have c2 := h'.cell 2
  simp at c0 c1 c2
  exact ⟨c0, c1, c2⟩
theorem Box.below {w w' : World} {g : Nat} {t : TypeId} {k : K} (h : Box w g t k) (hb : Below w.heap.size w w') : Box w' g t k := Row.below h hb (Row.inside h)
theorem Box.made (w : World) (t : TypeId) (k : K) : Box (w.alloc (.cells k.cells t)) w.heap.size t k := Row.made w t k.cells
theorem Box.more {w : World} {g : Nat} {t : TypeId} {k : K} (h : Box w g t k) (o : Obj) : Box (w.alloc o) g t k := Row.more h o

theorem string_gtr (t : TypeId) (a b : ByteArray) : binOp .gtr t (.string a) (.string b) = pure (.bool (!(bytesLess a.toList b.toList) && !(a.toList == b.toList))) := by simp [binOp, Op.stringOp]
theorem cmpK_bad1 {a b : K} (h : isK a = false) : cmpK a b = 0 := by simp [cmpK, h]
theorem cmpK_bad2 {a b : K} (h : isK b = false) : cmpK a b = 0 := by simp [cmpK, h]
theorem cmpK_kind {a b : K} (ha : isK a = true) (hb : isK b = true) (h : ¬ a.kind = b.kind) : cmpK a b = sgn (decide (a.kind < b.kind)) true := by simp [cmpK, ha, hb, h]
theorem cmpK_n {a b : K} (ha : isK a = true) (hb : isK b = true) (h : a.kind = b.kind) (h2 : ¬ a.n = b.n) : cmpK a b = sgn (decide (a.n < b.n)) true := by simp [cmpK, ha, hb, h, h2]
theorem cmpK_t {a b : K} (ha : isK a = true) (hb : isK b = true) (h : a.kind = b.kind) (h2 : a.n = b.n) : cmpK a b = sgn (bytesLess a.text.toList b.text.toList) (!(bytesLess a.text.toList b.text.toList) && !(a.text.toList == b.text.toList)) := by
  rw [ByteArray.toList_eq, ByteArray.toList_eq]
  simp [cmpK, ha, hb, h, h2, cmpL, K.t]
set_option maxHeartbeats 2000000 in
theorem specCompareKeys_any (a b : K) (ha : a.text.size ≤ 281474976710656) (hb : b.text.size ≤ 281474976710656) (w : World) :
    Calls Try.prog 90 #[a.v, b.v] w fun e w' => e = .returned (.int .i64 (cmpK a b)) ∧ Below w.heap.size w w' := by
  obtain ⟨w2, hw2⟩ : ∃ w2, w2 = (w.alloc (.cells a.cells 28)).alloc (.cells b.cells 28) := ⟨_, rfl⟩
  have ba : Box w2 w.heap.size 28 a := by rw [hw2]; exact (Box.made w _ a).more _
  have bb : Box w2 (w.heap.size + 1) 28 b := by
    rw [hw2, show w.heap.size + 1 = (w.alloc (.cells a.cells 28)).heap.size by simp]
    exact Box.made _ _ b
  have hbl : Below w.heap.size w w2 := by rw [hw2]; exact below_alloc (below_alloc (Below.refl _ _) _ (Nat.le_refl _)) _ (Nat.le_refl _)
  obtain ⟨ka, na, sa⟩ := a
  obtain ⟨kb, nb, sb⟩ := b
  have H1 := Lib.hid (fun w => specIsKey_any ⟨ka, na, sa⟩ ha w)
  have H2 := Lib.hid (fun w => specIsKey_any ⟨kb, nb, sb⟩ hb w)
  obtain ⟨ia, hia⟩ : ∃ x, isK ⟨ka, na, sa⟩ = x := ⟨_, rfl⟩
  obtain ⟨ib, hib⟩ : ∃ x, isK ⟨kb, nb, sb⟩ = x := ⟨_, rfl⟩
  rw [hia] at H1
  rw [hib] at H2
  have HS := Lib.hid l4Sign_any
  unfold K.v at H1 H2 ⊢
  unfold K.cells at hw2
  obtain ⟨a0, a1, a2⟩ := ba.facts
  obtain ⟨b0, b1, b2⟩ := bb.facts
  have BA := Lib.hid (And.intro ba (And.intro bb hbl))
  go_enter Try.func90, Try.ntmps90
  go_wp2_with fail
  go_at_call 85
  rw [← hw2]
  clear hw2 a0 a1 a2 b0 b1 b2 ba bb hbl
  refine (H1.out w2).mono ?_
  rintro e w3 ⟨rfl, h3⟩
  have BA3 := Lib.hid (And.intro (BA.out.1.below h3) (And.intro (BA.out.2.1.below h3) (BA.out.2.2.trans (h3.mono BA.out.2.2.size))))
  clear h3
  cases ia with
  | false =>
    go_wp2_with fail
    go_ret
    exact ⟨by rw [cmpK_bad1 hia]; rfl, BA3.out.2.2⟩
  | true =>
    obtain ⟨b0, b1, b2⟩ := BA3.out.2.1.facts
    go_wp2_with fail
    go_at_call 85
    refine (H2.out w3).mono ?_
    rintro e w4 ⟨rfl, h4⟩
    have BA4 := Lib.hid (And.intro (BA3.out.1.below h4) (And.intro (BA3.out.2.1.below h4) (BA3.out.2.2.trans (h4.mono BA3.out.2.2.size))))
    clear h4 b0 b1 b2
    cases ib with
    | false =>
      go_wp2_with fail
      go_ret
      exact ⟨by rw [cmpK_bad2 hib]; rfl, BA4.out.2.2⟩
    | true =>
      obtain ⟨a0, a1, a2⟩ := BA4.out.1.facts
      obtain ⟨b0, b1, b2⟩ := BA4.out.2.1.facts
      by_cases hk : ka = kb
      · by_cases hn : na = nb
        · have HE := Lib.hid (cmpK_t hia hib hk hn)
          subst hk
          subst hn
          have hgt := string_gtr
          go_wp2_with fail
          go_at_call 169
          refine (HS.out _ _ _).mono ?_
          rintro e w5 ⟨rfl, rfl⟩
          go_wp2_with fail
          go_ret
          exact ⟨by rw [HE.out]; rfl, BA4.out.2.2⟩
        · have HE := Lib.hid (cmpK_n hia hib hk hn)
          subst hk
          go_wp2_with fail
          go_at_call 169
          refine (HS.out _ _ _).mono ?_
          rintro e w5 ⟨rfl, rfl⟩
          go_wp2_with fail
          go_ret
          exact ⟨by rw [HE.out]; rfl, BA4.out.2.2⟩
      · have HE := Lib.hid (cmpK_kind hia hib hk)
        go_wp2_with fail
        go_at_call 169
        refine (HS.out _ _ _).mono ?_
        rintro e w5 ⟨rfl, rfl⟩
        go_wp2_with fail
        go_ret
        exact ⟨by rw [HE.out]; rfl, BA4.out.2.2⟩

def toU (l : List Int) : List UInt8 := l.map fun n => UInt8.ofNat n.toNat
structure R where
  hl : Bool
  hh : Bool
  lo : K
  hi : K
def R.v (r : R) : Value := .agg #[.bool r.hl, .bool r.hh, .int .i64 r.lo.kind, .int .i64 r.lo.n, .string r.lo.text, .int .i64 r.hi.kind, .int .i64 r.hi.n, .string r.hi.text]
def R.cells (r : R) : Array Value := #[.bool r.hl, .bool r.hh, .int .i64 r.lo.kind, .int .i64 r.lo.n, .string r.lo.text, .int .i64 r.hi.kind, .int .i64 r.hi.n, .string r.hi.text]
def inR (k : K) (r : R) : Bool := isK k && ((!r.hl || isK r.lo) && ((!r.hh || isK r.hi) && ((!r.hl || decide (cmpK r.lo k ≤ 0)) && (!r.hh || decide (cmpK k r.hi ≤ 0)))))
structure St (w wr : World) (kt rt : TypeId) (k : K) (r : R) : Prop where
  k : Row wr w.heap.size kt k.cells
  r : Row wr (w.heap.size + 1) rt r.cells
  b : Below w.heap.size w wr
theorem St.facts {w wr : World} {kt rt : TypeId} {kd n : Int} {s : ByteArray} {hl hh : Bool} {ka na : Int} {sa : ByteArray} {kb nb : Int} {sb : ByteArray} (h : Hid (St w wr kt rt ⟨kd, n, s⟩ ⟨hl, hh, ⟨ka, na, sa⟩, ⟨kb, nb, sb⟩⟩)) :
    (wr.cell? ⟨w.heap.size, 0, none⟩ = some (.int .i64 kd) ∧ wr.cell? ⟨w.heap.size, 1, none⟩ = some (.int .i64 n) ∧ wr.cell? ⟨w.heap.size, 2, none⟩ = some (.string s)) ∧
    wr.cell? ⟨w.heap.size + 1, 0, none⟩ = some (.bool hl) ∧ wr.cell? ⟨w.heap.size + 1, 1, none⟩ = some (.bool hh) ∧ wr.cell? ⟨w.heap.size + 1, 2, none⟩ = some (.int .i64 ka) ∧ wr.cell? ⟨w.heap.size + 1, 3, none⟩ = some (.int .i64 na) ∧ wr.cell? ⟨w.heap.size + 1, 4, none⟩ = some (.string sa) ∧ wr.cell? ⟨w.heap.size + 1, 5, none⟩ = some (.int .i64 kb) ∧ wr.cell? ⟨w.heap.size + 1, 6, none⟩ = some (.int .i64 nb) ∧ wr.cell? ⟨w.heap.size + 1, 7, none⟩ = some (.string sb) := by
  have h1 : Row wr w.heap.size kt #[.int .i64 kd, .int .i64 n, .string s] := h.out.k
  have h2 : Row wr (w.heap.size + 1) rt #[.bool hl, .bool hh, .int .i64 ka, .int .i64 na, .string sa, .int .i64 kb, .int .i64 nb, .string sb] := h.out.r
  refine ⟨⟨?_, ?_, ?_⟩, ?_, ?_, ?_, ?_, ?_, ?_, ?_, ?_⟩
  all_goals first | (rw [h1.cell]; rfl) | (rw [h2.cell]; rfl)

end Go.Proofs.Ytojcdmgcbgpdmaa.L4

namespace Go.Proofs.Ytojcdmgcbgpdmaa.L4
open Go.ChangeShapes Go.WideShapes Go.ChangeAt Go.RowKit Mem Sl Ex L2

def left (n : Int) (s : ByteArray) : Int := if n - s.size < 0 then -1 else n - s.size
theorem toKey_any (k : K) (w : World) :
  Calls Try.prog 38 #[k.v] w fun e w' => e = .returned k.v ∧ Below w.heap.size w w' := by
 obtain ⟨kd, n, s⟩ := k
 unfold K.v
 go_enter Try.func38, Try.ntmps38
 go_wp2
 refine bodyPost_ret (v := .agg #[.int .i64 kd, .int .i64 n, .string s]) (by simp [results, Try.results38, go_sem]) rfl ?_
 exact ⟨rfl, below_alloc (below_alloc (below_alloc (Below.refl _ _) _ (Nat.le_refl _)) _ (Nat.le_refl _)) _ (Nat.le_refl _)⟩
theorem szKey_any (k : K) (n : Int) (h : k.text.size ≤ maxLen) (hn0 : -1 ≤ n) (hn1 : n ≤ 1048576) (w : World) :
  Calls Try.prog 35 #[k.v, .int .i64 n] w fun e w' => e = .returned (.int .i64 (left n k.text)) ∧ Below w.heap.size w w' := by
 obtain ⟨kd, m, s⟩ := k
 unfold K.v left
 have hs : (s.size : Int) ≤ 9223372036854775807 := by have : s.size ≤ maxLen := h; unfold maxLen at this; omega
 have HB := Lib.hid (fun o => below_alloc (Below.refl w.heap.size w) o (Nat.le_refl _))
 clear h
 by_cases hlt : n - (s.size : Int) < 0
 ·
  go_enter Try.func35, Try.ntmps35
  go_wp2
  go_ret
  exact ⟨rfl, HB.out _⟩
 ·
  go_enter Try.func35, Try.ntmps35
  go_wp2
  go_ret
  exact ⟨rfl, HB.out _⟩
theorem eqKey_any (k : K) (w : World) :
  Calls Try.prog 46 #[k.v, k.v] w fun e w' => e = .returned (.bool true) ∧ Below w.heap.size w w' := by
 obtain ⟨kd, n, s⟩ := k
 unfold K.v
 have HB := Lib.hid (fun o p => below_alloc (below_alloc (Below.refl w.heap.size w) o (Nat.le_refl _)) p (Nat.le_refl _))
 go_enter Try.func46, Try.ntmps46
 go_wp2
 go_ret
 exact ⟨rfl, HB.out _ _⟩

def R.left (n : Int) (r : R) : Int := if L4.left n r.lo.text < 0 then -1 else L4.left (L4.left n r.lo.text) r.hi.text
theorem left_range (n : Int) (s : ByteArray) (h : n ≤ 1048576) : -1 ≤ left n s ∧ left n s ≤ 1048576 := by unfold left; split <;> omega
structure Tri (w wr : World) (t u : TypeId) (r : R) (x : Array Value) : Prop where
 r : Row wr w.heap.size t r.cells
 z : Row wr (w.heap.size + 1) u #[.bool false, .bool false, .int .i64 0, .int .i64 0, .string ⟨#[]⟩, .int .i64 0, .int .i64 0, .string ⟨#[]⟩]
 x : Row wr (w.heap.size + 1 + 1) u x
 b : Below w.heap.size w wr
theorem Row.apart {w : World} {g g' : Nat} {t : TypeId} {cs : Array Value} (h : Row w g t cs) (i : Nat) (v : Value) (hne : g ≠ g') : Row (w.setCell ⟨g', i, none⟩ v) g t cs := (Below.heap_setCell w ⟨g', i, none⟩ v g hne).trans h
theorem Tri.put {w wr : World} {t u : TypeId} {r : R} {x : Array Value} (h : Hid (Tri w wr t u r x)) (i : Nat) (v : Value) : Hid (Tri w (wr.setCell ⟨w.heap.size + 1 + 1, i, none⟩ v) t u r (x.setIfInBounds i v)) :=
 ⟨Row.apart h.out.r i v (by omega), Row.apart h.out.z i v (by omega), h.out.x.put i v, h.out.b.setCell (by show w.heap.size ≤ w.heap.size + 1 + 1; omega) v⟩
end Go.Proofs.Ytojcdmgcbgpdmaa.L4

namespace Go.Proofs.Ytojcdmgcbgpdmaa.L4
open Go.ChangeShapes Go.WideShapes Go.ChangeAt Go.RowKit Mem Sl Ex L2

section
variable {H : Type} {enc : TypeId × Value → H} {W : World} {b : Nat} {sp : Nat → Bool} {hd : Bool}
theorem trod_key {fuel : Nat} {cs : List Value} {x : DataW H × List MemPlace} (h : DataW.trod enc Try.prog W b sp hd fuel 58 cs = some x) :
  ∃ k : K, cs = k.cells.toList ∧ k.text.size ≤ maxLen ∧ (-9223372036854775808 ≤ k.kind ∧ k.kind ≤ 9223372036854775807) ∧ (-9223372036854775808 ≤ k.n ∧ k.n ≤ 9223372036854775807) := by
 obtain ⟨xs, n, _, _, hl, hlen, hf⟩ := DataW.trod_struct Try.underlying58 h
 have hl3 : cs.length = 3 := hl.trans (by kernel_rfl)
 match cs, hl3 with
 | [c0, c1, c2], _ =>
  have h0 : DataW.trod enc Try.prog W b sp hd n 3 (List.take (Try.prog.cellsOf 3) (List.drop 0 [c0, c1, c2])) = xs[0]? := hf 0 _ rfl
  have h1 : DataW.trod enc Try.prog W b sp hd n 3 (List.take (Try.prog.cellsOf 3) (List.drop 1 [c0, c1, c2])) = xs[1]? := hf 1 _ rfl
  have h2 : DataW.trod enc Try.prog W b sp hd n 9 (List.take (Try.prog.cellsOf 9) (List.drop 2 [c0, c1, c2])) = xs[2]? := hf 2 _ rfl
  rw [show (Try.prog.cellsOf 3) = 1 by kernel_rfl] at h0 h1
  rw [show (Try.prog.cellsOf 9) = 1 by kernel_rfl] at h2
  rw [List.getElem?_eq_getElem (by rw [hlen]; decide)] at h0 h1 h2
  obtain ⟨kd, e0, _, w0⟩ := DataW.trod_int Try.underlying3 h0
  obtain ⟨m, e1, _, w1⟩ := DataW.trod_int Try.underlying3 h1
  obtain ⟨s, e2, _, w2⟩ := DataW.trod_string Try.underlying9 h2
  simp at e0 e1 e2
  subst e0; subst e1; subst e2
  exact ⟨⟨kd, m, s⟩, rfl, w2, Law.wf_i64 w0, Law.wf_i64 w1⟩
end

def boxR (g : Nat) (t : TypeId) (cs : Array Value) : Res where
 fp := [g]
 is w := Row w g t cs
 loc := fun hs h => (hs g (by simp)).trans h
theorem push_box {W w : World} {rs : List Res} (h : Sep W w rs) (t : TypeId) (cs : Array Value) (g : Nat) (hg : g = w.heap.size) : Sep W (w.alloc (.cells cs t)) (rs ++ [boxR g t cs]) := by
 subst hg
 exact h.push ((Below.refl _ _).alloc (Nat.le_refl _) _) (Row.made w t cs) (fun b hb => by simp [boxR] at hb; subst hb; exact ⟨Nat.le_refl _, by simp⟩)
theorem box_at {W w : World} {rs : List Res} {g : Nat} {t : TypeId} {cs : Array Value} (h : Sep W w rs) (i : Nat) (hi : rs[i]? = some (boxR g t cs)) : Row w g t cs := h.is i _ hi
theorem box3 {W w : World} {rs : List Res} {g : Nat} {t : TypeId} {x y z : Value} (h : Sep W w rs) (i : Nat) (hi : rs[i]? = some (boxR g t #[x, y, z])) : w.cell? ⟨g, 0, none⟩ = some x ∧ w.cell? ⟨g, 1, none⟩ = some y ∧ w.cell? ⟨g, 2, none⟩ = some z := by
 have h' := box_at h i hi
 refine ⟨?_, ?_, ?_⟩ <;> (rw [h'.cell]; rfl)
theorem left_small {n : Int} {s : ByteArray} (h : ¬ left n s < 0) : left n s = n - s.size ∧ (s.size : Int) ≤ n := by
 unfold left at h ⊢
 split at h
 ·
  omega
 ·
  rename_i h2
  rw [if_neg h2]
  omega
end Go.Proofs.Ytojcdmgcbgpdmaa.L4

namespace Go.Proofs.Ytojcdmgcbgpdmaa.Bag
open Go.ChangeShapes Go.WideShapes Go.ChangeAt Go.RowKit Mem Sl Sv

structure RowS where
 e : TypeId
 k : Nat
 a : Option Addr
 c : Nat
 n : Nat
 xs : List Value
def RowS.fp (r : RowS) : List Nat := (Value.slice r.a r.n r.c).ownBlock.toList
def RowS.Own (w : World) (B : Nat) (r : RowS) : Prop := OwnV w B r.e r.k r.a r.c r.n r.xs
def RowS.res (r : RowS) : Res := ownV r.e r.k r.a r.c r.n r.xs
structure RowS.Rd (w : World) (B : Nat) (r : RowS) : Prop where
 reads : Reads w B r.a r.xs
 cap : r.n ≤ r.c
 zero : r.a = none → r.c = 0
def Apart (r s : RowS) : Prop := ∀ b ∈ r.fp, b ∉ s.fp
theorem Apart.symm {r s : RowS} (h : Apart r s) : Apart s r := fun b hs hr => h b hr hs
structure BagOwn (w : World) (B : Nat) (rows : List RowS) : Prop where
 own : ∀ r ∈ rows, r.Own w B
 apart : rows.Pairwise Apart
def RowsRd (w : World) (B : Nat) (rows : List RowS) : Prop := ∀ r ∈ rows, r.Rd w B

section
variable {w w' : World} {B B' : Nat} {rows ys : List RowS} {r : RowS}
theorem RowS.Own.lt (h : r.Own w B) : ∀ b ∈ r.fp, B ≤ b ∧ b < w.heap.size := fun b hb => by
 rcases h.form with ⟨e, _⟩ | ⟨g, e, h1, h2, _⟩
 ·
  simp [RowS.fp, e, Value.ownBlock] at hb
 ·
  simp [RowS.fp, e, Value.ownBlock] at hb
  subst hb
  exact ⟨h1, h2⟩
theorem RowS.Own.rd (h : r.Own w B) : r.Rd w w.heap.size := ⟨h.reads, h.cap, fun e => by
 rcases h.form with ⟨_, _, _, h1⟩ | ⟨g, e2, _⟩
 ·
  exact h1
 ·
  rw [e] at e2; cases e2⟩
theorem RowS.Rd.below (h : r.Rd w B) (hb : Below B w w') : r.Rd w' B := ⟨h.reads.below hb, h.cap, h.zero⟩
theorem RowS.Rd.more (h : r.Rd w B) (hB : B ≤ B') : r.Rd w B' := ⟨h.reads.more hB, h.cap, h.zero⟩
theorem RowsRd.below (h : RowsRd w B rows) (hb : Below B w w') : RowsRd w' B rows := fun r hr => (h r hr).below hb
theorem RowsRd.more (h : RowsRd w B rows) (hB : B ≤ B') : RowsRd w B' rows := fun r hr => (h r hr).more hB
theorem RowsRd.sub (h : RowsRd w B rows) (hs : ∀ r ∈ ys, r ∈ rows) : RowsRd w B ys := fun r hr => h r (hs r hr)
theorem RowsRd.at_ (h : RowsRd w B rows) (hr : r ∈ rows) : r.Rd w B := h r hr
theorem BagOwn.rd (h : BagOwn w B rows) : RowsRd w w.heap.size rows := fun r hr => (h.own r hr).rd
theorem BagOwn.nil (w : World) (B : Nat) : BagOwn w B [] := ⟨fun r hr => (by cases hr), List.Pairwise.nil⟩
theorem BagOwn.base (h : BagOwn w B rows) (hB : B' ≤ B) : BagOwn w B' rows := ⟨fun r hr => OwnV.base (h.own r hr) hB, h.apart⟩
theorem BagOwn.lt (h : BagOwn w B rows) : ∀ b ∈ rows.flatMap RowS.fp, B ≤ b ∧ b < w.heap.size := fun b hb => by
 obtain ⟨r, hr, hm⟩ := List.mem_flatMap.1 hb
 exact (h.own r hr).lt b hm
theorem BagOwn.one (h : r.Own w B) : BagOwn w B [r] := ⟨fun s hs => by rw [List.mem_singleton] at hs; rw [hs]; exact h, List.pairwise_singleton ..⟩
theorem BagOwn.lift (h : BagOwn w B rows) (hB : ∀ b ∈ rows.flatMap RowS.fp, B' ≤ b) : BagOwn w B' rows := ⟨fun r hr => OwnV.lift (h.own r hr) fun b hb => hB b (List.mem_flatMap.2 ⟨r, hr, hb⟩), h.apart⟩
theorem BagOwn.app (h : BagOwn w B rows) (k : BagOwn w B ys) (ha : ∀ b ∈ rows.flatMap RowS.fp, b ∉ ys.flatMap RowS.fp) : BagOwn w B (rows ++ ys) :=
 ⟨fun r hr => by
  rcases List.mem_append.1 hr with h1 | h1
  ·
   exact h.own r h1
  ·
   exact k.own r h1, List.pairwise_append.2 ⟨h.apart, k.apart, fun r hr s hs b hb hb2 => ha b (List.mem_flatMap.2 ⟨r, hr, hb⟩) (List.mem_flatMap.2 ⟨s, hs, hb2⟩)⟩⟩
theorem BagOwn.perm (h : BagOwn w B rows) (hp : rows.Perm ys) : BagOwn w B ys := ⟨fun r hr => h.own r (hp.mem_iff.2 hr), (hp.pairwise_iff (fun h => Apart.symm h)).1 h.apart⟩
theorem BagOwn.sub (h : BagOwn w B rows) (hs : ys.Sublist rows) : BagOwn w B ys := ⟨fun r hr => h.own r (hs.subset hr), h.apart.sublist hs⟩
end

def bag (rows : List RowS) : Res where
 fp := rows.flatMap RowS.fp
 is w := BagOwn w 0 rows
 loc := fun hs h => ⟨fun r hr => r.res.loc (fun b hb => hs b (List.mem_flatMap.2 ⟨r, hr, hb⟩)) (h.own r hr), h.apart⟩

section
variable {W w w' : World} {rs : List Res} {rows xs ys : List RowS} {r : RowS}
theorem turn {r r' : Res} (h : Sep W w rs) (i : Nat) (hi : rs[i]? = some r) (hr : r.is w → r'.is w) (hf : ∀ b ∈ r'.fp, b ∈ r.fp) : Sep W w (rs.set i r') := h.put i hi (Turned.refl _ _) (hr (h.is i r hi)) hf
theorem bag_at (h : Sep W w rs) (i : Nat) (hi : rs[i]? = some (bag rows)) : BagOwn w 0 rows := h.is i _ hi
theorem bag_rd (h : Sep W w rs) (i : Nat) (hi : rs[i]? = some (bag rows)) : RowsRd w w.heap.size rows := (bag_at h i hi).rd
theorem bag_from (h : Sep W w rs) (i : Nat) (hi : rs[i]? = some (bag rows)) : BagOwn w W.heap.size rows := (bag_at h i hi).lift fun b hb => (h.lies i _ hi b hb).1
theorem push_bag (h : Sep W w rs) (hb : Below w.heap.size w w') (ho : BagOwn w' w.heap.size rows) : Sep W w' (rs ++ [bag rows]) :=
 h.push hb (ho.base (Nat.zero_le _)) fun b hm => ho.lt b hm
theorem bag_of_one (h : Sep W w rs) (i : Nat) (hi : rs[i]? = some r.res) : Sep W w (rs.set i (bag [r])) :=
 turn h i hi (fun ho => BagOwn.one ho) (fun b hb => by simpa [bag, RowS.res, RowS.fp, ownV] using hb)
theorem one_of_bag (h : Sep W w rs) (i : Nat) (hi : rs[i]? = some (bag [r])) : Sep W w (rs.set i r.res) :=
 turn h i hi (fun ho => ho.own r (List.mem_singleton_self r)) (fun b hb => by simpa [bag, RowS.res, RowS.fp, ownV] using hb)
theorem bag_perm (h : Sep W w rs) (i : Nat) (hi : rs[i]? = some (bag xs)) (hp : xs.Perm ys) : Sep W w (rs.set i (bag ys)) :=
 turn h i hi (fun ho => BagOwn.perm ho hp) (fun b hb => by
  obtain ⟨r, hr, hm⟩ := List.mem_flatMap.1 hb
  exact List.mem_flatMap.2 ⟨r, hp.mem_iff.2 hr, hm⟩)
theorem bag_join (h : Sep W w rs) (i j : Nat) (hij : i ≠ j) (hi : rs[i]? = some (bag xs)) (hj : rs[j]? = some (bag ys)) : Sep W w ((rs.set j (bag [])).set i (bag (xs ++ ys))) := by
 have hli : i < rs.length := (List.getElem?_eq_some_iff.1 hi).1
 have hlj : j < rs.length := (List.getElem?_eq_some_iff.1 hj).1
 have key : ∀ (q : Nat) (s : Res), ((rs.set j (bag [])).set i (bag (xs ++ ys)))[q]? = some s → (q = i ∧ s = bag (xs ++ ys)) ∨ (q = j ∧ s = bag []) ∨ (q ≠ i ∧ q ≠ j ∧ rs[q]? = some s) := fun q s hq => by
  by_cases e : i = q
  ·
   subst e
   rw [List.getElem?_set_self (by simpa using hli)] at hq
   exact .inl ⟨rfl, (Option.some.inj hq).symm⟩
  ·
   rw [List.getElem?_set_ne e] at hq
   by_cases e2 : j = q
   ·
    subst e2
    rw [List.getElem?_set_self hlj] at hq
    exact .inr (.inl ⟨rfl, (Option.some.inj hq).symm⟩)
   ·
    rw [List.getElem?_set_ne e2] at hq
    exact .inr (.inr ⟨fun h => e h.symm, fun h => e2 h.symm, hq⟩)
 have hfp : ∀ b, b ∈ (bag (xs ++ ys)).fp → b ∈ (bag xs).fp ∨ b ∈ (bag ys).fp := fun b hb => by
  have : b ∈ (xs ++ ys).flatMap RowS.fp := hb
  rw [List.flatMap_append] at this
  exact List.mem_append.1 this
 refine ⟨h.old, fun q s hq => ?_, fun q s hq b hb => ?_, fun p q s t hp hq hne b hb hb2 => ?_⟩
 ·
  rcases key q s hq with ⟨_, rfl⟩ | ⟨_, rfl⟩ | ⟨_, _, h1⟩
  ·
   exact BagOwn.app (h.is i _ hi) (h.is j _ hj) (fun b hb => h.apart i j _ _ hi hj hij b hb)
  ·
   exact BagOwn.nil _ _
  ·
   exact h.is q s h1
 ·
  rcases key q s hq with ⟨_, rfl⟩ | ⟨_, rfl⟩ | ⟨_, _, h1⟩
  ·
   rcases hfp b hb with h2 | h2
   ·
    exact h.lies i _ hi b h2
   ·
    exact h.lies j _ hj b h2
  ·
   simp [bag] at hb
  ·
   exact h.lies q s h1 b hb
 ·
  rcases key p s hp with ⟨e1, rfl⟩ | ⟨e1, rfl⟩ | ⟨n1, n2, h1⟩ <;> rcases key q t hq with ⟨e2, rfl⟩ | ⟨e2, rfl⟩ | ⟨n3, n4, h2⟩
  ·
   exact hne (e1.trans e2.symm)
  ·
   simp [bag] at hb2
  ·
   rcases hfp b hb with h3 | h3
   ·
    exact h.apart i q _ t hi h2 (fun e => n3 e.symm) b h3 hb2
   ·
    exact h.apart j q _ t hj h2 (fun e => n4 e.symm) b h3 hb2
  ·
   simp [bag] at hb
  ·
   simp [bag] at hb
  ·
   simp [bag] at hb
  ·
   rcases hfp b hb2 with h3 | h3
   ·
    exact h.apart p i s _ h1 hi n1 b hb h3
   ·
    exact h.apart p j s _ h1 hj n2 b hb h3
  ·
   simp [bag] at hb2
  ·
   exact h.apart p q s t h1 h2 hne b hb hb2
theorem bag_split (h : Sep W w rs) (i : Nat) (hi : rs[i]? = some (bag (xs ++ ys))) : Sep W w (rs.set i (bag xs) ++ [bag ys]) := by
 have hli : i < rs.length := (List.getElem?_eq_some_iff.1 hi).1
 have ho : BagOwn w 0 (xs ++ ys) := h.is i _ hi
 have hap := List.pairwise_append.1 ho.apart
 have hfp : ∀ b, b ∈ (bag xs).fp ∨ b ∈ (bag ys).fp → b ∈ (bag (xs ++ ys)).fp := fun b hb => by
  show b ∈ (xs ++ ys).flatMap RowS.fp
  rw [List.flatMap_append]
  exact List.mem_append.2 hb
 have hno : ∀ b, b ∈ (bag xs).fp → b ∉ (bag ys).fp := fun b hb hb2 => by
  obtain ⟨r, hr, hm⟩ := List.mem_flatMap.1 (show b ∈ xs.flatMap RowS.fp from hb)
  obtain ⟨s, hs, hm2⟩ := List.mem_flatMap.1 (show b ∈ ys.flatMap RowS.fp from hb2)
  exact hap.2.2 r hr s hs b hm hm2
 have key : ∀ (q : Nat) (s : Res), (rs.set i (bag xs) ++ [bag ys])[q]? = some s → (q = i ∧ s = bag xs) ∨ (q = rs.length ∧ s = bag ys) ∨ (q ≠ i ∧ q ≠ rs.length ∧ rs[q]? = some s) := fun q s hq => by
  rcases Nat.lt_trichotomy q rs.length with hl | hl | hl
  ·
   rw [List.getElem?_append_left (by simpa using hl)] at hq
   by_cases e : i = q
   ·
    subst e
    rw [List.getElem?_set_self hli] at hq
    exact .inl ⟨rfl, (Option.some.inj hq).symm⟩
   ·
    rw [List.getElem?_set_ne e] at hq
    exact .inr (.inr ⟨fun h => e h.symm, by omega, hq⟩)
  ·
   subst hl
   rw [List.getElem?_append_right (by simp)] at hq
   simp at hq
   exact .inr (.inl ⟨rfl, hq.symm⟩)
  ·
   rw [List.getElem?_eq_none (by simp; omega)] at hq
   cases hq
 refine ⟨h.old, fun q s hq => ?_, fun q s hq b hb => ?_, fun p q s t hp hq hne b hb hb2 => ?_⟩
 ·
  rcases key q s hq with ⟨_, rfl⟩ | ⟨_, rfl⟩ | ⟨_, _, h1⟩
  ·
   exact ho.sub (List.sublist_append_left ..)
  ·
   exact ho.sub (List.sublist_append_right ..)
  ·
   exact h.is q s h1
 ·
  rcases key q s hq with ⟨_, rfl⟩ | ⟨_, rfl⟩ | ⟨_, _, h1⟩
  ·
   exact h.lies i _ hi b (hfp b (.inl hb))
  ·
   exact h.lies i _ hi b (hfp b (.inr hb))
  ·
   exact h.lies q s h1 b hb
 ·
  rcases key p s hp with ⟨e1, rfl⟩ | ⟨e1, rfl⟩ | ⟨n1, n2, h1⟩ <;> rcases key q t hq with ⟨e2, rfl⟩ | ⟨e2, rfl⟩ | ⟨n3, n4, h2⟩
  ·
   exact hne (e1.trans e2.symm)
  ·
   exact hno b hb hb2
  ·
   exact h.apart i q _ t hi h2 (fun e => n3 e.symm) b (hfp b (.inl hb)) hb2
  ·
   exact hno b hb2 hb
  ·
   exact hne (e1.trans e2.symm)
  ·
   exact h.apart i q _ t hi h2 (fun e => n3 e.symm) b (hfp b (.inr hb)) hb2
  ·
   exact h.apart p i s _ h1 hi n1 b hb (hfp b (.inl hb2))
  ·
   exact h.apart p i s _ h1 hi n1 b hb (hfp b (.inr hb2))
  ·
   exact h.apart p q s t h1 h2 hne b hb hb2
end
section
variable {W w : World} {rs ts : List Res} {g : Nat} {t : TypeId} {cs : Array Value} {v : Value}
theorem cell_at (h : Sep W w rs) (i : Nat) (hi : rs[i]? = some (L4.boxR g t cs)) (j : Nat) (hj : cs[j]? = some v) : w.cell? ⟨g, j, none⟩ = some v := by rw [(L4.box_at h i hi).cell, hj]
theorem cs1 {a0 : Value} (h : Sep W w rs) (i : Nat) (hi : rs[i]? = some (L4.boxR g t #[a0])) : w.cell? ⟨g, 0, none⟩ = some a0 := cell_at h i hi 0 rfl
theorem cs3 {a0 a1 a2 : Value} (h : Sep W w rs) (i : Nat) (hi : rs[i]? = some (L4.boxR g t #[a0, a1, a2])) : w.cell? ⟨g, 0, none⟩ = some a0 ∧ w.cell? ⟨g, 1, none⟩ = some a1 ∧ w.cell? ⟨g, 2, none⟩ = some a2 := ⟨cell_at h i hi 0 rfl, cell_at h i hi 1 rfl, cell_at h i hi 2 rfl⟩
theorem cs4 {a0 a1 a2 a3 : Value} (h : Sep W w rs) (i : Nat) (hi : rs[i]? = some (L4.boxR g t #[a0, a1, a2, a3])) : w.cell? ⟨g, 0, none⟩ = some a0 ∧ w.cell? ⟨g, 1, none⟩ = some a1 ∧ w.cell? ⟨g, 2, none⟩ = some a2 ∧ w.cell? ⟨g, 3, none⟩ = some a3 := ⟨cell_at h i hi 0 rfl, cell_at h i hi 1 rfl, cell_at h i hi 2 rfl, cell_at h i hi 3 rfl⟩
theorem free_at (h : Sep W w rs) (i : Nat) (hi : rs[i]? = some (L4.boxR g t cs)) (j : Nat) : w.frozen? ⟨g, j, none⟩ = false := (L4.box_at h i hi).free j
theorem fs3 {a0 a1 a2 : Value} (h : Sep W w rs) (i : Nat) (hi : rs[i]? = some (L4.boxR g t #[a0, a1, a2])) : w.frozen? ⟨g, 0, none⟩ = false ∧ w.frozen? ⟨g, 1, none⟩ = false ∧ w.frozen? ⟨g, 2, none⟩ = false := ⟨free_at h i hi 0, free_at h i hi 1, free_at h i hi 2⟩
theorem fs4 {a0 a1 a2 a3 : Value} (h : Sep W w rs) (i : Nat) (hi : rs[i]? = some (L4.boxR g t #[a0, a1, a2, a3])) : w.frozen? ⟨g, 0, none⟩ = false ∧ w.frozen? ⟨g, 1, none⟩ = false ∧ w.frozen? ⟨g, 2, none⟩ = false ∧ w.frozen? ⟨g, 3, none⟩ = false := ⟨free_at h i hi 0, free_at h i hi 1, free_at h i hi 2, free_at h i hi 3⟩
theorem drew1 (h : Sep W w rs) : Sep W w.drew rs := h.drews 1
theorem take (h : Sep W w rs) (is : List Nat) (he : is.map (fun i => rs[i]?) = ts.map some) (hd : is.Nodup) : Sep W w ts := by
 have hl : is.length = ts.length := by simpa using congrArg List.length he
 refine sep_sub h (fun i => is.getD i 0) (fun i r hr => ?_) (fun i j hi hj e => ?_)
 ·
  have hi : i < ts.length := (List.getElem?_eq_some_iff.1 hr).1
  have h2 := congrArg (fun l => l[i]?) he
  simp only [List.getElem?_map, List.getElem?_eq_getElem (show i < is.length by omega), hr, Option.map_some] at h2
  rw [List.getD_eq_getElem?_getD, List.getElem?_eq_getElem (show i < is.length by omega)]
  simpa using h2
 ·
  simp only [List.getD_eq_getElem?_getD, List.getElem?_eq_getElem (show i < is.length by omega), List.getElem?_eq_getElem (show j < is.length by omega), Option.getD_some] at e
  exact (List.getElem_inj hd).1 e
end
end Go.Proofs.Ytojcdmgcbgpdmaa.Bag

namespace Go.Proofs.Ytojcdmgcbgpdmaa.L5
open Go.Op (bytesLess)
open L4 (less_irrefl less_total less_asymm less_trans)

structure F where
 name : ByteArray
 n : Int
def F.t (f : F) : List UInt8 := f.name.data.toList
theorem F.ext' {a b : F} (h1 : a.t = b.t) (h2 : a.n = b.n) : a = b := by
 obtain ⟨⟨⟨t1⟩⟩, n1⟩ := a
 obtain ⟨⟨⟨t2⟩⟩, n2⟩ := b
 simp only [F.t] at h1 h2
 subst h1; subst h2
 rfl
def low (b : UInt8) : Bool := decide (97 ≤ b.toNat) && decide (b.toNat ≤ 122)
def isN (l : List UInt8) : Bool := l.all low && (decide (1 ≤ l.length) && decide (l.length ≤ 8))
def okF (f : F) : Bool := isN f.t && L1.inB f.n 0 1000000000
def asc : List F → Bool
 | [] => true
 | [_] => true
 | x :: y :: r => bytesLess x.t y.t && asc (y :: r)
def isR (l : List F) : Bool := l.all okF && asc l && decide (l.length ≤ 6)
def okTo (l : List F) (k : Nat) : Prop := ∀ j (h : j < l.length), j < k → okF l[j] = true ∧ (0 < j → bytesLess (l[j - 1]'(by omega)).t l[j].t = true)
theorem asc_at : ∀ (l : List F), asc l = true ↔ ∀ j (h : j < l.length), 0 < j → bytesLess (l[j - 1]'(by omega)).t l[j].t = true
 | [] => by simp [asc]
 | [x] => by
  simp only [asc, true_iff]
  intro j h h0
  simp at h
  omega
 | x :: y :: r => by
  have ih := asc_at (y :: r)
  simp only [asc, Bool.and_eq_true, ih]
  constructor
  ·
   rintro ⟨h1, h2⟩ j hj h0
   rcases j with _ | _ | j
   ·
    omega
   ·
    simpa using h1
   ·
    have := h2 (j + 1) (by simp at hj ⊢; omega) (by omega)
    simpa using this
  ·
   intro h
   refine ⟨h 1 (by simp) (by omega), fun j hj h0 => ?_⟩
   have := h (j + 1) (by simp at hj ⊢; omega) (by omega)
   rcases j with _ | j
   ·
    omega
   ·
    simpa using this
theorem isR_iff {l : List F} : isR l = true ↔ okTo l l.length ∧ l.length ≤ 6 := by
 unfold isR okTo
 simp only [Bool.and_eq_true, decide_eq_true_eq, asc_at, List.all_eq_true]
 constructor
 ·
  rintro ⟨⟨h1, h2⟩, h3⟩
  exact ⟨fun j hj _ => ⟨h1 _ (List.getElem_mem hj), fun h0 => h2 j hj h0⟩, h3⟩
 ·
  rintro ⟨h1, h3⟩
  refine ⟨⟨fun x hx => ?_, fun j hj h0 => (h1 j hj hj).2 h0⟩, h3⟩
  obtain ⟨i, hi, rfl⟩ := List.getElem_of_mem hx
  exact (h1 i hi hi).1
theorem isR_no {l : List F} (j : Nat) (h : j < l.length) (hb : okF l[j] = false ∨ (0 < j ∧ bytesLess (l[j - 1]'(by omega)).t l[j].t = false)) : isR l = false := by
 cases hr : isR l with
 | false => rfl
 | true =>
  have := (isR_iff.1 hr).1 j h h
  rcases hb with hb | ⟨h0, hb⟩
  ·
   rw [this.1] at hb; cases hb
  ·
   rw [this.2 h0] at hb; cases hb
theorem isN_no {s : List UInt8} (j : Nat) (b : UInt8) (hb : s[j]? = some b) (h : low b = false) : isN s = false := by
 unfold isN
 rw [Bool.and_eq_false_iff]
 left
 rw [List.all_eq_false]
 exact ⟨b, List.mem_of_getElem? hb, by simp [h]⟩
theorem isN_all {s : List UInt8} (h : ∀ j (hj : j < s.length), low s[j] = true) : isN s = L1.inB (s.length : Int) 1 8 := by
 unfold isN L1.inB
 rw [show s.all low = true by rw [List.all_eq_true]; intro x hx; obtain ⟨i, hi, rfl⟩ := List.getElem_of_mem hx; exact h i hi, Bool.true_and]
 congr 1 <;> (rw [decide_eq_decide]; omega)
end Go.Proofs.Ytojcdmgcbgpdmaa.L5

namespace Go.Proofs.Ytojcdmgcbgpdmaa.L5
open Go.Op (bytesLess)
open Go.ChangeShapes Go.WideShapes Go.ChangeAt Go.RowKit Mem Sl Ex L2 Sv

def F.cells (f : F) : List Value := [.string f.name, .int .i64 f.n]
def cellsF (l : List F) : List Value := l.flatMap F.cells
theorem cellsF_cons (f : F) (l : List F) : cellsF (f :: l) = .string f.name :: .int .i64 f.n :: cellsF l := rfl
@[simp] theorem cellsF_length : ∀ (l : List F), (cellsF l).length = l.length * 2
  | [] => rfl
  | f :: l => by rw [cellsF_cons, List.length_cons, List.length_cons, cellsF_length l, List.length_cons]; omega
theorem cellsF_at : ∀ (l : List F) (j : Nat) (h : j < l.length), (cellsF l)[j * 2]? = some (.string l[j].name) ∧ (cellsF l)[j * 2 + 1]? = some (.int .i64 l[j].n)
  | f :: l, 0, _ => ⟨rfl, rfl⟩
  | f :: l, j + 1, h => by
    have := cellsF_at l j (by simpa using h)
    rw [cellsF_cons, show (j + 1) * 2 = j * 2 + 1 + 1 by omega]
    exact this
theorem cellsF_one (l : List F) : ∀ u ∈ cellsF l, u.oneCell' = true := by
  intro u hu
  obtain ⟨f, _, hf⟩ := List.mem_flatMap.1 hu
  simp [F.cells] at hf
  rcases hf with rfl | rfl <;> rfl
theorem add_next (ad : Addr) (j : Nat) : ad.add (j + 1) = ⟨(ad.add j).block, (ad.add j).off + 1, none⟩ := by
  unfold Addr.add
  by_cases h : j = 0 <;> simp [h, Nat.add_assoc]
theorem readsF {w : World} {B : Nat} {a : Option Addr} {l : List F} (h : Reads w B a (cellsF l)) (j : Nat) (hj : j < l.length) :
    ∃ ad, a = some ad ∧ ad.block < B ∧ w.cell? (ad.add (j * 2)) = some (.string l[j].name) ∧ w.cell? ⟨(ad.add (j * 2)).block, (ad.add (j * 2)).off + 1, none⟩ = some (.int .i64 l[j].n) := by
  obtain ⟨ad, e, hb, h1⟩ := h (j * 2) (by simp; omega)
  obtain ⟨ad', e', _, h2⟩ := h (j * 2 + 1) (by simp; omega)
  rw [e] at e'
  injection e' with e'
  subst e'
  obtain ⟨c1, c2⟩ := cellsF_at l j hj
  refine ⟨ad, e, hb, by rw [h1, ← c1, List.getElem?_eq_getElem], by rw [← add_next, h2, ← c2, List.getElem?_eq_getElem]⟩

theorem specIsName_any (s : ByteArray) (hs : s.size ≤ 281474976710656) (w : World) :
    Calls Try.prog 109 #[.string s] w fun e w' => e = .returned (.bool (isN s.data.toList)) ∧ w = w' := by
  have hsz : s.data.toList.length = s.size := by rw [Array.length_toList]; rfl
  have HZ := Lib.hid hsz
  clear hsz
  have HI := Lib.hid (fun w => L1.l1In_any (s.size : Int) 1 8 w)
  obtain ⟨bi, hbi⟩ : ∃ b, L1.inB (s.size : Int) 1 8 = b := ⟨_, rfl⟩
  rw [hbi] at HI
  go_enter Try.func109, Try.ntmps109
  go_wp2
  go_loop [3] (fun i => ∃ k : Nat, k ≤ s.size ∧ i = .int .i64 k ∧ Hid (∀ j (hj : j < s.data.toList.length), j < k → low s.data.toList[j] = true)) (fun i => s.size - (intOf i).toNat)
  case atStart => exact ⟨0, Nat.zero_le _, rfl, fun j hj h => by omega⟩
  case round =>
    obtain ⟨k, hk, rfl, hrel⟩ := hrel
    by_cases hlt : k < s.size
    · have hb : s.data.toList[k]? = some s[k] := by
        rw [List.getElem?_eq_getElem (by rw [HZ.out]; exact hlt)]
        rfl
      have HB := Lib.hid hb
      clear hb
      have hT : ∀ b : Bool, low s[k] = b → Hid (low s[k] = b) := fun b h => h
      rcases (show ((s[k].toNat : Int) < 97 ∧ low s[k] = false) ∨ ((¬ (s[k].toNat : Int) < 97 ∧ (s[k].toNat : Int) ≤ 122) ∧ low s[k] = true) ∨ ((¬ (s[k].toNat : Int) < 97 ∧ 122 < (s[k].toNat : Int)) ∧ low s[k] = false) by
        unfold low
        simp only [Bool.and_eq_true, Bool.and_eq_false_iff, decide_eq_true_eq, decide_eq_false_iff_not]
        omega) with ⟨h1, h2⟩ | ⟨⟨h1, h3⟩, h2⟩ | ⟨⟨h1, h3⟩, h2⟩
      all_goals
        have H2 := hT _ h2
        clear h2 hT
        go_wp2
        first
        | (go_round
           case rel => exact ⟨k + 1, by omega, by go_num, fun j hj h => by
              by_cases e : j < k
              · exact hrel.out j hj e
              · obtain rfl : j = k := by omega
                have := HB.out
                rw [List.getElem?_eq_getElem hj] at this
                rw [Option.some.inj this]
                exact H2.out⟩
           case measure => simp [intOf]; omega)
        | (go_ret
           exact ⟨by rw [isN_no k _ HB.out H2.out]; rfl, rfl⟩)
    · go_wp2_with (go_at_call 91; refine (HI.out _).mono ?_; rintro e w1 ⟨rfl, rfl⟩)
      go_ret
      obtain rfl : k = s.size := by omega
      have e1 := isN_all (fun j hj => hrel.out j hj (by rw [HZ.out] at hj; exact hj))
      rw [HZ.out, hbi] at e1
      exact ⟨by rw [e1]; rfl, rfl⟩

end Go.Proofs.Ytojcdmgcbgpdmaa.L5

set_option linter.unusedSimpArgs false
namespace Go.Proofs.Ytojcdmgcbgpdmaa.L5
open Go.Op (bytesLess)
open Go.ChangeShapes Go.WideShapes Go.ChangeAt Go.RowKit Mem Sl Ex L2 Sv

theorem string_geq (t : TypeId) (a b : ByteArray) : binOp .geq t (.string a) (.string b) = pure (.bool (!(bytesLess a.toList b.toList))) := by simp [binOp, Op.stringOp]
def Small (l : List F) : Prop := ∀ f ∈ l, f.name.size ≤ 281474976710656
set_option maxHeartbeats 8000000 in
theorem specIsRecord_any (a : Option Addr) (c : Nat) (l : List F) (hl : l.length ≤ 1099511627776) (hsm : Small l) (w : World) (hr : Reads w w.heap.size a (cellsF l)) :
  Calls Try.prog 86 #[.agg #[.slice a l.length c]] w fun e w' => e = .returned (.bool (isR l)) ∧ Below w.heap.size w w' := by
 obtain ⟨W1, hW1⟩ : ∃ u, u = w.alloc (.cells #[.slice a l.length c] 31) := ⟨_, rfl⟩
 have HBL := Lib.hid (show Below w.heap.size w W1 by rw [hW1]; exact below_alloc (Below.refl w.heap.size w) _ (Nat.le_refl _))
 have HR := Lib.hid (hr.below HBL.out)
 have HX0 := Lib.hid (show Row W1 w.heap.size 31 #[.slice a l.length c] by rw [hW1]; exact Row.made w _ _)
 obtain ⟨n, hn⟩ : ∃ n, n = l.length := ⟨_, rfl⟩
 rw [← hn] at HX0 hW1 ⊢
 rw [← hn] at hl
 have HN0 := Lib.hid hn
 have HS := Lib.hid hsm
 clear hn hr hsm
 have hl' : (n : Int) ≤ 1099511627776 := by omega
 go_enter Try.func86, Try.ntmps86
 go_upto_region 1 with fail
 rw [← hW1]
 clear hW1
 go_wp2
 go_loopw [3] (fun i wr => ∃ k : Nat, k ≤ n ∧ i = .int .i64 k ∧ Hid (okTo l k ∧ Drew W1 wr)) (fun i _ => n - (intOf i).toNat)
 case atStart => exact ⟨0, Nat.zero_le _, rfl, fun j hj h => by omega, Drew.refl _⟩
 case round =>
  obtain ⟨k, hk, rfl, hrel⟩ := hrel
  have hb0 : wr.cell? ⟨w.heap.size, 0, none⟩ = some (.slice a n c) := by
   have := ((HX0.out.below (hrel.out.2.below _) HX0.out.inside) : Row wr w.heap.size 31 #[.slice a n c]).cell 0
   simpa using this
  by_cases hlt : (k : Int) < (n : Int)
  ·
   have hkl : k < l.length := by have := HN0.out; omega
   have HRr := Lib.hid (HR.out.below ((hrel.out.2.below _).mono HBL.out.size))
   obtain ⟨ad, rfl, had, h1, h2⟩ := readsF HRr.out k hkl
   have HN := Lib.hid (fun w => specIsName_any l[k].name (HS.out _ (List.getElem_mem hkl)) w)
   have HI := Lib.hid (fun w => L1.l1In_any l[k].n 0 1000000000 w)
   obtain ⟨bn, hbn⟩ : ∃ b, isN l[k].name.data.toList = b := ⟨_, rfl⟩
   obtain ⟨bi, hbi⟩ : ∃ b, L1.inB l[k].n 0 1000000000 = b := ⟨_, rfl⟩
   have HO := Lib.hid (show okF l[k] = (bn && bi) by unfold okF; rw [hbi]; unfold F.t; rw [hbn])
   rw [hbn] at HN
   rw [hbi] at HI
   obtain ⟨t, ht⟩ : ∃ t, t = l[k].name := ⟨_, rfl⟩
   obtain ⟨m, hm⟩ : ∃ m, m = l[k].n := ⟨_, rfl⟩
   rw [← ht] at h1 HN
   rw [← hm] at h2 HI
   clear hbn hbi
   cases bn with
   | false =>
    have HX := Lib.hid (isR_no k hkl (.inl (by rw [HO.out]; rfl)))
    clear ht hm HO
    go_wp2_with fail
    refine wp_region_held_drew (S := (fun w' => w'.cell? ⟨w.heap.size, 0, none⟩ = some (.slice (some ad) n c) ∧ w'.cell? (ad.add (k * 2)) = some (.string t) ∧ w'.cell? ⟨(ad.add (k * 2)).block, (ad.add (k * 2)).off + 1, none⟩ = some (.int .i64 m))) (by kernel_rfl) ⟨hb0, h1, h2⟩ (fun hS => ?_)
    refine tk 0 rfl ?_
    try simp only [zp0, zp1, zp2, zp3, zp4]
    refine tk 1 rfl ?_
    try simp only [zp0, zp1, zp2, zp3, zp4]
    refine tk 2 rfl ?_
    try simp only [zp0, zp1, zp2, zp3, zp4]
    refine tk 3 rfl ?_
    try simp only [zp0, zp1, zp2, zp3, zp4]
    refine tk 4 rfl ?_
    try simp only [zp0, zp1, zp2, zp3, zp4]
    refine tk 5 rfl ?_
    try simp only [zp0, zp1, zp2, zp3, zp4]
    refine Reg.one_op (i := 6) rfl (by kernel_rfl) (fun K hK => ?_)
    go_simp
    go_at_call 109
    refine (HN.out _).mono ?_
    rintro e w1 ⟨rfl, rfl⟩
    go_wp2_with fail
    refine hK.out _ _ hS (fun hS => ?_)
    clear hK K
    try simp only [zp0, zp1, zp2, zp3, zp4]
    refine tk 7 rfl ?_
    try simp only [zp0, zp1, zp2, zp3, zp4]
    refine tk 8 rfl ?_
    try simp only [zp0, zp1, zp2, zp3, zp4]
    refine sk 9 rfl ?_
    try simp only [zp0, zp1, zp2, zp3, zp4]
    refine sk 10 rfl ?_
    try simp only [zp0, zp1, zp2, zp3, zp4]
    refine sk 11 rfl ?_
    try simp only [zp0, zp1, zp2, zp3, zp4]
    refine sk 12 rfl ?_
    try simp only [zp0, zp1, zp2, zp3, zp4]
    refine sk 13 rfl ?_
    try simp only [zp0, zp1, zp2, zp3, zp4]
    refine sk 14 rfl ?_
    try simp only [zp0, zp1, zp2, zp3, zp4]
    refine Reg.skip_one (i := 15) rfl (by kernel_rfl) (by rfl) (by assumption) ?_
    try simp only [zp0, zp1, zp2, zp3, zp4]
    refine sk 16 rfl ?_
    try simp only [zp0, zp1, zp2, zp3, zp4]
    refine tk 17 rfl ?_
    try simp only [zp0, zp1, zp2, zp3, zp4]
    refine tk 18 rfl ?_
    try simp only [zp0, zp1, zp2, zp3, zp4]
    refine sk 19 rfl ?_
    try simp only [zp0, zp1, zp2, zp3, zp4]
    refine sk 20 rfl ?_
    try simp only [zp0, zp1, zp2, zp3, zp4]
    refine sk 21 rfl ?_
    try simp only [zp0, zp1, zp2, zp3, zp4]
    refine sk 22 rfl ?_
    try simp only [zp0, zp1, zp2, zp3, zp4]
    refine sk 23 rfl ?_
    try simp only [zp0, zp1, zp2, zp3, zp4]
    refine sk 24 rfl ?_
    try simp only [zp0, zp1, zp2, zp3, zp4]
    refine sk 25 rfl ?_
    try simp only [zp0, zp1, zp2, zp3, zp4]
    refine sk 26 rfl ?_
    try simp only [zp0, zp1, zp2, zp3, zp4]
    refine sk 27 rfl ?_
    try simp only [zp0, zp1, zp2, zp3, zp4]
    refine sk 28 rfl ?_
    try simp only [zp0, zp1, zp2, zp3, zp4]
    refine sk 29 rfl ?_
    try simp only [zp0, zp1, zp2, zp3, zp4]
    refine sk 30 rfl ?_
    try simp only [zp0, zp1, zp2, zp3, zp4]
    refine sk 31 rfl ?_
    try simp only [zp0, zp1, zp2, zp3, zp4]
    refine sk 32 rfl ?_
    try simp only [zp0, zp1, zp2, zp3, zp4]
    refine sk 33 rfl ?_
    try simp only [zp0, zp1, zp2, zp3, zp4]
    refine sk 34 rfl ?_
    try simp only [zp0, zp1, zp2, zp3, zp4]
    refine sk 35 rfl ?_
    try simp only [zp0, zp1, zp2, zp3, zp4]
    refine sk 36 rfl ?_
    try simp only [zp0, zp1, zp2, zp3, zp4]
    refine tk 37 rfl ?_
    try simp only [zp0, zp1, zp2, zp3, zp4]
    refine wpAnyH_done (by kernel_rfl) ?_ _
    go_wp2_with fail
    go_ret
    exact ⟨by rw [HX.out]; rfl, HBL.out.trans (((hrel.out.2.below _).drew).mono HBL.out.size)⟩
   | true =>
    cases bi with
    | false =>
     have HX := Lib.hid (isR_no k hkl (.inl (by rw [HO.out]; rfl)))
     clear ht hm HO
     go_wp2_with fail
     refine wp_region_held_drew (S := (fun w' => w'.cell? ⟨w.heap.size, 0, none⟩ = some (.slice (some ad) n c) ∧ w'.cell? (ad.add (k * 2)) = some (.string t) ∧ w'.cell? ⟨(ad.add (k * 2)).block, (ad.add (k * 2)).off + 1, none⟩ = some (.int .i64 m))) (by kernel_rfl) ⟨hb0, h1, h2⟩ (fun hS => ?_)
     refine tk 0 rfl ?_
     try simp only [zp0, zp1, zp2, zp3, zp4]
     refine tk 1 rfl ?_
     try simp only [zp0, zp1, zp2, zp3, zp4]
     refine tk 2 rfl ?_
     try simp only [zp0, zp1, zp2, zp3, zp4]
     refine tk 3 rfl ?_
     try simp only [zp0, zp1, zp2, zp3, zp4]
     refine tk 4 rfl ?_
     try simp only [zp0, zp1, zp2, zp3, zp4]
     refine tk 5 rfl ?_
     try simp only [zp0, zp1, zp2, zp3, zp4]
     refine Reg.one_op (i := 6) rfl (by kernel_rfl) (fun K hK => ?_)
     go_simp
     go_at_call 109
     refine (HN.out _).mono ?_
     rintro e w1 ⟨rfl, rfl⟩
     go_wp2_with fail
     refine hK.out _ _ hS (fun hS => ?_)
     clear hK K
     try simp only [zp0, zp1, zp2, zp3, zp4]
     refine tk 7 rfl ?_
     try simp only [zp0, zp1, zp2, zp3, zp4]
     refine tk 8 rfl ?_
     try simp only [zp0, zp1, zp2, zp3, zp4]
     refine tk 9 rfl ?_
     try simp only [zp0, zp1, zp2, zp3, zp4]
     refine tk 10 rfl ?_
     try simp only [zp0, zp1, zp2, zp3, zp4]
     refine tk 11 rfl ?_
     try simp only [zp0, zp1, zp2, zp3, zp4]
     refine tk 12 rfl ?_
     try simp only [zp0, zp1, zp2, zp3, zp4]
     refine tk 13 rfl ?_
     try simp only [zp0, zp1, zp2, zp3, zp4]
     refine tk 14 rfl ?_
     try simp only [zp0, zp1, zp2, zp3, zp4]
     refine Reg.one_op (i := 15) rfl (by kernel_rfl) (fun K hK => ?_)
     go_simp
     go_at_call 91
     refine (HI.out _).mono ?_
     rintro e w1 ⟨rfl, rfl⟩
     go_wp2_with fail
     refine hK.out _ _ hS (fun hS => ?_)
     clear hK K
     try simp only [zp0, zp1, zp2, zp3, zp4]
     refine tk 16 rfl ?_
     try simp only [zp0, zp1, zp2, zp3, zp4]
     refine tk 17 rfl ?_
     try simp only [zp0, zp1, zp2, zp3, zp4]
     refine tk 18 rfl ?_
     try simp only [zp0, zp1, zp2, zp3, zp4]
     refine sk 19 rfl ?_
     try simp only [zp0, zp1, zp2, zp3, zp4]
     refine sk 20 rfl ?_
     try simp only [zp0, zp1, zp2, zp3, zp4]
     refine sk 21 rfl ?_
     try simp only [zp0, zp1, zp2, zp3, zp4]
     refine sk 22 rfl ?_
     try simp only [zp0, zp1, zp2, zp3, zp4]
     refine sk 23 rfl ?_
     try simp only [zp0, zp1, zp2, zp3, zp4]
     refine sk 24 rfl ?_
     try simp only [zp0, zp1, zp2, zp3, zp4]
     refine sk 25 rfl ?_
     try simp only [zp0, zp1, zp2, zp3, zp4]
     refine sk 26 rfl ?_
     try simp only [zp0, zp1, zp2, zp3, zp4]
     refine sk 27 rfl ?_
     try simp only [zp0, zp1, zp2, zp3, zp4]
     refine sk 28 rfl ?_
     try simp only [zp0, zp1, zp2, zp3, zp4]
     refine sk 29 rfl ?_
     try simp only [zp0, zp1, zp2, zp3, zp4]
     refine sk 30 rfl ?_
     try simp only [zp0, zp1, zp2, zp3, zp4]
     refine sk 31 rfl ?_
     try simp only [zp0, zp1, zp2, zp3, zp4]
     refine sk 32 rfl ?_
     try simp only [zp0, zp1, zp2, zp3, zp4]
     refine sk 33 rfl ?_
     try simp only [zp0, zp1, zp2, zp3, zp4]
     refine sk 34 rfl ?_
     try simp only [zp0, zp1, zp2, zp3, zp4]
     refine sk 35 rfl ?_
     try simp only [zp0, zp1, zp2, zp3, zp4]
     refine sk 36 rfl ?_
     try simp only [zp0, zp1, zp2, zp3, zp4]
     refine tk 37 rfl ?_
     try simp only [zp0, zp1, zp2, zp3, zp4]
     refine wpAnyH_done (by kernel_rfl) ?_ _
     go_wp2_with fail
     go_ret
     exact ⟨by rw [HX.out]; rfl, HBL.out.trans (((hrel.out.2.below _).drew).mono HBL.out.size)⟩
    | true =>
     rcases Nat.eq_zero_or_pos k with rfl | hk0
     ·
      clear ht hm
      rw [Nat.zero_mul, show ad.add 0 = ad by simp [Addr.add]] at h1 h2
      go_wp2_with fail
      refine wp_region_held_drew (S := (fun w' => w'.cell? ⟨w.heap.size, 0, none⟩ = some (.slice (some ad) n c) ∧ w'.cell? ad = some (.string t) ∧ w'.cell? ⟨ad.block, ad.off + 1, none⟩ = some (.int .i64 m))) (by kernel_rfl) ⟨hb0, h1, h2⟩ (fun hS => ?_)
      refine tk 0 rfl ?_
      try simp only [zp0, zp1, zp2, zp3, zp4]
      refine tk 1 rfl ?_
      try simp only [zp0, zp1, zp2, zp3, zp4]
      refine tk 2 rfl ?_
      try simp only [zp0, zp1, zp2, zp3, zp4]
      refine tk 3 rfl ?_
      try simp only [zp0, zp1, zp2, zp3, zp4]
      refine tk 4 rfl ?_
      try simp only [zp0, zp1, zp2, zp3, zp4]
      refine tk 5 rfl ?_
      try simp only [zp0, zp1, zp2, zp3, zp4]
      refine Reg.one_op (i := 6) rfl (by kernel_rfl) (fun K hK => ?_)
      go_simp
      go_at_call 109
      refine (HN.out _).mono ?_
      rintro e w1 ⟨rfl, rfl⟩
      go_wp2_with fail
      refine hK.out _ _ hS (fun hS => ?_)
      clear hK K
      try simp only [zp0, zp1, zp2, zp3, zp4]
      refine tk 7 rfl ?_
      try simp only [zp0, zp1, zp2, zp3, zp4]
      refine tk 8 rfl ?_
      try simp only [zp0, zp1, zp2, zp3, zp4]
      refine tk 9 rfl ?_
      try simp only [zp0, zp1, zp2, zp3, zp4]
      refine tk 10 rfl ?_
      try simp only [zp0, zp1, zp2, zp3, zp4]
      refine tk 11 rfl ?_
      try simp only [zp0, zp1, zp2, zp3, zp4]
      refine tk 12 rfl ?_
      try simp only [zp0, zp1, zp2, zp3, zp4]
      refine tk 13 rfl ?_
      try simp only [zp0, zp1, zp2, zp3, zp4]
      refine tk 14 rfl ?_
      try simp only [zp0, zp1, zp2, zp3, zp4]
      refine Reg.one_op (i := 15) rfl (by kernel_rfl) (fun K hK => ?_)
      go_simp
      go_at_call 91
      refine (HI.out _).mono ?_
      rintro e w1 ⟨rfl, rfl⟩
      go_wp2_with fail
      refine hK.out _ _ hS (fun hS => ?_)
      clear hK K
      try simp only [zp0, zp1, zp2, zp3, zp4]
      refine tk 16 rfl ?_
      try simp only [zp0, zp1, zp2, zp3, zp4]
      refine tk 17 rfl ?_
      try simp only [zp0, zp1, zp2, zp3, zp4]
      refine tk 18 rfl ?_
      try simp only [zp0, zp1, zp2, zp3, zp4]
      refine tk 19 rfl ?_
      try simp only [zp0, zp1, zp2, zp3, zp4]
      refine tk 20 rfl ?_
      try simp only [zp0, zp1, zp2, zp3, zp4]
      refine tk 21 rfl ?_
      try simp only [zp0, zp1, zp2, zp3, zp4]
      refine sk 22 rfl ?_
      try simp only [zp0, zp1, zp2, zp3, zp4]
      refine sk 23 rfl ?_
      try simp only [zp0, zp1, zp2, zp3, zp4]
      refine sk 24 rfl ?_
      try simp only [zp0, zp1, zp2, zp3, zp4]
      refine sk 25 rfl ?_
      try simp only [zp0, zp1, zp2, zp3, zp4]
      refine sk 26 rfl ?_
      try simp only [zp0, zp1, zp2, zp3, zp4]
      refine sk 27 rfl ?_
      try simp only [zp0, zp1, zp2, zp3, zp4]
      refine sk 28 rfl ?_
      try simp only [zp0, zp1, zp2, zp3, zp4]
      refine sk 29 rfl ?_
      try simp only [zp0, zp1, zp2, zp3, zp4]
      refine sk 30 rfl ?_
      try simp only [zp0, zp1, zp2, zp3, zp4]
      refine sk 31 rfl ?_
      try simp only [zp0, zp1, zp2, zp3, zp4]
      refine sk 32 rfl ?_
      try simp only [zp0, zp1, zp2, zp3, zp4]
      refine sk 33 rfl ?_
      try simp only [zp0, zp1, zp2, zp3, zp4]
      refine sk 34 rfl ?_
      try simp only [zp0, zp1, zp2, zp3, zp4]
      refine sk 35 rfl ?_
      try simp only [zp0, zp1, zp2, zp3, zp4]
      refine tk 36 rfl ?_
      try simp only [zp0, zp1, zp2, zp3, zp4]
      refine tk 37 rfl ?_
      try simp only [zp0, zp1, zp2, zp3, zp4]
      refine wpAnyH_done (by kernel_rfl) ?_ _
      go_wp2_with fail
      go_roundw
      case rel => exact ⟨1, by omega, by go_num, And.intro (fun j hj h => by
       obtain rfl : j = 0 := by omega
       exact ⟨by rw [HO.out]; rfl, fun h0 => by omega⟩) (Drew.more hrel.out.2 1)⟩
      case measure => simp [intOf]; omega
     ·
      obtain ⟨j, rfl⟩ : ∃ j, k = j + 1 := ⟨k - 1, by omega⟩
      obtain ⟨ad', e', -, h3, -⟩ := readsF HRr.out j (by omega)
      injection e' with e'
      subst e'
      obtain ⟨p, hp⟩ : ∃ p, p = (l[j]'(by omega)).name := ⟨_, rfl⟩
      rw [← hp] at h3
      have hwj : IntKind.i64.wrap (j : Int) = (j : Int) := IntWalk.i64_in _ ⟨by omega, by omega⟩
      have k1 : (0 : Int) ≤ (j : Int) + 1 := by omega
      have k2 : (j : Int) + 1 < (n : Int) := by omega
      have k3 : (0 : Int) ≤ (j : Int) := by omega
      have k4 : (j : Int) < (n : Int) := by omega
      have hge := string_geq
      obtain ⟨bo, hbo⟩ : ∃ b, bytesLess p.toList t.toList = b := ⟨_, rfl⟩
      have HB := Lib.hid (show bytesLess (l[j]'(by omega)).t l[j + 1].t = bo by unfold F.t; rw [← hp, ← ht, ← hbo, ByteArray.toList_eq, ByteArray.toList_eq])
      clear ht hm hp
      cases bo with
      | false =>
       have HX := Lib.hid (isR_no (j + 1) hkl (.inr ⟨Nat.succ_pos j, HB.out⟩))
       go_wp2_with fail
       refine wp_region_held_drew (S := (fun w' => w'.cell? ⟨w.heap.size, 0, none⟩ = some (.slice (some ad) n c) ∧ w'.cell? (ad.add ((j + 1) * 2)) = some (.string t) ∧ w'.cell? ⟨(ad.add ((j + 1) * 2)).block, (ad.add ((j + 1) * 2)).off + 1, none⟩ = some (.int .i64 m) ∧ w'.cell? (ad.add (j * 2)) = some (.string p))) (by kernel_rfl) ⟨hb0, h1, h2, h3⟩ (fun hS => ?_)
       refine tk 0 rfl ?_
       try simp only [zp0, zp1, zp2, zp3, zp4]
       refine tk 1 rfl ?_
       try simp only [zp0, zp1, zp2, zp3, zp4]
       refine tk 2 rfl ?_
       try simp only [zp0, zp1, zp2, zp3, zp4]
       refine tk 3 rfl ?_
       try simp only [zp0, zp1, zp2, zp3, zp4]
       refine tk 4 rfl ?_
       try simp only [zp0, zp1, zp2, zp3, zp4]
       refine tk 5 rfl ?_
       try simp only [zp0, zp1, zp2, zp3, zp4]
       refine Reg.one_op (i := 6) rfl (by kernel_rfl) (fun K hK => ?_)
       go_simp
       go_at_call 109
       refine (HN.out _).mono ?_
       rintro e w1 ⟨rfl, rfl⟩
       go_wp2_with fail
       refine hK.out _ _ hS (fun hS => ?_)
       clear hK K
       try simp only [zp0, zp1, zp2, zp3, zp4]
       refine tk 7 rfl ?_
       try simp only [zp0, zp1, zp2, zp3, zp4]
       refine tk 8 rfl ?_
       try simp only [zp0, zp1, zp2, zp3, zp4]
       refine tk 9 rfl ?_
       try simp only [zp0, zp1, zp2, zp3, zp4]
       refine tk 10 rfl ?_
       try simp only [zp0, zp1, zp2, zp3, zp4]
       refine tk 11 rfl ?_
       try simp only [zp0, zp1, zp2, zp3, zp4]
       refine tk 12 rfl ?_
       try simp only [zp0, zp1, zp2, zp3, zp4]
       refine tk 13 rfl ?_
       try simp only [zp0, zp1, zp2, zp3, zp4]
       refine tk 14 rfl ?_
       try simp only [zp0, zp1, zp2, zp3, zp4]
       refine Reg.one_op (i := 15) rfl (by kernel_rfl) (fun K hK => ?_)
       go_simp
       go_at_call 91
       refine (HI.out _).mono ?_
       rintro e w1 ⟨rfl, rfl⟩
       go_wp2_with fail
       refine hK.out _ _ hS (fun hS => ?_)
       clear hK K
       try simp only [zp0, zp1, zp2, zp3, zp4]
       refine tk 16 rfl ?_
       try simp only [zp0, zp1, zp2, zp3, zp4]
       refine tk 17 rfl ?_
       try simp only [zp0, zp1, zp2, zp3, zp4]
       refine tk 18 rfl ?_
       try simp only [zp0, zp1, zp2, zp3, zp4]
       refine tk 19 rfl ?_
       try simp only [zp0, zp1, zp2, zp3, zp4]
       refine tk 20 rfl ?_
       try simp only [zp0, zp1, zp2, zp3, zp4]
       refine tk 21 rfl ?_
       try simp only [zp0, zp1, zp2, zp3, zp4]
       refine tk 22 rfl ?_
       try simp only [zp0, zp1, zp2, zp3, zp4]
       refine tk 23 rfl ?_
       try simp only [zp0, zp1, zp2, zp3, zp4]
       refine tk 24 rfl ?_
       try simp only [zp0, zp1, zp2, zp3, zp4]
       refine tk 25 rfl ?_
       try simp only [zp0, zp1, zp2, zp3, zp4]
       refine tk 26 rfl ?_
       try simp only [zp0, zp1, zp2, zp3, zp4]
       refine tk 27 rfl ?_
       try simp only [zp0, zp1, zp2, zp3, zp4]
       refine tk 28 rfl ?_
       try simp only [zp0, zp1, zp2, zp3, zp4]
       refine tk 29 rfl ?_
       try simp only [zp0, zp1, zp2, zp3, zp4]
       refine tk 30 rfl ?_
       try simp only [zp0, zp1, zp2, zp3, zp4]
       refine tk 31 rfl ?_
       try simp only [zp0, zp1, zp2, zp3, zp4]
       refine tk 32 rfl ?_
       try simp only [zp0, zp1, zp2, zp3, zp4]
       refine tk 33 rfl ?_
       try simp only [zp0, zp1, zp2, zp3, zp4]
       refine tk 34 rfl ?_
       try simp only [zp0, zp1, zp2, zp3, zp4]
       refine tk 35 rfl ?_
       try simp only [zp0, zp1, zp2, zp3, zp4]
       refine tk 36 rfl ?_
       try simp only [zp0, zp1, zp2, zp3, zp4]
       refine tk 37 rfl ?_
       try simp only [zp0, zp1, zp2, zp3, zp4]
       refine wpAnyH_done (by kernel_rfl) ?_ _
       go_wp2_with fail
       go_ret
       exact ⟨by rw [HX.out]; rfl, HBL.out.trans (((hrel.out.2.below _).drew).mono HBL.out.size)⟩
      | true =>
       go_wp2_with fail
       refine wp_region_held_drew (S := (fun w' => w'.cell? ⟨w.heap.size, 0, none⟩ = some (.slice (some ad) n c) ∧ w'.cell? (ad.add ((j + 1) * 2)) = some (.string t) ∧ w'.cell? ⟨(ad.add ((j + 1) * 2)).block, (ad.add ((j + 1) * 2)).off + 1, none⟩ = some (.int .i64 m) ∧ w'.cell? (ad.add (j * 2)) = some (.string p))) (by kernel_rfl) ⟨hb0, h1, h2, h3⟩ (fun hS => ?_)
       refine tk 0 rfl ?_
       try simp only [zp0, zp1, zp2, zp3, zp4]
       refine tk 1 rfl ?_
       try simp only [zp0, zp1, zp2, zp3, zp4]
       refine tk 2 rfl ?_
       try simp only [zp0, zp1, zp2, zp3, zp4]
       refine tk 3 rfl ?_
       try simp only [zp0, zp1, zp2, zp3, zp4]
       refine tk 4 rfl ?_
       try simp only [zp0, zp1, zp2, zp3, zp4]
       refine tk 5 rfl ?_
       try simp only [zp0, zp1, zp2, zp3, zp4]
       refine Reg.one_op (i := 6) rfl (by kernel_rfl) (fun K hK => ?_)
       go_simp
       go_at_call 109
       refine (HN.out _).mono ?_
       rintro e w1 ⟨rfl, rfl⟩
       go_wp2_with fail
       refine hK.out _ _ hS (fun hS => ?_)
       clear hK K
       try simp only [zp0, zp1, zp2, zp3, zp4]
       refine tk 7 rfl ?_
       try simp only [zp0, zp1, zp2, zp3, zp4]
       refine tk 8 rfl ?_
       try simp only [zp0, zp1, zp2, zp3, zp4]
       refine tk 9 rfl ?_
       try simp only [zp0, zp1, zp2, zp3, zp4]
       refine tk 10 rfl ?_
       try simp only [zp0, zp1, zp2, zp3, zp4]
       refine tk 11 rfl ?_
       try simp only [zp0, zp1, zp2, zp3, zp4]
       refine tk 12 rfl ?_
       try simp only [zp0, zp1, zp2, zp3, zp4]
       refine tk 13 rfl ?_
       try simp only [zp0, zp1, zp2, zp3, zp4]
       refine tk 14 rfl ?_
       try simp only [zp0, zp1, zp2, zp3, zp4]
       refine Reg.one_op (i := 15) rfl (by kernel_rfl) (fun K hK => ?_)
       go_simp
       go_at_call 91
       refine (HI.out _).mono ?_
       rintro e w1 ⟨rfl, rfl⟩
       go_wp2_with fail
       refine hK.out _ _ hS (fun hS => ?_)
       clear hK K
       try simp only [zp0, zp1, zp2, zp3, zp4]
       refine tk 16 rfl ?_
       try simp only [zp0, zp1, zp2, zp3, zp4]
       refine tk 17 rfl ?_
       try simp only [zp0, zp1, zp2, zp3, zp4]
       refine tk 18 rfl ?_
       try simp only [zp0, zp1, zp2, zp3, zp4]
       refine tk 19 rfl ?_
       try simp only [zp0, zp1, zp2, zp3, zp4]
       refine tk 20 rfl ?_
       try simp only [zp0, zp1, zp2, zp3, zp4]
       refine tk 21 rfl ?_
       try simp only [zp0, zp1, zp2, zp3, zp4]
       refine tk 22 rfl ?_
       try simp only [zp0, zp1, zp2, zp3, zp4]
       refine tk 23 rfl ?_
       try simp only [zp0, zp1, zp2, zp3, zp4]
       refine tk 24 rfl ?_
       try simp only [zp0, zp1, zp2, zp3, zp4]
       refine tk 25 rfl ?_
       try simp only [zp0, zp1, zp2, zp3, zp4]
       refine tk 26 rfl ?_
       try simp only [zp0, zp1, zp2, zp3, zp4]
       refine tk 27 rfl ?_
       try simp only [zp0, zp1, zp2, zp3, zp4]
       refine tk 28 rfl ?_
       try simp only [zp0, zp1, zp2, zp3, zp4]
       refine tk 29 rfl ?_
       try simp only [zp0, zp1, zp2, zp3, zp4]
       refine tk 30 rfl ?_
       try simp only [zp0, zp1, zp2, zp3, zp4]
       refine tk 31 rfl ?_
       try simp only [zp0, zp1, zp2, zp3, zp4]
       refine tk 32 rfl ?_
       try simp only [zp0, zp1, zp2, zp3, zp4]
       refine tk 33 rfl ?_
       try simp only [zp0, zp1, zp2, zp3, zp4]
       refine tk 34 rfl ?_
       try simp only [zp0, zp1, zp2, zp3, zp4]
       refine tk 35 rfl ?_
       try simp only [zp0, zp1, zp2, zp3, zp4]
       refine tk 36 rfl ?_
       try simp only [zp0, zp1, zp2, zp3, zp4]
       refine tk 37 rfl ?_
       try simp only [zp0, zp1, zp2, zp3, zp4]
       refine wpAnyH_done (by kernel_rfl) ?_ _
       go_wp2_with fail
       go_roundw
       case rel => exact ⟨j + 1 + 1, by omega, by go_num, And.intro (fun q hq h => by
        by_cases e : q < j + 1
        ·
         exact hrel.out.1 q hq e
        ·
         obtain rfl : q = j + 1 := by omega
         exact ⟨by rw [HO.out]; rfl, fun _ => HB.out⟩) (Drew.more hrel.out.2 1)⟩
       case measure => simp [intOf]; omega
  ·
   obtain rfl : k = n := by omega
   have HX := Lib.hid (show isR l = decide ((k : Int) ≤ 6) by
    have e := HN0.out
    by_cases h6 : (k : Int) ≤ 6
    ·
     rw [decide_eq_true h6, isR_iff]
     exact ⟨by rw [← e]; exact hrel.out.1, by omega⟩
    ·
     rw [decide_eq_false h6]
     cases hr : isR l with
     | false => rfl
     | true => have := (isR_iff.1 hr).2; omega)
   go_wp2
   go_ret
   exact ⟨by rw [HX.out]; rfl, HBL.out.trans ((hrel.out.2.below _).mono HBL.out.size)⟩
end Go.Proofs.Ytojcdmgcbgpdmaa.L5

namespace Go.Proofs.Ytojcdmgcbgpdmaa.L5
open Go.ChangeShapes Go.WideShapes Go.ChangeAt Go.RowKit Mem Sl Ex L2 Sv

theorem infoField : (Try.prog.info? 128).map (fun i => (i.zero, i.size, i.bytes)) = some (some (.agg #[.string ⟨#[]⟩, .int .i64 0]), 2, 24) := by kernel_rfl
theorem below_rows {B : Nat} {w w' : World} {e : TypeId} {k : Nat} {a : Option Addr} {c n : Nat} {xs : List Value} (ho : OwnV w B e k a c n xs) (hg : w.grownBy w' (Value.slice a n c).ownBlock) (hB : B ≤ w.heap.size) : Below B w w' :=
 (Below.refl _ _).grown hg hB (fun k hk => (World.ownsRow.lt ho k hk).1)
theorem Row.madeAt (w : World) (t : TypeId) (cs : Array Value) (g : Nat) (hg : g = w.heap.size) : Row (w.alloc (.cells cs t)) g t cs := by
 subst hg
 exact Row.made w t cs
set_option maxHeartbeats 1000000 in
theorem l5Copy_any (a : Option Addr) (c : Nat) (l : List F) (hl : l.length ≤ 1099511627776) (w : World) (hr : Reads w w.heap.size a (cellsF l)) :
  Calls Try.prog 89 #[.agg #[.slice a l.length c]] w fun e w' => ∃ a' c', e = .returned (.agg #[.slice a' l.length c']) ∧ OwnV w' w.heap.size 128 2 a' c' l.length (cellsF l) ∧ Below w.heap.size w w' := by
 obtain ⟨i0, hi, hz0, hz1, hz2⟩ : ∃ i, Try.prog.info? 128 = some i ∧ i.zero = some (.agg #[.string ⟨#[]⟩, .int .i64 0]) ∧ i.size = 2 ∧ i.bytes = 24 := by
  have h := infoField
  rw [Option.map_eq_some_iff] at h
  obtain ⟨i, h1, h2⟩ := h
  simp only [Prod.mk.injEq] at h2
  exact ⟨i, h1, h2⟩
 obtain ⟨n, hn⟩ : ∃ n, n = l.length := ⟨_, rfl⟩
 rw [← hn] at hl ⊢
 have W0 := Lib.hid (fun (b1 b2 b3 : Obj) => below_alloc (below_alloc (below_alloc (Below.refl w.heap.size w) b1 (Nat.le_refl _)) b2 (Nat.le_refl _)) b3 (Nat.le_refl _))
 have HR := Lib.hid (fun w' (h : Below w.heap.size w w') => hr.below h)
 have HC := Lib.hid (show (cellsF l).length = n * 2 by rw [cellsF_length, hn])
 have HI := Lib.hid (And.intro hi (And.intro hz0 (And.intro hz1 hz2)))
 clear hn hr
 go_enter Try.func89, Try.ntmps89
 go_wp2_with (at_builtin; refine wpList_append_rows _ rfl _ _ 29 rfl (w.heap.size + 1 + 1) 128 i0 (.agg #[.string ⟨#[]⟩, .int .i64 0]) 2 24 Try.underlying29 HI.out.1 HI.out.2.1 HI.out.2.2.1 HI.out.2.2.2 rfl (by omega) _ 0 0 _ [] rfl rfl (OwnV.emptyAt _ _ _ _ (by simp) (by simp)) w.heap.size _ n n _ (cellsF l) rfl rfl (HR.out _ (W0.out _ _ _)) HC.out (cellsF_one l) (by unfold maxLen; omega) (by omega) (by simp) ?_; intro a9 c9 w9 ho9 hg9; have q9 := below_rows (OwnV.emptyAt (B := w.heap.size + 1 + 1) _ 128 2 _ (by simp) (by simp)) hg9 (by simp); have r9 := Row.below ((Row.madeAt (w.alloc (.cells #[.slice a n c] 31)) 31 #[.slice none 0 0] (w.heap.size + 1) (by simp)).more (.cells #[] 128)) q9 (by omega); have r0 := r9.cell 0; have r1 := r9.free 0; simp at r0)
 refine bodyPost_ret (v := .agg #[.slice a9 n c9]) (by simp [results, Try.results89, go_sem, r0]) rfl ?_
 have q0 := (W0.out (.cells #[.slice a n c] 31) (.cells #[.slice none 0 0] 31) (.cells #[] 128)).trans (q9.mono (by omega))
 refine ⟨a9, c9, rfl, (OwnV.far (by simpa using ho9) (w.heap.size + 1) 0 _ (by omega)).base (by omega), q0.setCell (p := ⟨w.heap.size + 1, 0, none⟩) (by show w.heap.size ≤ w.heap.size + 1; omega) _⟩
end Go.Proofs.Ytojcdmgcbgpdmaa.L5

namespace Go.Proofs.Ytojcdmgcbgpdmaa.L5
open Go.ChangeShapes Go.WideShapes Go.ChangeAt Go.RowKit Mem Sl Ex L2 Sv

theorem fieldInfo : ∃ i, Try.prog.info? 128 = some i ∧ i.zero = some (.agg #[.string ⟨#[]⟩, .int .i64 0]) ∧ i.size = 2 ∧ i.bytes = 24 := by
 have h := infoField
 rw [Option.map_eq_some_iff] at h
 obtain ⟨i, h1, h2⟩ := h
 simp only [Prod.mk.injEq] at h2
 exact ⟨i, h1, h2⟩
structure Tri5 (w wr : World) (sl : Value) (a1 : Option Addr) (c1 m : Nat) (q : List F) : Prop where
 r : Row wr w.heap.size 31 #[sl]
 z : Row wr (w.heap.size + 1) 31 #[.slice none 0 0]
 o : Row wr (w.heap.size + 1 + 1) 31 #[.slice a1 m c1]
 own : OwnV wr (w.heap.size + 1 + 1 + 1) 128 2 a1 c1 m (cellsF q)
 b : Below w.heap.size w wr
theorem Row.one {w : World} {g : Nat} {t : TypeId} {x : Value} (h : Row w g t #[x]) : w.cell? ⟨g, 0, none⟩ = some x ∧ w.frozen? ⟨g, 0, none⟩ = false := ⟨by rw [h.cell]; rfl, h.free 0⟩
theorem Tri5.size {w wr : World} {sl : Value} {a1 : Option Addr} {c1 m : Nat} {q : List F} (h : Tri5 w wr sl a1 c1 m q) : w.heap.size + 1 + 1 + 1 ≤ wr.heap.size := by
 have := Row.inside h.o
 omega
theorem Tri5.start (w : World) (sl : Value) : Tri5 w (((w.alloc (.cells #[sl] 31)).alloc (.cells #[.slice none 0 0] 31)).alloc (.cells #[.slice none 0 0] 31)) sl none 0 0 [] :=
 ⟨((Row.made w _ _).more _).more _, (Row.madeAt _ _ _ _ (by simp)).more _, Row.madeAt _ _ _ _ (by simp), OwnV.nil _ _ _ _, below_alloc (below_alloc (below_alloc (Below.refl _ _) _ (Nat.le_refl _)) _ (Nat.le_refl _)) _ (Nat.le_refl _)⟩
end Go.Proofs.Ytojcdmgcbgpdmaa.L5

namespace Go.Proofs.Ytojcdmgcbgpdmaa.L3

def hstep (d v : Int) : Int := (d * 1000003 + v % 2147483647 + 13) % 2147483647
def hfold (d : Int) (l : List Int) : Int := l.foldl hstep d
def hs (l : List Int) : Int := hfold 11 l
def kh (k : Int) (l : List Int) : Int := hs (k :: (l ++ [k]))
def encB (k : Int) (i : Nat) (b : Int) : Int := (b + kh k [(i : Int)] % 256) % 256
def decB (k : Int) (i : Nat) (b : Int) : Int := (b - kh k [(i : Int)] % 256) % 256
def encL (k : Int) (l : List Int) : List Int := l.mapIdx (encB k)
def decL (k : Int) (l : List Int) : List Int := l.mapIdx (decB k)
@[simp] theorem encL_length (k : Int) (l : List Int) : (encL k l).length = l.length := by simp [encL]
@[simp] theorem decL_length (k : Int) (l : List Int) : (decL k l).length = l.length := by simp [decL]
end Go.Proofs.Ytojcdmgcbgpdmaa.L3

namespace Go.Proofs.Ytojcdmgcbgpdmaa.L3
open Go.ChangeShapes Go.WideShapes Go.ChangeAt Go.RowKit Mem Sl Ex L2



def strB (s : ByteArray) : List Int := s.data.toList.map fun b => (b.toNat : Int)
end Go.Proofs.Ytojcdmgcbgpdmaa.L3

namespace Go.Proofs.Ytojcdmgcbgpdmaa.L5
open L4 (boxR push_box box_at)
open Go.ChangeShapes Go.WideShapes Go.ChangeAt Go.RowKit Mem Sl Ex L2 Sv

def encF (f : F) : List Int := (enc (L3.strB f.name).length ++ L3.strB f.name) ++ enc f.n
def encB (l : List F) : List Int := l.flatMap encF
def encR (l : List F) : List Int := if isR l then enc l.length ++ encB l else []
end Go.Proofs.Ytojcdmgcbgpdmaa.L5

namespace Go.Proofs.Ytojcdmgcbgpdmaa.L5
open L4 (boxR push_box box_at)
open Go.ChangeShapes Go.WideShapes Go.ChangeAt Go.RowKit Mem Sl Ex L2 Sv

def eqF (f g : F) : Bool := f.t == g.t && f.n == g.n
def eqR (l m : List F) : Bool := l.length == m.length && (l.zip m).all fun p => eqF p.1 p.2
end Go.Proofs.Ytojcdmgcbgpdmaa.L5

namespace Go.Proofs.Ytojcdmgcbgpdmaa.L4
open Go.Op (bytesLess)
open Go.ChangeShapes Go.WideShapes Go.ChangeAt Go.RowKit Mem Sl Ex L2

def toI (u : List UInt8) : List Int := u.map fun b => (b.toNat : Int)
@[simp] theorem toI_length (u : List UInt8) : (toI u).length = u.length := by simp [toI]
theorem toI_toU (l : List Int) (h : Byt l) : toI (toU l) = l := by
 unfold toI toU
 rw [List.map_map]
 have : ∀ x ∈ l, ((fun b : UInt8 => (b.toNat : Int)) ∘ fun n : Int => UInt8.ofNat n.toNat) x = x := fun x hx => by
  have := h x hx
  simp only [Function.comp, UInt8.toNat_ofNat']
  omega
 rw [List.map_congr_left this, List.map_id']
theorem toU_toI (u : List UInt8) : toU (toI u) = u := by
 unfold toI toU
 rw [List.map_map]
 have : ∀ x ∈ u, ((fun n : Int => UInt8.ofNat n.toNat) ∘ fun b : UInt8 => (b.toNat : Int)) x = x := fun x _ => by simp
 rw [List.map_congr_left this, List.map_id']
end Go.Proofs.Ytojcdmgcbgpdmaa.L4

namespace Go.Proofs.Ytojcdmgcbgpdmaa.L6
open L4 (K isK cmpK R inR encU)
open L5 (F isR isN cellsF encR eqR Small)
open Go.ChangeShapes Go.WideShapes Go.ChangeAt Go.RowKit Mem Sl Sv Bag

def eqK (a b : K) : Bool := a.kind == b.kind && (a.n == b.n && a.t == b.t)
theorem eqK_iff {a b : K} : eqK a b = true ↔ a = b := by
 unfold eqK
 simp only [Bool.and_eq_true, beq_iff_eq]
 exact ⟨fun h => K.ext' h.1 h.2.1 h.2.2, fun h => by subst h; exact ⟨rfl, rfl, rfl⟩⟩
theorem eqK_refl (a : K) : eqK a a = true := eqK_iff.2 rfl
structure It where
 k : K
 l : List F
structure S6 where
 name : ByteArray
 items : List It
 auto : Int
def behind (xs : List It) (x : It) : Nat → Bool
 | 0 => true
 | j + 1 => match xs[j]? with
  | none => true
  | some y => decide (cmpK y.k x.k < 0)
def okIx (xs : List It) (i : Nat) : Bool := match xs[i]? with
 | none => true
 | some x => isK x.k && (isR x.l && behind xs x i)
theorem okIx_at {xs : List It} {k : Nat} {x : It} (h : xs[k]? = some x) : okIx xs k = (isK x.k && (isR x.l && behind xs x k)) := by
 unfold okIx
 rw [h]
theorem behind_at {xs : List It} {m : Nat} {x y : It} (h2 : xs[m]? = some y) : behind xs x (m + 1) = decide (cmpK y.k x.k < 0) := by
 simp only [behind, h2]
def isI (xs : List It) : Bool := (List.range xs.length).all (okIx xs)
def isS (s : S6) : Bool := isI s.items && (isN s.name.data.toList && (decide (s.items.length ≤ 16) && L1.inB s.auto 0 1000000))
theorem isI_no {xs : List It} (i : Nat) (hi : i < xs.length) (h : okIx xs i = false) : isI xs = false := by
 cases h1 : isI xs with
 | false => rfl
 | true =>
  unfold isI at h1
  have := (List.all_eq_true.1 h1) i (List.mem_range.2 hi)
  rw [h] at this
  cases this
theorem isI_all {xs : List It} (h : ∀ i, i < xs.length → okIx xs i = true) : isI xs = true := by
 unfold isI
 exact List.all_eq_true.2 fun i hi => h i (List.mem_range.1 hi)
theorem isI_at {xs : List It} (h : isI xs = true) (i : Nat) (hi : i < xs.length) : okIx xs i = true := by
 unfold isI at h
 exact (List.all_eq_true.1 h) i (List.mem_range.2 hi)
theorem okIx_zero {xs : List It} (h : 0 < xs.length) : okIx xs 0 = (isK xs[0].k && isR xs[0].l) := by
 rw [okIx_at (List.getElem?_eq_getElem h)]
 simp [behind]
theorem okIx_succ {xs : List It} (j : Nat) (h : j + 1 < xs.length) : okIx xs (j + 1) = (isK xs[j + 1].k && (isR xs[j + 1].l && decide (cmpK xs[j].k xs[j + 1].k < 0))) := by
 rw [okIx_at (List.getElem?_eq_getElem h), behind_at (List.getElem?_eq_getElem (show j < xs.length by omega))]
def fndO (xs : List It) (k : K) : Option Nat := xs.findIdx? fun x => eqK x.k k
def fndI (xs : List It) (k : K) : Int := match fndO xs k with
 | some i => i
 | none => -1
theorem fndO_at {xs : List It} {k : K} (i : Nat) (hi : i < xs.length) (h : eqK xs[i].k k = true) (ha : ∀ j (hj : j < xs.length), j < i → eqK xs[j].k k = false) : fndO xs k = some i := by
 unfold fndO
 rw [List.findIdx?_eq_some_iff_getElem]
 exact ⟨hi, h, fun j hj => by rw [ha j (by omega) hj]; simp⟩
theorem fndO_none {xs : List It} {k : K} (ha : ∀ j (hj : j < xs.length), eqK xs[j].k k = false) : fndO xs k = none := by
 unfold fndO
 rw [List.findIdx?_eq_none_iff]
 intro x hx
 obtain ⟨j, hj, rfl⟩ := List.getElem_of_mem hx
 exact ha j hj
theorem fndO_some {xs : List It} {k : K} {i : Nat} (h : fndO xs k = some i) : ∃ hi : i < xs.length, xs[i].k = k := by
 unfold fndO at h
 rw [List.findIdx?_eq_some_iff_getElem] at h
 obtain ⟨hi, h1, _⟩ := h
 exact ⟨hi, eqK_iff.1 h1⟩
theorem fndI_range (xs : List It) (k : K) : -1 ≤ fndI xs k ∧ fndI xs k < xs.length := by
 unfold fndI
 cases h : fndO xs k with
 | none => simp; omega
 | some i => obtain ⟨hi, _⟩ := fndO_some h; simp; omega
def posI (xs : List It) (k : K) : Nat := (xs.findIdx? fun x => !decide (cmpK x.k k < 0)).getD xs.length
theorem posI_at {xs : List It} {k : K} (i : Nat) (hi : i ≤ xs.length) (hl : ∀ j (hj : j < xs.length), j < i → cmpK xs[j].k k < 0) (hn : ∀ hi : i < xs.length, ¬ cmpK xs[i].k k < 0) : posI xs k = i := by
 unfold posI
 by_cases h : i < xs.length
 ·
  rw [show (xs.findIdx? fun x => !decide (cmpK x.k k < 0)) = some i by
   rw [List.findIdx?_eq_some_iff_getElem]
   exact ⟨h, by simpa using hn h, fun j hj => by simpa using hl j (by omega) hj⟩]
  rfl
 ·
  obtain rfl : i = xs.length := by omega
  rw [show (xs.findIdx? fun x => !decide (cmpK x.k k < 0)) = none by
   rw [List.findIdx?_eq_none_iff]
   intro x hx
   obtain ⟨j, hj, rfl⟩ := List.getElem_of_mem hx
   simpa using hl j hj hj]
  rfl
theorem posI_le (xs : List It) (k : K) : posI xs k ≤ xs.length := by
 unfold posI
 cases h : xs.findIdx? fun x => !decide (cmpK x.k k < 0) with
 | none => exact Nat.le_refl _
 | some i =>
  rw [List.findIdx?_eq_some_iff_getElem] at h
  exact Nat.le_of_lt h.1
def nextAuto (auto : Int) (k : K) : Int := if k.kind == 1 && L1.inB k.n (auto + 1) 1000000 then k.n else auto
def putI (s : S6) (k : K) (l : List F) : S6 × Bool :=
 if isS s && (isK k && isR l) then
  match fndO s.items k with
  | some i => (⟨s.name, s.items.set i ⟨k, l⟩, s.auto⟩, true)
  | none => if 16 ≤ s.items.length then (s, false) else (⟨s.name, s.items.take (posI s.items k) ++ ⟨k, l⟩ :: s.items.drop (posI s.items k), nextAuto s.auto k⟩, true)
 else (s, false)
def addI (s : S6) (k : K) (l : List F) : S6 × Bool := if 0 ≤ fndI s.items k then (s, false) else putI s k l
def zK : K := ⟨0, 0, ⟨#[]⟩⟩
def autoK (s : S6) : K := ⟨1, s.auto + 1, ⟨#[]⟩⟩
def autoB (s : S6) (l : List F) : Bool := !decide (1000000 ≤ s.auto) && (addI s (autoK s) l).2
def autoS (s : S6) (l : List F) : S6 := if autoB s l then (addI s (autoK s) l).1 else s
def autoR (s : S6) (l : List F) : K := if autoB s l then autoK s else zK
structure FitI (x : It) : Prop where
 text : x.k.text.size ≤ 1099511627776
 len : x.l.length ≤ 1048576
 small : Small x.l
structure FitS (s : S6) : Prop where
 name : s.name.size ≤ 281474976710656
 len : s.items.length ≤ 1048576
 items : ∀ x ∈ s.items, FitI x

structure LI where
 k : K
 a : Option Addr
 c : Nat
 l : List F
def LI.con (x : LI) : It := ⟨x.k, x.l⟩
def LI.cells (x : LI) : List Value := [.int .i64 x.k.kind, .int .i64 x.k.n, .string x.k.text, .slice x.a x.l.length x.c]
def LI.row (x : LI) : RowS := ⟨128, 2, x.a, x.c, x.l.length, cellsF x.l⟩
def cellsI (xs : List LI) : List Value := xs.flatMap LI.cells
def conI (xs : List LI) : List It := xs.map LI.con
@[simp] theorem conI_length (xs : List LI) : (conI xs).length = xs.length := List.length_map ..
theorem conI_get (xs : List LI) (j : Nat) (h : j < xs.length) : (conI xs)[j]'(by simpa using h) = xs[j].con := List.getElem_map ..
theorem cellsI_cons (x : LI) (xs : List LI) : cellsI (x :: xs) = .int .i64 x.k.kind :: .int .i64 x.k.n :: .string x.k.text :: .slice x.a x.l.length x.c :: cellsI xs := rfl
theorem cellsI_append (xs ys : List LI) : cellsI (xs ++ ys) = cellsI xs ++ cellsI ys := by unfold cellsI; rw [List.flatMap_append]
@[simp] theorem cellsI_length : ∀ (xs : List LI), (cellsI xs).length = xs.length * 4
 | [] => rfl
 | x :: xs => by rw [cellsI_cons, List.length_cons, List.length_cons, List.length_cons, List.length_cons, cellsI_length xs, List.length_cons]; omega
theorem cellsI_at : ∀ (xs : List LI) (j : Nat) (h : j < xs.length), (cellsI xs)[j * 4]? = some (.int .i64 xs[j].k.kind) ∧ (cellsI xs)[j * 4 + 1]? = some (.int .i64 xs[j].k.n) ∧ (cellsI xs)[j * 4 + 2]? = some (.string xs[j].k.text) ∧ (cellsI xs)[j * 4 + 3]? = some (.slice xs[j].a xs[j].l.length xs[j].c)
 | x :: xs, 0, _ => ⟨rfl, rfl, rfl, rfl⟩
 | x :: xs, j + 1, h => by
  have := cellsI_at xs j (by simpa using h)
  rw [cellsI_cons, show (j + 1) * 4 = j * 4 + 1 + 1 + 1 + 1 by omega]
  exact this
theorem cellsI_one (xs : List LI) : ∀ u ∈ cellsI xs, u.oneCell' = true := by
 intro u hu
 obtain ⟨x, _, hx⟩ := List.mem_flatMap.1 hu
 simp [LI.cells] at hx
 rcases hx with rfl | rfl | rfl | rfl <;> rfl
theorem readsI {w : World} {B : Nat} {a : Option Addr} {xs : List LI} (h : Reads w B a (cellsI xs)) (j : Nat) (hj : j < xs.length) :
  ∃ ad, a = some ad ∧ ad.block < B ∧ w.cell? (ad.add (j * 4)) = some (.int .i64 xs[j].k.kind) ∧ w.cell? ⟨(ad.add (j * 4)).block, (ad.add (j * 4)).off + 1, none⟩ = some (.int .i64 xs[j].k.n) ∧ w.cell? ⟨(ad.add (j * 4)).block, (ad.add (j * 4)).off + 2, none⟩ = some (.string xs[j].k.text) ∧ w.cell? ⟨(ad.add (j * 4)).block, (ad.add (j * 4)).off + 3, none⟩ = some (.slice xs[j].a xs[j].l.length xs[j].c) := by
 obtain ⟨c0, c1, c2, c3⟩ := cellsI_at xs j hj
 have key : ∀ q, q < 4 → ∃ ad, a = some ad ∧ ad.block < B ∧ (cellsI xs)[j * 4 + q]? = w.cell? (ad.add (j * 4 + q)) := fun q hq => by
  have hq2 : j * 4 + q < (cellsI xs).length := by rw [cellsI_length]; omega
  obtain ⟨ad, e, hb, h1⟩ := h (j * 4 + q) hq2
  exact ⟨ad, e, hb, by rw [List.getElem?_eq_getElem hq2, h1]⟩
 obtain ⟨ad, e, hb, h0⟩ := key 0 (by omega)
 obtain ⟨ad1, e1, _, h1⟩ := key 1 (by omega)
 obtain ⟨ad2, e2, _, h2⟩ := key 2 (by omega)
 obtain ⟨ad3, e3, _, h3⟩ := key 3 (by omega)
 rw [e] at e1 e2 e3
 cases e1; cases e2; cases e3
 have nx : ∀ q, w.cell? (ad.add (j * 4 + (q + 1))) = w.cell? ⟨(ad.add (j * 4)).block, (ad.add (j * 4)).off + (q + 1), none⟩ := fun q => by
  congr 1
  unfold Addr.add
  by_cases hz : j * 4 = 0 <;> simp [hz, Nat.add_assoc]
 refine ⟨ad, e, hb, ?_, ?_, ?_, ?_⟩
 ·
  rw [Nat.add_zero] at h0
  rw [← h0, c0]
 ·
  rw [← nx 0, ← h1, c1]
 ·
  rw [← nx 1, ← h2, c2]
 ·
  rw [← nx 2, ← h3, c3]
structure LS where
 name : ByteArray
 a : Option Addr
 c : Nat
 xs : List LI
 auto : Int
def LS.con (s : LS) : S6 := ⟨s.name, conI s.xs, s.auto⟩
def LS.cells (s : LS) : Array Value := #[.string s.name, .slice s.a s.xs.length s.c, .int .i64 s.auto]
def LS.v (s : LS) : Value := .agg s.cells
def rowI (a : Option Addr) (c : Nat) (xs : List LI) : RowS := ⟨40, 4, a, c, xs.length, cellsI xs⟩
def rowsI (xs : List LI) : List RowS := xs.map LI.row
def LS.rows (s : LS) : List RowS := rowI s.a s.c s.xs :: rowsI s.xs
theorem rowsI_append (xs ys : List LI) : rowsI (xs ++ ys) = rowsI xs ++ rowsI ys := List.map_append
theorem rowsI_at (xs : List LI) (j : Nat) (h : j < xs.length) : xs[j].row ∈ rowsI xs := List.mem_map.2 ⟨_, List.getElem_mem h, rfl⟩
section
variable {w : World} {B : Nat} {s : LS}
theorem LS.outer (h : RowsRd w B s.rows) : Reads w B s.a (cellsI s.xs) := (h.at_ (r := rowI s.a s.c s.xs) (List.mem_cons_self ..)).reads
theorem LS.inner (h : RowsRd w B s.rows) : RowsRd w B (rowsI s.xs) := h.sub fun r hr => List.mem_cons_of_mem _ hr
end
def GaveI (w : World) (x : It) (e : Ending) (w' : World) : Prop :=
 ∃ a c, e = .returned (.agg #[.int .i64 x.k.kind, .int .i64 x.k.n, .string x.k.text, .slice a x.l.length c]) ∧ BagOwn w' w.heap.size [(LI.mk x.k a c x.l).row] ∧ Below w.heap.size w w'
def GaveIs (w : World) (xs : List It) (e : Ending) (w' : World) : Prop :=
 ∃ (a : Option Addr) (c : Nat) (ys : List LI), e = .returned (.slice a ys.length c) ∧ conI ys = xs ∧ BagOwn w' w.heap.size (rowI a c ys :: rowsI ys) ∧ Below w.heap.size w w'
def GaveS (w : World) (s : S6) (e : Ending) (w' : World) : Prop :=
 ∃ y : LS, e = .returned y.v ∧ y.con = s ∧ BagOwn w' w.heap.size y.rows ∧ Below w.heap.size w w'
def GaveSB (w : World) (s : S6) (b : Bool) (e : Ending) (w' : World) : Prop :=
 ∃ y : LS, e = .returned (.tuple #[y.v, .bool b]) ∧ y.con = s ∧ BagOwn w' w.heap.size y.rows ∧ Below w.heap.size w w'
def GaveSKB (w : World) (s : S6) (k : K) (b : Bool) (e : Ending) (w' : World) : Prop :=
 ∃ y : LS, e = .returned (.tuple #[y.v, k.v, .bool b]) ∧ y.con = s ∧ BagOwn w' w.heap.size y.rows ∧ Below w.heap.size w w'
end Go.Proofs.Ytojcdmgcbgpdmaa.L6

namespace Go.Proofs.Ytojcdmgcbgpdmaa.L5
open Go.Op (bytesLess)
open L4 (boxR push_box box_at)
open Go.ChangeShapes Go.WideShapes Go.ChangeAt Go.RowKit Mem Sl Ex L2 Sv

theorem put_box5 {W w : World} {rs : List Res} {g : Nat} {t : TypeId} {cs : Array Value} (h : Sep W w rs) (i : Nat) (hi : rs[i]? = some (boxR g t cs)) (j : Nat) (v : Value) : Sep W (w.setCell ⟨g, j, none⟩ v) (rs.set i (boxR g t (cs.setIfInBounds j v))) :=
 h.put i hi (Turned.of_grown (grownBy_put w g j v)) ((box_at h i hi).put j v) (fun b hb => hb)
end Go.Proofs.Ytojcdmgcbgpdmaa.L5

namespace Go.Proofs.Ytojcdmgcbgpdmaa.Reg
section
variable {P : Program} {ops : Array Oper} {Q : Exit → Act → World → Prop} {md : Region.Mode} {S0 S1 : World → Prop} {q : Nat}
def Tier (S0 S1 : World → Prop) (q : Nat) (listed : Array Bool) (i : Nat) (w : World) : Prop := S0 w ∧ (i ≠ q → listed.getD q true = false → S1 w)
def anyL (P : Program) (md : Region.Mode) (ops : Array Oper) (Q : Exit → Act → World → Prop) (S0 S1 : World → Prop) (q : Nat) : Nat → Array Bool → Act → World → Prop
 | 0, L, a, w => Region.ready md ops L = [] ∧ Q .normal a w
 | n + 1, L, a, w => (Region.ready md ops L = [] → Q .normal a w) ∧ ∀ i, i ∈ Region.ready md ops L → wpOp P ops Q i (fun a' w' => Tier S0 S1 q L i w' ∧ anyL P md ops Q S0 S1 q n (L.setIfInBounds i true) a' w') a w
theorem anyL_plain : ∀ (n : Nat) (L : Array Bool) (a : Act) (w : World), anyL P md ops Q S0 S1 q n L a w → wpAny P md ops Q n L a w
 | 0, _, _, _, h => h
 | n + 1, _, _, _, h => ⟨h.1, fun i hi => wpOp_mono (fun a' w' h' => anyL_plain n _ a' w' h'.2) (h.2 i hi)⟩
theorem anyL_first {i : Nat} {oi : Oper} {v : Value} {T : World → Prop} (hi : ops[i]? = some oi) (hsel : ∀ (j : Nat) (o : Oper) cs b, ops[j]? = some o → o.op ≠ .select cs b) (hQ : ∀ c a w, Q (.panic c) (a.put oi.dst v) w → Q (.panic c) a w)
  (hiq : i ≠ q)
  (hT : (∀ w, S0 w → T w) ∨ ((∀ w, S0 w → S1 w → T w) ∧ ∃ oq, ops[q]? = some oq ∧ ∃ e ∈ oq.after, Region.binds md e = true ∧ e.on = i)) :
  ∀ (n : Nat) (L : Array Bool) (a : Act) (w : World), ((∀ w, S0 w → T w) ∨ L.getD q true = false) →
   (∀ j oj, ops[j]? = some oj → j ≠ i → L.getD j true = false → (∀ e ∈ oj.after, Region.binds md e = true → e.on ≠ i) → oi.apart ops oj = true) →
   i ∈ Region.ready md ops L → YieldsIf P ops T oi v a → (S0 w ∧ (L.getD q true = false → S1 w)) →
   anyL P md ops Q S0 S1 q n (L.setIfInBounds i true) (a.put oi.dst v) w → anyL P md ops Q S0 S1 q (n + 1) L a w := by
 have hTw : ∀ (L : Array Bool) (w : World), ((∀ w, S0 w → T w) ∨ L.getD q true = false) → S0 w → (L.getD q true = false → S1 w) → T w := fun L w hL h0 h1 => by
  rcases hT with h | ⟨h, _⟩
  ·
   exact h w h0
  ·
   rcases hL with h2 | h2
   ·
    exact h2 w h0
   ·
    exact h w h0 (h1 h2)
 intro n
 induction n with
 | zero =>
  intro L a w hL hfree hr hy hS H
  refine ⟨fun h => (by rw [h] at hr; cases hr), fun j hj => ?_⟩
  by_cases hji : j = i
  ·
   subst hji
   exact hy.wpOp hi (hTw L w hL hS.1 hS.2) ⟨⟨hS.1, fun _ => hS.2⟩, H⟩
  ·
   have := ready_mono hj hji
   rw [H.1] at this
   cases this
 | succ n ih =>
  intro L a w hL hfree hr hy hS H
  refine ⟨fun h => (by rw [h] at hr; cases hr), fun j hj => ?_⟩
  by_cases hji : j = i
  ·
   subst hji
   exact hy.wpOp hi (hTw L w hL hS.1 hS.2) ⟨⟨hS.1, fun _ => hS.2⟩, H⟩
  ·
   have h1 := H.2 j (ready_mono hj hji)
   obtain ⟨hjun, oj, hoj, hall⟩ := mem_ready.1 hj
   have hnot : ∀ e ∈ oj.after, Region.binds md e = true → e.on ≠ i := fun e he hb heq => by
    have g1 := hall e he hb
    have g0 := (mem_ready.1 hr).1
    rw [heq] at g1
    rcases Nat.lt_or_ge i L.size with h' | h'
    ·
     simp [h'] at g0 g1; rw [g0] at g1; cases g1
    ·
     simp [Array.getElem?_eq_none h'] at g1
   have h2 := wpOp_putIf hoj (hfree j oj hoj hji hjun hnot) (fun cs b => hsel i oi cs b hi) (fun cs b => hsel j oj cs b hoj) hQ hy h1
   have hfree' : ∀ k ok, ops[k]? = some ok → k ≠ i → (L.setIfInBounds j true).getD k true = false → (∀ e ∈ ok.after, Region.binds md e = true → e.on ≠ i) → oi.apart ops ok = true := fun k ok hk hki hun hno => by
    refine hfree k ok hk hki ?_ hno
    by_cases hjk : j = k
    ·
     subst hjk; exact hjun
    ·
     rw [getD_set_ne true hjk] at hun; exact hun
   -- the late one is not j, where it waits for i
   have hL' : (∀ w, S0 w → T w) ∨ (L.setIfInBounds j true).getD q true = false := by
    rcases hT with h | ⟨_, oq, hoq, e, he, hb, hei⟩
    ·
     exact .inl h
    ·
     rcases hL with h | h
     ·
      exact .inl h
     ·
      by_cases hjq : j = q
      ·
       subst hjq
       rw [hoj] at hoq
       injection hoq with hoq
       subst hoq
       exact absurd hei (hnot e he hb)
      ·
       exact .inr (by rw [getD_set_ne true hjq]; exact h)
   refine wpOp_mono (fun a' w' h3 => ?_) h2
   obtain ⟨hy', ⟨t0, t1⟩, hrest⟩ := h3
   have hS' : S0 w' ∧ ((L.setIfInBounds j true).getD q true = false → S1 w') := ⟨t0, fun hq => by
    by_cases hjq : j = q
    ·
     subst hjq
     rcases Nat.lt_or_ge j L.size with h' | h'
     ·
      simp [h'] at hq
     ·
      simp at hq
    ·
     rw [getD_set_ne true hjq] at hq
     exact t1 hjq (by rw [getD_set_ne true hiq]; exact hq)⟩
   refine ⟨⟨t0, fun hjq hq => ?_⟩, ih (L.setIfInBounds j true) a' w' hL' hfree' (ready_mono hr (Ne.symm hji)) hy' hS' ?_⟩
   ·
    exact hS'.2 (by rw [getD_set_ne true hjq]; exact hq)
   ·
    rw [Array.setIfInBounds_comm _ _ hji]
    exact hrest
theorem wp_region_late {id : Nat} {a : Act} {w : World} (S0 S1 : World → Prop) (q : Nat) (hm : P.follows .mixedOrders = true) (h0 : S0 w.drew) (h1 : S1 w.drew)
  (h : S0 w.drew → S1 w.drew → anyL P .any ops Q S0 S1 q ops.size (Array.replicate ops.size false) a w.drew) : (Code.region id ops true).wp P Q a w :=
 wp_region_any hm (anyL_plain _ _ _ _ (h h0 h1))
end
section
variable {P : Program} {l : List Oper} {Q : Exit → Act → World → Prop} {md : Region.Mode} {S0 S1 : World → Prop} {q fuel i : Nat} {oi : Oper} {v : Value} {listed : Array Bool} {a : Act} {w : World}
def waits (md : Region.Mode) (l : List Oper) (q i : Nat) : Bool := match nthO q l with
 | none => false
 | some o => o.after.any fun e => Region.binds md e && e.on == i
theorem early_op (hi : nthO i l = some oi) (hs : Region.noSelect l.toArray = true) (hf : Region.free md l.toArray listed i = true) (hr : (Region.ready md l.toArray listed).contains i = true) (hiq : (i == q) = false) (hq : waits md l q i = true) (hl : listed.getD q true = false)
  (hQ : ∀ c a w, Q (.panic c) (a.put oi.dst v) w → Q (.panic c) a w) (hw : Region.wanted oi (yielded l.toArray a.tmps) = true) (hy : ∀ w, S0 w → S1 w → (execOp a.eval oi).run P w = .ok (.value v) w) (h0 : S0 w) (h1 : S1 w)
  (h : anyL P md l.toArray Q S0 S1 q fuel (listed.setIfInBounds i true) (a.put oi.dst v) w) : anyL P md l.toArray Q S0 S1 q (fuel + 1) listed a w := by
 refine anyL_first (T := fun w => S0 w ∧ S1 w) (by rw [nthO_eq]; exact hi) (Region.noSelect_spec hs) hQ (by simpa using hiq) (.inr ⟨fun w a b => ⟨a, b⟩, ?_⟩) fuel listed a w (.inr hl) (Region.free_spec (by rw [nthO_eq]; exact hi) hf) (by simpa using hr) (.inl ⟨hw, fun w hh => hy w hh.1 hh.2⟩) ⟨h0, fun _ => h1⟩ h
 unfold waits at hq
 cases ho : nthO q l with
 | none => rw [ho] at hq; cases hq
 | some o =>
  rw [ho] at hq
  simp only [Array.any_eq_true, Bool.and_eq_true, beq_iff_eq] at hq
  obtain ⟨j, hj, h2, h3⟩ := hq
  exact ⟨o, by rw [nthO_eq]; exact ho, _, Array.getElem_mem hj, h2, h3⟩
theorem only_op (hi : nthO i l = some oi) (hr : Region.ready md l.toArray listed = [i])
  (h : ∀ K' : Act → World → Prop, Shut (∀ a w, S0 w → S1 w → (S0 w → S1 w → anyL P md l.toArray Q S0 S1 q fuel (listed.setIfInBounds i true) a w) → K' a w) → if Region.wanted oi (yielded l.toArray a.tmps) = true then Oper.wp P oi a w K' Q else K' (a.put oi.dst undef) w) :
  anyL P md l.toArray Q S0 S1 q (fuel + 1) listed a w := by
 refine ⟨fun h0 => (by rw [hr] at h0; cases h0), fun j hj => ?_⟩
 rw [hr] at hj
 obtain rfl := List.mem_singleton.1 hj
 exact wpOp_step (by rw [nthO_eq]; exact hi) (fun K' hK => h K' (fun a w h0 h1 hW => hK a w ⟨⟨h0, fun _ _ => h1⟩, hW h0 h1⟩))
theorem late_op (hi : nthO i l = some oi) (hr : Region.ready md l.toArray listed = [i]) (hiq : (i == q) = true)
  (h : ∀ K' : Act → World → Prop, Shut (∀ a w, S0 w → (S0 w → anyL P md l.toArray Q S0 S1 q fuel (listed.setIfInBounds i true) a w) → K' a w) → if Region.wanted oi (yielded l.toArray a.tmps) = true then Oper.wp P oi a w K' Q else K' (a.put oi.dst undef) w) :
  anyL P md l.toArray Q S0 S1 q (fuel + 1) listed a w := by
 refine ⟨fun h0 => (by rw [hr] at h0; cases h0), fun j hj => ?_⟩
 rw [hr] at hj
 obtain rfl := List.mem_singleton.1 hj
 exact wpOp_step (by rw [nthO_eq]; exact hi) (fun K' hK => h K' (fun a w h0 hW => hK a w ⟨⟨h0, fun hn => absurd (by simpa using hiq) hn⟩, hW h0⟩))
theorem anyL_done {l : Array Oper} {listed : Array Bool} {a : Act} {w : World} (hr : Region.ready md l listed = []) (h : Q .normal a w) : ∀ fuel, anyL P md l Q S0 S1 q fuel listed a w
 | 0 => ⟨hr, h⟩
 | _ + 1 => ⟨fun _ => h, by rw [hr]; simp⟩
end
end Go.Proofs.Ytojcdmgcbgpdmaa.Reg

set_option linter.unusedSimpArgs false
namespace Go.Proofs.Ytojcdmgcbgpdmaa.L6
open L4 (K isK cmpK R inR encU)
open L5 (F isR isN cellsF encR eqR Small)
open Go.ChangeShapes Go.WideShapes Go.ChangeAt Go.RowKit Mem Sl Ex L2 Sv Bag

set_option maxHeartbeats 2000000 in
theorem l6Item_any (kd n : Int) (s : ByteArray) (a : Option Addr) (c : Nat) (l : List F) (hl : l.length ≤ 1048576) (w : World) (hr : Reads w w.heap.size a (cellsF l)) :
  Calls Try.prog 123 #[.agg #[.int .i64 kd, .int .i64 n, .string s, .slice a l.length c]] w (GaveI w ⟨⟨kd, n, s⟩, l⟩) := by
 have HC := Lib.hid (fun w' (h : Below w.heap.size w w') => L5.l5Copy_any a c l (by have := hl; omega) w' ((hr.below h).more h.size))
 obtain ⟨N, hN⟩ : ∃ n, n = l.length := ⟨_, rfl⟩
 rw [← hN] at HC ⊢
 have HN := Lib.hid hN
 clear hN hr hl
 have S1 := Lib.hid (show Sl.Sep w _ [_, _] from L4.push_box (L4.push_box (Sl.Sep.start w) 40 #[.int .i64 kd, .int .i64 n, .string s, .slice a N c] (w.heap.size) (by simp)) 40 #[.int .i64 0, .int .i64 0, .string ⟨#[]⟩, .slice none 0 0] (w.heap.size + 1) (by simp))
 obtain ⟨wa, hwa⟩ : ∃ u, u = ((w.alloc (.cells #[.int .i64 kd, .int .i64 n, .string s, .slice a N c] 40)).alloc (.cells #[.int .i64 0, .int .i64 0, .string ⟨#[]⟩, .slice none 0 0] 40)) := ⟨_, rfl⟩
 rw [← hwa] at S1
 go_enter Try.func123, Try.ntmps123
 go_upto_region 1 with fail
 rw [← hwa]
 clear hwa
 go_upto_region 1 with fail
 refine wp_region_held_drew (S := (fun w' => (w'.cell? ⟨w.heap.size, 0, none⟩ = some (.int .i64 kd) ∧ w'.cell? ⟨w.heap.size, 1, none⟩ = some (.int .i64 n) ∧ w'.cell? ⟨w.heap.size, 2, none⟩ = some (.string s) ∧ w'.cell? ⟨w.heap.size, 3, none⟩ = some (.slice a N c)))) (by kernel_rfl) (Bag.cs4 (Bag.drew1 S1.out) 0 rfl) (fun hS => ?_)
 have S2 := Lib.hid (Bag.drew1 S1.out)
 clear S1
 generalize World.drew _ = w1 at hS S2 ⊢
 refine tk 0 rfl ?_
 try simp only [zp0, zp1, zp2, zp3, zp4]
 refine tk 1 rfl ?_
 try simp only [zp0, zp1, zp2, zp3, zp4]
 refine tk 2 rfl ?_
 try simp only [zp0, zp1, zp2, zp3, zp4]
 refine tk 3 rfl ?_
 try simp only [zp0, zp1, zp2, zp3, zp4]
 refine Reg.one_op (i := 4) rfl (by kernel_rfl) (fun K hK => ?_)
 go_simp
 go_at_call 89
 refine (HC.out _ S2.out.old).mono ?_
 rintro e w2 ⟨a1, c1, rfl, ho, hb⟩
 have S3 := Lib.hid (show Sl.Sep w _ [_, _, Sv.ownV 128 2 a1 c1 N (cellsF l)] from Sv.push_own S2.out hb ho)
 clear S2
 clear hb ho
 go_wp2_with fail
 refine hK.out _ _ (Bag.cs4 S3.out 0 rfl) (fun hS => ?_)
 clear hK K
 try simp only [zp0, zp1, zp2, zp3, zp4]
 refine tk 5 rfl ?_
 try simp only [zp0, zp1, zp2, zp3, zp4]
 refine Reg.one_op (i := 6) rfl (by kernel_rfl) (fun K hK => ?_)
 obtain ⟨f0, f1, f2, f3⟩ := Bag.cs4 S3.out 1 rfl
 obtain ⟨z0, z1, z2, z3⟩ := Bag.fs4 S3.out 1 rfl
 go_simp
 clear f0 f1 f2 f3 z0 z1 z2 z3
 have S4 := Lib.hid (show Sl.Sep w _ [_, L4.boxR (w.heap.size + 1) 40 #[.int .i64 kd, .int .i64 n, .string s, .slice a1 N c1], _] from L5.put_box5 (L5.put_box5 (L5.put_box5 (L5.put_box5 (S3.out) 1 rfl 0 (.int .i64 kd)) 1 rfl 1 (.int .i64 n)) 1 rfl 2 (.string s)) 1 rfl 3 (.slice a1 N c1))
 clear S3
 refine hK.out _ _ (Bag.cs4 S4.out 0 rfl) (fun hS => ?_)
 clear hK K
 try simp only [zp0, zp1, zp2, zp3, zp4]
 refine wpAnyH_done (by kernel_rfl) ?_ _
 obtain ⟨f0, f1, f2, f3⟩ := Bag.cs4 S4.out 0 rfl
 obtain ⟨f4, f5, f6, f7⟩ := Bag.cs4 S4.out 1 rfl
 go_wp2_with fail
 refine bodyPost_ret (v := .agg #[.int .i64 kd, .int .i64 n, .string s, .slice a1 N c1]) (by simp [results, Try.results123, go_sem, *]) rfl ?_
 have hb := Bag.bag_from (Bag.bag_of_one S4.out 2 (r := (LI.mk ⟨kd, n, s⟩ a1 c1 l).row) (by show some _ = some _; rw [HN.out]; rfl)) 2 rfl
 exact ⟨a1, c1, by rw [HN.out], hb, S4.out.old⟩
theorem infoItem : (Try.prog.info? 40).map (fun i => (i.zero, i.size, i.bytes)) = some (some (.agg #[.int .i64 0, .int .i64 0, .string ⟨#[]⟩, .slice none 0 0]), 4, 56) := by kernel_rfl
theorem itemInfo : ∃ i, Try.prog.info? 40 = some i ∧ i.zero = some (.agg #[.int .i64 0, .int .i64 0, .string ⟨#[]⟩, .slice none 0 0]) ∧ i.size = 4 ∧ i.bytes = 56 := by
 have h := infoItem
 rw [Option.map_eq_some_iff] at h
 obtain ⟨i, h1, h2⟩ := h
 simp only [Prod.mk.injEq] at h2
 exact ⟨i, h1, h2⟩
theorem readsI_at {w : World} {B : Nat} {ad : Addr} {xs : List LI} (h : Reads w B (some ad) (cellsI xs)) (j : Nat) (x : LI) (hx : xs[j]? = some x) :
  w.cell? (ad.add (j * 4)) = some (.int .i64 x.k.kind) ∧ w.cell? ⟨(ad.add (j * 4)).block, (ad.add (j * 4)).off + 1, none⟩ = some (.int .i64 x.k.n) ∧ w.cell? ⟨(ad.add (j * 4)).block, (ad.add (j * 4)).off + 2, none⟩ = some (.string x.k.text) ∧ w.cell? ⟨(ad.add (j * 4)).block, (ad.add (j * 4)).off + 3, none⟩ = some (.slice x.a x.l.length x.c) := by
 obtain ⟨hj, rfl⟩ := List.getElem?_eq_some_iff.1 hx
 obtain ⟨ad', e, _, h1⟩ := readsI h j hj
 injection e with e
 subst e
 exact h1
theorem readsI_some {w : World} {B : Nat} {a : Option Addr} {xs : List LI} (h : Reads w B a (cellsI xs)) (j : Nat) (hj : j < xs.length) : ∃ ad x, a = some ad ∧ xs[j]? = some x := by
 obtain ⟨ad, e, _⟩ := readsI h j hj
 exact ⟨ad, _, e, List.getElem?_eq_getElem hj⟩
theorem conI_take {xs : List LI} {j : Nat} {x : LI} (hx : xs[j]? = some x) : (conI xs).take (j + 1) = (conI xs).take j ++ [x.con] := by
 obtain ⟨hj, rfl⟩ := List.getElem?_eq_some_iff.1 hx
 rw [List.take_succ_eq_append_getElem (by simpa using hj), conI_get _ _ hj]
theorem rowsI_mem {xs : List LI} {j : Nat} {x : LI} (hx : xs[j]? = some x) : x.row ∈ rowsI xs := by
 obtain ⟨hj, rfl⟩ := List.getElem?_eq_some_iff.1 hx
 exact rowsI_at xs j hj
theorem fit_at {xs : List LI} {j : Nat} {x : LI} (h : ∀ y ∈ conI xs, FitI y) (hx : xs[j]? = some x) : FitI x.con := by
 obtain ⟨hj, rfl⟩ := List.getElem?_eq_some_iff.1 hx
 exact h _ (List.mem_map.2 ⟨_, List.getElem_mem hj, rfl⟩)
set_option maxHeartbeats 4000000 in
theorem l6Copy_any (y : LS) (hf : FitS y.con) (w : World) (hr : RowsRd w w.heap.size y.rows) :
  Calls Try.prog 87 #[y.v] w (GaveS w y.con) := by
 obtain ⟨i0, hi1, hi2, hi3, hi4⟩ := itemInfo
 have HI := Lib.hid (And.intro hi1 (And.intro hi2 (And.intro hi3 hi4)))
 clear hi1 hi2 hi3 hi4
 obtain ⟨name, a, c, xs, auto⟩ := y
 have HR := Lib.hid (fun w' (h : Below w.heap.size w w') => LS.outer (hr.below h))
 have HX := Lib.hid (fun w' (h : Below w.heap.size w w') => (LS.inner (hr.below h)).more h.size)
 have HF := Lib.hid hf.items
 have hl := hf.len
 simp only [LS.con, conI_length] at hl
 unfold LS.v LS.cells LS.con
 dsimp only at HR HX HF hl ⊢
 obtain ⟨N, hN⟩ : ∃ n, n = xs.length := ⟨_, rfl⟩
 rw [← hN] at hl ⊢
 have hl' : (N : Int) ≤ 1048576 := by omega
 have HN := Lib.hid hN
 clear hN hr hf
 have S1 := Lib.hid (show Sl.Sep w _ [_, _] from L4.push_box (L4.push_box (Sl.Sep.start w) 26 #[.string name, .slice a N c, .int .i64 auto] (w.heap.size) (by simp)) 26 #[.string ⟨#[]⟩, .slice none 0 0, .int .i64 0] (w.heap.size + 1) (by simp))
 obtain ⟨wa, hwa⟩ : ∃ u, u = ((w.alloc (.cells #[.string name, .slice a N c, .int .i64 auto] 26)).alloc (.cells #[.string ⟨#[]⟩, .slice none 0 0, .int .i64 0] 26)) := ⟨_, rfl⟩
 rw [← hwa] at S1
 go_enter Try.func87, Try.ntmps87
 go_upto_region 1 with fail
 rw [← hwa]
 clear hwa
 obtain ⟨f0, f1, f2⟩ := Bag.cs3 S1.out 0 rfl
 obtain ⟨f3, f4, f5⟩ := Bag.cs3 S1.out 1 rfl
 go_upto_region 2 with fail
 clear f0 f1 f2 f3 f4 f5
 have S2 := Lib.hid (show Sl.Sep w _ [_, _, _] from L4.push_box S1.out 26 #[.string name, .slice none 0 0, .int .i64 auto] wa.heap.size rfl)
 clear S1
 obtain ⟨g1, hg⟩ : ∃ g', g' = wa.heap.size := ⟨_, rfl⟩
 rw [← hg] at S2 ⊢
 clear hg
 generalize wa.alloc (.cells #[.string name, .slice none 0 0, .int .i64 auto] 26) = w1 at S2 ⊢
 have S3 := Lib.hid (show Sl.Sep w _ [_, _, L4.boxR g1 26 #[.string name, .slice none 0 0, .int .i64 auto], Sv.ownV 40 4 none 0 0 (cellsI [])] from Sv.push_own S2.out (Below.refl _ _) (OwnV.nil _ _ _ _))
 clear S2
 have S4 := Lib.hid (show Sl.Sep w _ [_, _, _, _, Bag.bag (rowsI [])] from Bag.push_bag S3.out (Below.refl _ _) (Bag.BagOwn.nil _ _))
 clear S3
 go_wp2_with fail
 go_loopw [4] (fun i wr => ∃ (k : Nat) (A : Option Addr) (C : Nat) (ys : List LI), k ≤ N ∧ i = .int .i64 k ∧ Hid (conI ys = (conI xs).take k ∧ Sl.Sep w wr [L4.boxR w.heap.size 26 #[.string name, .slice a N c, .int .i64 auto], L4.boxR (w.heap.size + 1) 26 #[.string ⟨#[]⟩, .slice none 0 0, .int .i64 0], L4.boxR g1 26 #[.string name, .slice A k C, .int .i64 auto], Sv.ownV 40 4 A C k (cellsI ys), Bag.bag (rowsI ys)])) (fun i _ => N - (intOf i).toNat)
 case atStart => exact ⟨0, none, 0, [], Nat.zero_le _, rfl, rfl, S4.out⟩
 case round =>
  obtain ⟨k, A, C, ys, hk, rfl, hrel⟩ := hrel
  have HC := Lib.hid hrel.out.1
  have S5 := Lib.hid hrel.out.2
  clear hrel S4
  by_cases hlt : (k : Int) < (N : Int)
  ·
   skip
   have hkl : k < xs.length := by have := HN.out; omega
   obtain ⟨ad, x, rfl, hx⟩ := readsI_some (HR.out _ S5.out.old) k hkl
   obtain ⟨⟨kd, n, t⟩, ia, ic, l⟩ := x
   have HK := Lib.hid (fun w' (h : Below w.heap.size w w') => readsI_at (HR.out _ h) k _ hx)
   try dsimp only at HK
   have HCI := Lib.hid (fun w' (h : Below w.heap.size w w') => l6Item_any kd n t ia ic l (fit_at HF.out hx).len w' (((HX.out _ h).at_ (rowsI_mem hx)).reads))
   try dsimp only at HCI
   have HT := Lib.hid (conI_take hx)
   clear hx
   obtain ⟨f0, f1, f2⟩ := Bag.cs3 S5.out 0 rfl
   obtain ⟨f3, f4, f5⟩ := Bag.cs3 S5.out 1 rfl
   obtain ⟨f6, f7, f8⟩ := Bag.cs3 S5.out 2 rfl
   obtain ⟨f9, f10, f11, f12⟩ := HK.out _ S5.out.old
   go_upto_region 5 with fail
   clear f0 f1 f2 f3 f4 f5 f6 f7 f8 f9 f10 f11 f12
   refine Reg.wp_region_late (fun w' => (w'.cell? ⟨w.heap.size, 0, none⟩ = some (.string name) ∧ w'.cell? ⟨w.heap.size, 1, none⟩ = some (.slice (some ad) N c) ∧ w'.cell? ⟨w.heap.size, 2, none⟩ = some (.int .i64 auto)) ∧ (w'.cell? (ad.add (k * 4)) = some (.int .i64 kd) ∧ w'.cell? (⟨(ad.add (k * 4)).block, (ad.add (k * 4)).off + 1, none⟩) = some (.int .i64 n) ∧ w'.cell? (⟨(ad.add (k * 4)).block, (ad.add (k * 4)).off + 2, none⟩) = some (.string t) ∧ w'.cell? (⟨(ad.add (k * 4)).block, (ad.add (k * 4)).off + 3, none⟩) = some (.slice ia l.length ic))) (fun w' => (w'.cell? ⟨g1, 0, none⟩ = some (.string name) ∧ w'.cell? ⟨g1, 1, none⟩ = some (.slice A k C) ∧ w'.cell? ⟨g1, 2, none⟩ = some (.int .i64 auto))) 11 (by kernel_rfl) ⟨Bag.cs3 (Bag.drew1 S5.out) 0 rfl, HK.out _ (Bag.drew1 S5.out).old⟩ (Bag.cs3 (Bag.drew1 S5.out) 2 rfl) (fun hS hL => ?_)
   have S6 := Lib.hid (Bag.drew1 S5.out)
   clear S5
   generalize World.drew _ = w2 at hS hL S6 ⊢
   refine Reg.early_op (i := 0) (v := ?_) rfl (by kernel_rfl) (by kernel_rfl) (by kernel_rfl) rfl (by kernel_rfl) (by kernel_rfl) (fun _ _ _ h => h) (by rfl) ?_ hS hL ?_
   rotate_left
   ·
    (intro w hSw hSv; (try dsimp only at hSw); (try dsimp only at hSv); go_simp; try with_reducible rfl)
   try simp only [zp0, zp1, zp2, zp3, zp4]
   refine Reg.early_op (i := 1) (v := ?_) rfl (by kernel_rfl) (by kernel_rfl) (by kernel_rfl) rfl (by kernel_rfl) (by kernel_rfl) (fun _ _ _ h => h) (by rfl) ?_ hS hL ?_
   rotate_left
   ·
    (intro w hSw hSv; (try dsimp only at hSw); (try dsimp only at hSv); go_simp; try with_reducible rfl)
   try simp only [zp0, zp1, zp2, zp3, zp4]
   refine Reg.early_op (i := 2) (v := ?_) rfl (by kernel_rfl) (by kernel_rfl) (by kernel_rfl) rfl (by kernel_rfl) (by kernel_rfl) (fun _ _ _ h => h) (by rfl) ?_ hS hL ?_
   rotate_left
   ·
    (intro w hSw hSv; (try dsimp only at hSw); (try dsimp only at hSv); go_simp; try with_reducible rfl)
   try simp only [zp0, zp1, zp2, zp3, zp4]
   refine Reg.early_op (i := 3) (v := ?_) rfl (by kernel_rfl) (by kernel_rfl) (by kernel_rfl) rfl (by kernel_rfl) (by kernel_rfl) (fun _ _ _ h => h) (by rfl) ?_ hS hL ?_
   rotate_left
   ·
    (intro w hSw hSv; (try dsimp only at hSw); (try dsimp only at hSv); go_simp; try with_reducible rfl)
   try simp only [zp0, zp1, zp2, zp3, zp4]
   refine Reg.early_op (i := 4) (v := ?_) rfl (by kernel_rfl) (by kernel_rfl) (by kernel_rfl) rfl (by kernel_rfl) (by kernel_rfl) (fun _ _ _ h => h) (by rfl) ?_ hS hL ?_
   rotate_left
   ·
    (intro w hSw hSv; (try dsimp only at hSw); (try dsimp only at hSv); go_simp; try with_reducible rfl)
   try simp only [zp0, zp1, zp2, zp3, zp4]
   refine Reg.early_op (i := 5) (v := ?_) rfl (by kernel_rfl) (by kernel_rfl) (by kernel_rfl) rfl (by kernel_rfl) (by kernel_rfl) (fun _ _ _ h => h) (by rfl) ?_ hS hL ?_
   rotate_left
   ·
    (intro w hSw hSv; (try dsimp only at hSw); (try dsimp only at hSv); go_simp; try with_reducible rfl)
   try simp only [zp0, zp1, zp2, zp3, zp4]
   refine Reg.early_op (i := 6) (v := ?_) rfl (by kernel_rfl) (by kernel_rfl) (by kernel_rfl) rfl (by kernel_rfl) (by kernel_rfl) (fun _ _ _ h => h) (by rfl) ?_ hS hL ?_
   rotate_left
   ·
    (intro w hSw hSv; (try dsimp only at hSw); (try dsimp only at hSv); go_simp; try with_reducible rfl)
   try simp only [zp0, zp1, zp2, zp3, zp4]
   refine Reg.only_op (i := 7) rfl (by kernel_rfl) (fun K hK => ?_)
   go_simp
   go_at_call 123
   refine (HCI.out _ S6.out.old).mono ?_
   rintro e w3 ⟨a1, c1, rfl, ho, hb⟩
   have S7 := Lib.hid (show Sl.Sep w _ [_, _, _, _, _, Bag.bag ([(LI.mk ⟨kd, n, t⟩ a1 c1 l).row])] from Bag.push_bag S6.out hb ho)
   clear S6
   clear hb ho
   go_wp2_with fail
   clear hL
   refine hK.out _ _ ⟨Bag.cs3 S7.out 0 rfl, HK.out _ S7.out.old⟩ (Bag.cs3 S7.out 2 rfl) (fun hS hL => ?_)
   clear hK K
   try simp only [zp0, zp1, zp2, zp3, zp4]
   refine Reg.only_op (i := 8) rfl (by kernel_rfl) (fun K hK => ?_)
   go_simp
   have S8 := Lib.hid (show Sl.Sep w _ [_, _, _, _, _, _, Sv.ownV 40 4 (some ⟨w3.heap.size, 0, none⟩) 1 1 (cellsI [⟨⟨kd, n, t⟩, a1, c1, l⟩])] from Sv.push_own S7.out ((Below.refl _ _).alloc (Nat.le_refl _) _) (OwnV.madeAt w3 40 4 1 w3.heap.size #[.int .i64 kd, .int .i64 n, .string t, .slice a1 l.length c1] rfl (Nat.le_refl _) rfl (by decide)))
   clear S7
   obtain ⟨g2, hg⟩ : ∃ g', g' = w3.heap.size := ⟨_, rfl⟩
   rw [← hg] at S8 ⊢
   clear hg
   generalize w3.alloc (.cells #[.int .i64 kd, .int .i64 n, .string t, .slice a1 l.length c1] 40) = w4 at S8 ⊢
   clear hL
   refine hK.out _ _ ⟨Bag.cs3 S8.out 0 rfl, HK.out _ S8.out.old⟩ (Bag.cs3 S8.out 2 rfl) (fun hS hL => ?_)
   clear hK K
   try simp only [zp0, zp1, zp2, zp3, zp4]
   refine Reg.only_op (i := 9) rfl (by kernel_rfl) (fun K hK => ?_)
   refine Sv.step_append_s S8.out 3 rfl rfl _ _ 24 (by rfl) i0 (.agg #[.int .i64 0, .int .i64 0, .string ⟨#[]⟩, .slice none 0 0]) 56 Try.underlying24 HI.out.1 HI.out.2.1 HI.out.2.2.1 HI.out.2.2.2 rfl (by omega) _ (by rfl) rfl _ _ 1 _ _ (cellsI [⟨⟨kd, n, t⟩, a1, c1, l⟩]) (by rfl) rfl ((Sv.own_at S8.out 6 rfl).reads) rfl (cellsI_one _) (by unfold maxLen; omega) (by omega) ?_
   intro a3' c3' w5 hA
   have S9 := Lib.hid (show Sl.Sep w _ [_, _, _, Sv.ownV 40 4 a3' c3' (k + 1) (cellsI ys ++ (cellsI [⟨⟨kd, n, t⟩, a1, c1, l⟩])), _, _, Sv.ownV 40 4 (some ⟨g2, 0, none⟩) 1 1 (cellsI [⟨⟨kd, n, t⟩, a1, c1, l⟩])] from hA)
   clear S8
   clear hA
   clear hL
   refine hK.out _ _ ⟨Bag.cs3 S9.out 0 rfl, HK.out _ S9.out.old⟩ (Bag.cs3 S9.out 2 rfl) (fun hS hL => ?_)
   clear hK K
   try simp only [zp0, zp1, zp2, zp3, zp4]
   refine Reg.early_op (i := 10) (v := ?_) rfl (by kernel_rfl) (by kernel_rfl) (by kernel_rfl) rfl (by kernel_rfl) (by kernel_rfl) (fun _ _ _ h => h) (by rfl) ?_ hS hL ?_
   rotate_left
   ·
    (intro w hSw hSv; (try dsimp only at hSw); (try dsimp only at hSv); go_simp; try with_reducible rfl)
   try simp only [zp0, zp1, zp2, zp3, zp4]
   refine Reg.late_op (i := 11) rfl (by kernel_rfl) rfl (fun K hK => ?_)
   obtain ⟨f0, f1, f2⟩ := Bag.cs3 S9.out 2 rfl
   obtain ⟨z0, z1, z2⟩ := Bag.fs3 S9.out 2 rfl
   go_simp
   clear f0 f1 f2 z0 z1 z2
   have S10 := Lib.hid (show Sl.Sep w _ [_, _, L4.boxR g1 26 #[.string name, .slice a3' (k + 1) c3', .int .i64 auto], _, _, _, _] from L5.put_box5 (S9.out) 2 rfl 1 (.slice a3' (k + 1) c3'))
   clear S9
   refine hK.out _ _ ⟨Bag.cs3 S10.out 0 rfl, HK.out _ S10.out.old⟩ (fun hS => ?_)
   clear hL
   clear hK K
   try simp only [zp0, zp1, zp2, zp3, zp4]
   refine Reg.anyL_done (by kernel_rfl) ?_ _
   obtain ⟨f0, f1, f2⟩ := Bag.cs3 S10.out 0 rfl
   obtain ⟨f3, f4, f5⟩ := Bag.cs3 S10.out 1 rfl
   obtain ⟨f6, f7, f8⟩ := Bag.cs3 S10.out 2 rfl
   obtain ⟨f9, f10, f11, f12⟩ := HK.out _ S10.out.old
   clear f0 f1 f2 f3 f4 f5 f6 f7 f8 f9 f10 f11 f12
   have S11 := Lib.hid (show Sl.Sep w _ [_, _, _, _, Bag.bag (rowsI ys ++ ([(LI.mk ⟨kd, n, t⟩ a1 c1 l).row])), Bag.bag ([]), _] from Bag.bag_join S10.out 4 5 (by decide) rfl rfl)
   clear S10
   have S12 := Lib.hid (show Sl.Sep w _ [_, _, _, _, _] from Bag.take S11.out [0, 1, 2, 3, 4] (by rfl) (by decide))
   clear S11
   obtain ⟨f0, f1, f2⟩ := Bag.cs3 S12.out 0 rfl
   obtain ⟨f3, f4, f5⟩ := Bag.cs3 S12.out 1 rfl
   obtain ⟨f6, f7, f8⟩ := Bag.cs3 S12.out 2 rfl
   obtain ⟨f9, f10, f11, f12⟩ := HK.out _ S12.out.old
   go_wp2_with fail
   go_roundw
   case rel =>
    refine ⟨k + 1, a3', c3', ys ++ [⟨⟨kd, n, t⟩, a1, c1, l⟩], by omega, by go_num, And.intro ?_ ?_⟩
    ·
     rw [HT.out, ← HC.out]; exact List.map_append
    ·
     rw [cellsI_append, rowsI_append]; exact S12.out
   case measure => simp [intOf]; omega
  ·
   skip
   obtain ⟨f0, f1, f2⟩ := Bag.cs3 S5.out 0 rfl
   obtain ⟨f3, f4, f5⟩ := Bag.cs3 S5.out 1 rfl
   obtain ⟨f6, f7, f8⟩ := Bag.cs3 S5.out 2 rfl
   obtain ⟨z0, z1, z2⟩ := Bag.fs3 S5.out 1 rfl
   go_wp2_with fail
   clear f0 f1 f2 f3 f4 f5 f6 f7 f8 z0 z1 z2
   have S6 := Lib.hid (show Sl.Sep w _ [L4.boxR w.heap.size 26 #[.string name, .slice a N c, .int .i64 auto], L4.boxR (w.heap.size + 1) 26 #[.string name, .slice A k C, .int .i64 auto], L4.boxR g1 26 #[.string name, .slice A k C, .int .i64 auto], Sv.ownV 40 4 A C k (cellsI ys), Bag.bag (rowsI ys)] from L5.put_box5 (L5.put_box5 (L5.put_box5 (S5.out) 1 rfl 0 (.string name)) 1 rfl 1 (.slice A k C)) 1 rfl 2 (.int .i64 auto))
   clear S5
   obtain ⟨f0, f1, f2⟩ := Bag.cs3 S6.out 1 rfl
   obtain rfl : k = N := by omega
   refine bodyPost_ret (v := .agg #[.string name, .slice A k C, .int .i64 auto]) (by simp [results, Try.results87, go_sem, *]) rfl ?_
   have hlen : k = ys.length := by have h1 := congrArg List.length HC.out; have := HN.out; simp at h1; omega
   have hcon : conI ys = conI xs := by rw [HC.out, List.take_of_length_le (by have := HN.out; simp; omega)]
   subst hlen
   have S90 := Lib.hid (Bag.bag_of_one S6.out 3 (r := rowI A C ys) rfl)
   have S91 := Lib.hid (Bag.bag_join S90.out 3 4 (by decide) rfl rfl)
   exact ⟨⟨name, A, C, ys, auto⟩, rfl, by unfold LS.con; rw [hcon], Bag.bag_from S91.out 3 rfl, S91.out.old⟩
end Go.Proofs.Ytojcdmgcbgpdmaa.L6

namespace Go.Proofs.Ytojcdmgcbgpdmaa.L5
open Go.ChangeShapes Go.WideShapes Go.ChangeAt Go.RowKit Mem Sl Ex L2

def Wide (f : F) : Prop := f.name.size ≤ maxLen ∧ (-9223372036854775808 ≤ f.n ∧ f.n ≤ 9223372036854775807)
theorem list_of {P : Nat → F → Prop} : ∀ (n : Nat), (∀ i, i < n → ∃ f, P i f) → ∃ l : List F, l.length = n ∧ ∀ i (hi : i < l.length), P i l[i]
 | 0, _ => ⟨[], rfl, fun i hi => absurd hi (by simp)⟩
 | n + 1, h => by
  obtain ⟨l, hl, hp⟩ := list_of n (fun i hi => h i (by omega))
  obtain ⟨f, hf⟩ := h n (by omega)
  refine ⟨l ++ [f], by simp [hl], fun i hi => ?_⟩
  by_cases hlt : i < l.length
  ·
   rw [List.getElem_append_left hlt]; exact hp i hlt
  ·
   have e : i = n := by simp at hi; omega
   subst e
   rw [List.getElem_append_right (by omega)]
   simpa using hf
section
variable {H : Type} {enc : TypeId × Value → H} {W : World} {b : Nat} {sp : Nat → Bool} {hd : Bool}
theorem trod_field {fuel : Nat} {cs : List Value} {x : DataW H × List MemPlace} (h : DataW.trod enc Try.prog W b sp hd fuel 200 cs = some x) :
  ∃ f : F, cs = f.cells ∧ Wide f := by
 obtain ⟨xs, n, _, _, hl, hlen, hf⟩ := DataW.trod_struct Try.underlying200 h
 have hl2 : cs.length = 2 := hl.trans (by kernel_rfl)
 match cs, hl2 with
 | [c0, c1], _ =>
  have h0 : DataW.trod enc Try.prog W b sp hd n 9 (List.take (Try.prog.cellsOf 9) (List.drop 0 [c0, c1])) = xs[0]? := hf 0 _ rfl
  have h1 : DataW.trod enc Try.prog W b sp hd n 3 (List.take (Try.prog.cellsOf 3) (List.drop 1 [c0, c1])) = xs[1]? := hf 1 _ rfl
  rw [show (Try.prog.cellsOf 3) = 1 by kernel_rfl] at h1
  rw [show (Try.prog.cellsOf 9) = 1 by kernel_rfl] at h0
  rw [List.getElem?_eq_getElem (by rw [hlen]; decide)] at h0 h1
  obtain ⟨s, e0, _, w0⟩ := DataW.trod_string Try.underlying9 h0
  obtain ⟨m, e1, _, w1⟩ := DataW.trod_int Try.underlying3 h1
  simp at e0 e1
  subst e0; subst e1
  exact ⟨⟨s, m⟩, rfl, w0, Law.wf_i64 w1⟩
theorem trod_fields {fuel : Nat} {cs : List Value} {x : DataW H × List MemPlace} (h : DataW.trod enc Try.prog W b sp hd fuel 59 cs = some x) (hlt : ∀ p ∈ x.2, p.block < W.heap.size) :
  ∃ (a : Option Addr) (l : List F) (c : Nat), cs = [.slice a l.length c] ∧ Reads W W.heap.size a (cellsF l) ∧ (∀ f ∈ l, Wide f) ∧ l.length ≤ maxLen := by
 rcases DataW.trod_slice Try.underlying59 h with ⟨rfl, _⟩ | ⟨a, len, cap, elems, rest, n, _, rfl, rfl, _, hll0, hmm0, hlen, hel, _, _⟩
 ·
  exact ⟨none, [], 0, rfl, Reads.nil, (fun f hf => by cases hf), Nat.zero_le _⟩
 ·
  have e2 : (Try.prog.cellsOf 200) = 2 := by kernel_rfl
  rw [e2] at hel hlt
  obtain ⟨l, hll, hp⟩ := list_of (P := fun i f => W.cell? (a.add (i * 2)) = some (.string f.name) ∧ W.cell? (a.add (i * 2 + 1)) = some (.int .i64 f.n) ∧ Wide f) len (fun i hi => by
   have h1 := hel i hi
   rw [List.getElem?_eq_getElem (by omega), Option.bind_eq_some_iff] at h1
   obtain ⟨cs, hc, ht⟩ := h1
   obtain ⟨f, rfl, hw⟩ := trod_field ht
   obtain ⟨_, _, h3⟩ := World.cells?_some hc
   have q0 := h3 0 (by omega)
   have q1 := h3 1 (by omega)
   rw [add_add] at q0 q1
   exact ⟨f, q0, q1, hw⟩)
  subst hll
  refine ⟨some a, l, cap, rfl, fun j hj => ?_, fun f hf => ?_, Nat.le_trans hll0 hmm0⟩
  ·
   rw [cellsF_length] at hj
   refine ⟨a, rfl, ?_, ?_⟩
   ·
    have := hlt (MemPlace.cell a.block (a.off + 0)) (List.mem_append_left _ (List.mem_map.2 ⟨0, List.mem_range.2 (by omega), rfl⟩))
    simpa [MemPlace.block] using this
   ·
    have hk : j / 2 < l.length := by omega
    obtain ⟨c0, c1⟩ := cellsF_at l (j / 2) hk
    obtain ⟨p0, p1, _⟩ := hp (j / 2) hk
    rcases (show j = j / 2 * 2 ∨ j = j / 2 * 2 + 1 by omega) with e | e
    ·
     have : (cellsF l)[j]? = some (.string l[j / 2].name) := by rw [← c0]; exact congrArg _ e
     rw [List.getElem?_eq_getElem (by rw [cellsF_length]; exact hj)] at this
     rw [Option.some.inj this, ← p0]
     exact congrArg (fun q => W.cell? (a.add q)) e
    ·
     have : (cellsF l)[j]? = some (.int .i64 l[j / 2].n) := by rw [← c1]; exact congrArg _ e
     rw [List.getElem?_eq_getElem (by rw [cellsF_length]; exact hj)] at this
     rw [Option.some.inj this, ← p1]
     exact congrArg (fun q => W.cell? (a.add q)) e
  ·
   obtain ⟨i, hi, rfl⟩ := List.getElem_of_mem hf
   exact (hp i hi).2.2
theorem open_record {b0 : Nat} {v : Value} {d : DataW H} {ps : List MemPlace} (hval : Value.okWide Try.prog W .any b0 61 v) (h0 : DataW.Trod enc Try.prog W b sp hd 61 v d ps) (hlt : ∀ p ∈ ps, p.block < W.heap.size) :
  ∃ (a : Option Addr) (l : List F) (c : Nat), v = .agg #[.slice a l.length c] ∧ Reads W W.heap.size a (cellsF l) ∧ (∀ f ∈ l, Wide f) ∧ l.length ≤ maxLen := by
 obtain ⟨cs, rfl, _⟩ := okWide_struct Try.underlying61 hval
 obtain ⟨fuel, hf0⟩ := h0
 obtain ⟨xs, n, _, hx, hl, hlen, hf⟩ := DataW.trod_struct Try.underlying61 hf0
 have hl1 : cs.toList.length = 1 := hl.trans (by kernel_rfl)
 obtain ⟨l⟩ := cs
 match l, hl1 with
 | [c0], _ =>
  have h0 : DataW.trod enc Try.prog W b sp hd n 59 (List.take (Try.prog.cellsOf 59) (List.drop 0 [c0])) = xs[0]? := hf 0 _ rfl
  rw [show (Try.prog.cellsOf 59) = 1 by kernel_rfl, List.getElem?_eq_getElem (by rw [hlen]; decide)] at h0
  simp only [Prod.mk.injEq] at hx
  obtain ⟨a, l, c, e, h1, h2⟩ := trod_fields h0 (fun p hp => hlt p (by rw [hx.2]; exact List.mem_flatMap.2 ⟨_, List.getElem_mem _, hp⟩))
  simp at e
  subst e
  exact ⟨a, l, c, rfl, h1, h2⟩
end
end Go.Proofs.Ytojcdmgcbgpdmaa.L5

namespace Go.Proofs.Ytojcdmgcbgpdmaa.L6
open L4 (K isK cmpK R inR encU)
open L5 (F isR isN cellsF encR eqR Small Wide cellsF_length cellsF_at)
open Go.ChangeShapes Go.WideShapes Go.ChangeAt Go.RowKit Mem Sl Ex L2 Sv Bag

structure WideI (x : It) : Prop where
 text : x.k.text.size ≤ maxLen
 kind : -9223372036854775808 ≤ x.k.kind ∧ x.k.kind ≤ 9223372036854775807
 n : -9223372036854775808 ≤ x.k.n ∧ x.k.n ≤ 9223372036854775807
 len : x.l.length ≤ maxLen
 fields : ∀ f ∈ x.l, Wide f
structure WideS (s : S6) : Prop where
 name : s.name.size ≤ maxLen
 auto : -9223372036854775808 ≤ s.auto ∧ s.auto ≤ 9223372036854775807
 len : s.items.length ≤ maxLen
 items : ∀ x ∈ s.items, WideI x
theorem list_of {α : Type} {P : Nat → α → Prop} : ∀ (n : Nat), (∀ i, i < n → ∃ f, P i f) → ∃ l : List α, l.length = n ∧ ∀ i (hi : i < l.length), P i l[i]
 | 0, _ => ⟨[], rfl, fun i hi => absurd hi (by simp)⟩
 | n + 1, h => by
  obtain ⟨l, hl, hp⟩ := list_of n (fun i hi => h i (by omega))
  obtain ⟨f, hf⟩ := h n (by omega)
  refine ⟨l ++ [f], by simp [hl], fun i hi => ?_⟩
  by_cases hlt : i < l.length
  ·
   rw [List.getElem_append_left hlt]; exact hp i hlt
  ·
   have e : i = n := by simp at hi; omega
   subst e
   rw [List.getElem_append_right (by omega)]
   simpa using hf
section
variable {H : Type} {enc : TypeId × Value → H} {W : World} {b : Nat} {sp : Nat → Bool} {hd : Bool}
theorem trod_fields2 {fuel : Nat} {cs : List Value} {x : DataW H × List MemPlace} (h : DataW.trod enc Try.prog W b sp hd fuel 59 cs = some x) (hlt : ∀ p ∈ x.2, p.block < W.heap.size) :
  ∃ (a : Option Addr) (l : List F) (c : Nat), cs = [.slice a l.length c] ∧ Reads W W.heap.size a (cellsF l) ∧ (∀ f ∈ l, Wide f) ∧ l.length ≤ maxLen ∧ l.length ≤ c ∧ (a = none → c = 0) := by
 obtain ⟨a, l, c, e, h1, h2, h3⟩ := L5.trod_fields h hlt
 refine ⟨a, l, c, e, h1, h2, h3, ?_⟩
 rcases DataW.trod_slice Try.underlying59 h with ⟨rfl, _⟩ | ⟨ad, len, cap, elems, rest, n, _, rfl, _, _, hll0, _⟩
 ·
  injection e with e _
  injection e with e1 e2 e3
  subst e3
  exact ⟨by omega, fun _ => rfl⟩
 ·
  injection e with e _
  injection e with e1 e2 e3
  subst e1
  subst e2
  subst e3
  exact ⟨hll0, fun h => (by cases h)⟩
theorem trod_item {fuel : Nat} {cs : List Value} {x : DataW H × List MemPlace} (h : DataW.trod enc Try.prog W b sp hd fuel 198 cs = some x) (hlt : ∀ p ∈ x.2, p.block < W.heap.size) :
  ∃ z : LI, cs = z.cells ∧ z.row.Rd W W.heap.size ∧ WideI z.con := by
 obtain ⟨xs, n, _, hx, hl, hlen, hf⟩ := DataW.trod_struct Try.underlying198 h
 have hl4 : cs.length = 4 := hl.trans (by kernel_rfl)
 match cs, hl4 with
 | [c0, c1, c2, c3], _ =>
  have h0 : DataW.trod enc Try.prog W b sp hd n 58 (List.take (Try.prog.cellsOf 58) (List.drop 0 [c0, c1, c2, c3])) = xs[0]? := hf 0 _ rfl
  have h1 : DataW.trod enc Try.prog W b sp hd n 61 (List.take (Try.prog.cellsOf 61) (List.drop 3 [c0, c1, c2, c3])) = xs[1]? := hf 1 _ rfl
  rw [show (Try.prog.cellsOf 58) = 3 by kernel_rfl] at h0
  rw [show (Try.prog.cellsOf 61) = 1 by kernel_rfl] at h1
  rw [List.getElem?_eq_getElem (by rw [hlen]; decide)] at h0 h1
  obtain ⟨k, e0, w0, w1, w2⟩ := L4.trod_key h0
  have hlt1 : ∀ p ∈ (xs[1]'(by rw [hlen]; decide)).2, p.block < W.heap.size := fun p hp => hlt p (by rw [hx]; exact List.mem_flatMap.2 ⟨_, List.getElem_mem _, hp⟩)
  obtain ⟨ys, n2, _, hy, hl2, hlen2, hf2⟩ := DataW.trod_struct Try.underlying61 h1
  have h2 : DataW.trod enc Try.prog W b sp hd n2 59 (List.take (Try.prog.cellsOf 59) (List.drop 0 (List.take 1 (List.drop 3 [c0, c1, c2, c3])))) = ys[0]? := hf2 0 _ rfl
  rw [show (Try.prog.cellsOf 59) = 1 by kernel_rfl, List.getElem?_eq_getElem (by rw [hlen2]; decide)] at h2
  obtain ⟨a, l, c, e, r1, r2, r3, r4, r5⟩ := trod_fields2 h2 (fun p hp => hlt1 p (by rw [hy]; exact List.mem_flatMap.2 ⟨_, List.getElem_mem _, hp⟩))
  simp [K.cells] at e0 e
  obtain ⟨rfl, rfl, rfl⟩ := e0
  subst e
  exact ⟨⟨k, a, c, l⟩, rfl, ⟨r1, r4, r5⟩, ⟨w0, w1, w2, r3, r2⟩⟩
theorem trod_items {fuel : Nat} {cs : List Value} {x : DataW H × List MemPlace} (h : DataW.trod enc Try.prog W b sp hd fuel 55 cs = some x) (hlt : ∀ p ∈ x.2, p.block < W.heap.size) :
  ∃ (a : Option Addr) (xs : List LI) (c : Nat), cs = [.slice a xs.length c] ∧ RowsRd W W.heap.size (rowI a c xs :: rowsI xs) ∧ (∀ z ∈ conI xs, WideI z) ∧ xs.length ≤ maxLen := by
 rcases DataW.trod_slice Try.underlying55 h with ⟨rfl, _⟩ | ⟨a, len, cap, elems, rest, n, _, rfl, rfl, hxx, hll0, hmm0, hlen, hel, _, _⟩
 ·
  refine ⟨none, [], 0, rfl, fun r hr => ?_, (fun f hf => by cases hf), Nat.zero_le _⟩
  rw [show (rowsI []) = [] from rfl, List.mem_singleton] at hr
  subst hr
  exact ⟨Reads.nil, Nat.le_refl _, fun _ => rfl⟩
 ·
  have e2 : (Try.prog.cellsOf 198) = 4 := by kernel_rfl
  rw [e2] at hel hlt
  obtain ⟨l, hll, hp⟩ := list_of (P := fun i z => (∀ q (hq : q < 4), W.cell? (a.add (i * 4 + q)) = some ((LI.cells z)[q]'hq)) ∧ z.row.Rd W W.heap.size ∧ WideI z.con) len (fun i hi => by
   have h1 := hel i hi
   rw [List.getElem?_eq_getElem (by omega), Option.bind_eq_some_iff] at h1
   obtain ⟨cs, hc, ht⟩ := h1
   obtain ⟨z, rfl, hw, hw2⟩ := trod_item ht (fun p hp => hlt p (List.mem_append_right _ (List.mem_flatMap.2 ⟨_, List.mem_append_left _ (List.getElem_mem (show i < elems.length by omega)), hp⟩)))
   obtain ⟨_, _, h3⟩ := World.cells?_some hc
   refine ⟨z, fun q hq => ?_, hw, hw2⟩
   have q0 := h3 q hq
   rw [add_add] at q0
   exact q0.trans (List.getElem?_eq_getElem _))
  subst hll
  have hrd : Reads W W.heap.size (some a) (cellsI l) := fun j hj => by
   rw [cellsI_length] at hj
   refine ⟨a, rfl, ?_, ?_⟩
   ·
    have := hlt (MemPlace.cell a.block (a.off + 0)) (List.mem_append_left _ (List.mem_map.2 ⟨0, List.mem_range.2 (by omega), rfl⟩))
    simpa [MemPlace.block] using this
   ·
    have hk : j / 4 < l.length := by omega
    have hq : j % 4 < 4 := Nat.mod_lt _ (by omega)
    have h1 := (hp (j / 4) hk).1 (j % 4) hq
    have e : j / 4 * 4 + j % 4 = j := by omega
    obtain ⟨c0, c1, c2, c3⟩ := cellsI_at l (j / 4) hk
    have h4 : (cellsI l)[j / 4 * 4 + j % 4]? = some ((LI.cells l[j / 4])[j % 4]'hq) := by
     generalize j % 4 = q at hq
     rcases (show q = 0 ∨ q = 1 ∨ q = 2 ∨ q = 3 by omega) with rfl | rfl | rfl | rfl
     ·
      exact c0
     ·
      exact c1
     ·
      exact c2
     ·
      exact c3
    rw [e] at h1 h4
    exact h1.trans (h4.symm.trans (List.getElem?_eq_getElem _))
  refine ⟨some a, l, cap, rfl, fun r hr => ?_, fun z hz => ?_, Nat.le_trans hll0 hmm0⟩
  ·
   rcases List.mem_cons.1 hr with rfl | hr
   ·
    exact ⟨hrd, hll0, fun h => (by cases h)⟩
   ·
    obtain ⟨z, hz, rfl⟩ := List.mem_map.1 hr
    obtain ⟨i, hi, rfl⟩ := List.getElem_of_mem hz
    exact (hp i hi).2.1
  ·
   obtain ⟨y, hy, rfl⟩ := List.mem_map.1 hz
   obtain ⟨i, hi, rfl⟩ := List.getElem_of_mem hy
   exact (hp i hi).2.2
theorem open_store {b0 : Nat} {v : Value} {d : DataW H} {ps : List MemPlace} (hval : Value.okWide Try.prog W .any b0 57 v) (h0 : DataW.Trod enc Try.prog W b sp hd 57 v d ps) (hlt : ∀ p ∈ ps, p.block < W.heap.size) :
  ∃ y : LS, v = y.v ∧ RowsRd W W.heap.size y.rows ∧ WideS y.con := by
 obtain ⟨cs, rfl, _⟩ := okWide_struct Try.underlying57 hval
 obtain ⟨fuel, hf0⟩ := h0
 obtain ⟨xs, n, _, hx, hl, hlen, hf⟩ := DataW.trod_struct Try.underlying57 hf0
 have hl1 : cs.toList.length = 3 := hl.trans (by kernel_rfl)
 obtain ⟨l⟩ := cs
 match l, hl1 with
 | [c0, c1, c2], _ =>
  have h0 : DataW.trod enc Try.prog W b sp hd n 9 (List.take (Try.prog.cellsOf 9) (List.drop 0 [c0, c1, c2])) = xs[0]? := hf 0 _ rfl
  have h1 : DataW.trod enc Try.prog W b sp hd n 55 (List.take (Try.prog.cellsOf 55) (List.drop 1 [c0, c1, c2])) = xs[1]? := hf 1 _ rfl
  have h2 : DataW.trod enc Try.prog W b sp hd n 3 (List.take (Try.prog.cellsOf 3) (List.drop 2 [c0, c1, c2])) = xs[2]? := hf 2 _ rfl
  rw [show (Try.prog.cellsOf 9) = 1 by kernel_rfl] at h0
  rw [show (Try.prog.cellsOf 55) = 1 by kernel_rfl] at h1
  rw [show (Try.prog.cellsOf 3) = 1 by kernel_rfl] at h2
  rw [List.getElem?_eq_getElem (by rw [hlen]; decide)] at h0 h1 h2
  simp only [Prod.mk.injEq] at hx
  obtain ⟨s, e0, _, w0⟩ := DataW.trod_string Try.underlying9 h0
  obtain ⟨m, e2, _, w2⟩ := DataW.trod_int Try.underlying3 h2
  obtain ⟨a, l, c, e1, r1, r2, r3⟩ := trod_items h1 (fun p hp => hlt p (by rw [hx.2]; exact List.mem_flatMap.2 ⟨_, List.getElem_mem _, hp⟩))
  simp at e0 e1 e2
  subst e0; subst e1; subst e2
  exact ⟨⟨s, a, c, l, m⟩, rfl, r1, ⟨w0, Law.wf_i64 w2, by show (conI l).length ≤ _; rw [conI_length]; exact r3, r2⟩⟩
end
end Go.Proofs.Ytojcdmgcbgpdmaa.L6

namespace Go.Proofs.Ytojcdmgcbgpdmaa.L1
open Go.ChangeShapes Go.WideShapes Go.ChangeAt Go.RowKit

def FmtRel (n : Int) (s x : Value) (w w' : World) : Prop :=
 ∃ (y : Int) (l : List UInt8), x = .int .i64 y ∧ s = .string ⟨l.toArray⟩ ∧ digs y.natAbs ++ l = digs n.natAbs ∧ (0 ≤ n → 0 ≤ y) ∧ (n ≤ 0 → y ≤ 0) ∧ -9223372036854775808 ≤ y ∧ y ≤ 9223372036854775807 ∧ Below w.heap.size w w'

theorem tmod10_nat (y : Int) : (y.tmod 10).natAbs = y.natAbs % 10 := by
 rw [Int.natAbs_tmod]; rfl
theorem tdiv10_nat (y : Int) : (y.tdiv 10).natAbs = y.natAbs / 10 := by
 rw [Int.natAbs_tdiv]; rfl
theorem conv_one (w : World) (y d : Int) (h0 : 0 ≤ d) (h : d.natAbs = y.natAbs % 10) :
  (convert 22 9 (.slice (some ⟨w.heap.size, 0, none⟩) 1 1)).run Try.prog (w.alloc (.cells #[.int .u8 (48 + d)] 5)) = .ok (.string ⟨[UInt8.ofNat (48 + y.natAbs % 10)].toArray⟩) (w.alloc (.cells #[.int .u8 (48 + d)] 5)) :=
 run_convert_bytes_back (P := Try.prog) _ 22 9 5 ⟨w.heap.size, 0, none⟩ 1 [UInt8.ofNat (48 + y.natAbs % 10)] Try.underlying22 Try.underlying5 Try.underlying9 (fun j hj => by
  obtain rfl : j = 0 := by simp at hj; omega
  simp [go_sem]
  omega)

theorem fmt_next (n y : Int) (l : List UInt8) (w w' : World) (hy : y ≠ 0) (hd : digs y.natAbs ++ l = digs n.natAbs) (h : (0 ≤ n → 0 ≤ y) ∧ (n ≤ 0 → y ≤ 0)) (hy0 : -9223372036854775808 ≤ y) (hy1 : y ≤ 9223372036854775807) (hb : Below w.heap.size w w') :
  FmtRel n (.string (⟨#[48 + UInt8.ofNat (y.natAbs % 10)]⟩ ++ ⟨l.toArray⟩)) (.int .i64 (y.tdiv 10)) w w' ∧ (intOf (.int .i64 (y.tdiv 10))).natAbs < (intOf (.int .i64 y)).natAbs := by
 have hq := tdiv10_nat y
 have hs : 0 ≤ y → 0 ≤ y.tdiv 10 := fun h => Int.tdiv_nonneg h (by decide)
 have hs' : y ≤ 0 → y.tdiv 10 ≤ 0 := fun h => by
  have := Int.tdiv_nonneg (a := -y) (b := 10) (by omega) (by decide)
  rw [Int.neg_tdiv] at this
  omega
 refine ⟨⟨y.tdiv 10, (48 + UInt8.ofNat (y.natAbs % 10)) :: l, rfl, rfl, ?_, fun a => hs (h.1 a), fun a => hs' (h.2 a), by omega, by omega, hb⟩, by simp only [intOf]; omega⟩
 rw [hq, ← hd, digs_step (u := y.natAbs) (by omega), List.append_assoc, UInt8.ofNat_add]
 rfl


end Go.Proofs.Ytojcdmgcbgpdmaa.L1

namespace Go.Proofs.Ytojcdmgcbgpdmaa.L5
open L4 (boxR push_box box_at)
open Go.ChangeShapes Go.WideShapes Go.ChangeAt Go.RowKit Mem Sl Ex L2 Sv

def zF : F := ⟨⟨#[]⟩, 0⟩
theorem made_fields (n : Nat) : (madeCells #[.string ⟨#[]⟩, .int .i64 0] (n * 2)).toList = cellsF (List.replicate n zF) := by
 refine List.ext_getElem (by simp [size_madeCells]) fun j h1 h2 => ?_
 rw [cellsF_length, List.length_replicate] at h2
 obtain ⟨c0, c1⟩ := cellsF_at (List.replicate n zF) (j / 2) (by simp; omega)
 simp only [List.getElem_replicate] at c0 c1
 rw [Array.getElem_toList]
 simp only [madeCells, Array.getElem_map, Array.getElem_range]
 rcases (show j = j / 2 * 2 ∨ j = j / 2 * 2 + 1 by omega) with e | e
 ·
  have h3 : (cellsF (List.replicate n zF))[j]? = some (.string zF.name) := by rw [← c0]; exact congrArg _ e
  rw [List.getElem?_eq_getElem (by rw [cellsF_length, List.length_replicate]; exact h2)] at h3
  rw [Option.some.inj h3]
  show (#[Value.string ⟨#[]⟩, .int .i64 0])[j % 2]! = _
  rw [show j % 2 = 0 by omega]; rfl
 ·
  have h3 : (cellsF (List.replicate n zF))[j]? = some (.int .i64 zF.n) := by rw [← c1]; exact congrArg _ e
  rw [List.getElem?_eq_getElem (by rw [cellsF_length, List.length_replicate]; exact h2)] at h3
  rw [Option.some.inj h3]
  show (#[Value.string ⟨#[]⟩, .int .i64 0])[j % 2]! = _
  rw [show j % 2 = 1 by omega]; rfl
theorem cellsF_set2 : ∀ (l : List F) (j : Nat) (t : ByteArray) (x : Int), ((cellsF l).set (j * 2) (.string t)).set (j * 2 + 1) (.int .i64 x) = cellsF (l.set j ⟨t, x⟩)
 | [], j, t, x => rfl
 | f :: l, 0, t, x => rfl
 | f :: l, j + 1, t, x => by
  rw [List.set_cons_succ, cellsF_cons, cellsF_cons, ← cellsF_set2 l j t x, show (j + 1) * 2 = j * 2 + 1 + 1 by omega]
  rfl
theorem own_setF {w : World} {B g c n : Nat} {e : TypeId} {l : List F} (h : OwnV w B e 2 (some ⟨g, 0, none⟩) c n (cellsF l)) (j : Nat) (hj : j < l.length) (t : ByteArray) (x : Int) :
  OwnV ((w.setCell ⟨g, j * 2, none⟩ (.string t)).setCell ⟨g, j * 2 + 1, none⟩ (.int .i64 x)) B e 2 (some ⟨g, 0, none⟩) c n (cellsF (l.set j ⟨t, x⟩)) := by
 have := (h.set (j * 2) (by rw [cellsF_length]; omega) (.string t)).set (j * 2 + 1) (by rw [List.length_set, cellsF_length]; omega) (.int .i64 x)
 rwa [cellsF_set2] at this
theorem own_cellF {w : World} {B g c n : Nat} {e : TypeId} {l : List F} (h : OwnV w B e 2 (some ⟨g, 0, none⟩) c n (cellsF l)) (j : Nat) (hj : j < l.length) :
  w.cell? ⟨g, j * 2, none⟩ = some (.string l[j].name) ∧ w.cell? ⟨g, j * 2 + 1, none⟩ = some (.int .i64 l[j].n) := by
 obtain ⟨c0, c1⟩ := cellsF_at l j hj
 have h0 := h.cell (j * 2) (by rw [cellsF_length]; omega)
 have h1 := h.cell (j * 2 + 1) (by rw [cellsF_length]; omega)
 refine ⟨by rw [h0, ← c0, List.getElem?_eq_getElem], by rw [h1, ← c1, List.getElem?_eq_getElem]⟩

theorem toField_any (f : F) (w : World) :
  Calls Try.prog 182 #[.agg #[.string f.name, .int .i64 f.n]] w fun e w' => e = .returned (.agg #[.string f.name, .int .i64 f.n]) ∧ Below w.heap.size w w' := by
 obtain ⟨t, n⟩ := f
 go_enter Try.func182, Try.ntmps182
 go_wp2
 refine bodyPost_ret (v := .agg #[.string t, .int .i64 n]) (by simp [results, Try.results182, go_sem]) rfl ?_
 exact ⟨rfl, below_alloc (below_alloc (below_alloc (Below.refl _ _) _ (Nat.le_refl _)) _ (Nat.le_refl _)) _ (Nat.le_refl _)⟩
theorem below_own {B : Nat} {w w' : World} {g j : Nat} {v : Value} (h : Below B w w') (hg : B ≤ g) : Below B w (w'.setCell ⟨g, j, none⟩ v) := h.setCell (p := ⟨g, j, none⟩) hg v
set_option maxHeartbeats 2000000 in
theorem toFieldS_any (a : Option Addr) (c : Nat) (l : List F) (hl : l.length ≤ 1099511627776) (w : World) (hr : Reads w w.heap.size a (cellsF l)) :
  Calls Try.prog 117 #[.slice a l.length c] w fun e w' => ∃ a' c', e = .returned (.slice a' l.length c') ∧ OwnV w' w.heap.size 128 2 a' c' l.length (cellsF l) ∧ Below w.heap.size w w' := by
 obtain ⟨i0, hi, hz0, hz1, hz2⟩ := fieldInfo
 have HR := Lib.hid (fun w' (h : Below w.heap.size w w') => hr.below h)
 obtain ⟨n, hn⟩ : ∃ n, n = l.length := ⟨_, rfl⟩
 rw [← hn] at hl ⊢
 have HN := Lib.hid hn
 have hl' : (n : Int) ≤ 1099511627776 := by omega
 clear hn hr
 go_enter Try.func117, Try.ntmps117
 go_wp2_with (at_make; refine wpList_make_full _ rfl _ _ 29 rfl w.heap.size 128 i0 (.agg #[.string ⟨#[]⟩, .int .i64 0]) 2 Try.underlying29 hi hz0 hz1 _ _ _ _ n rfl rfl rfl rfl (by rw [hz2]; omega) (by unfold maxLen; omega) (Nat.le_refl _) ?_; intro w1 hown hgrow)
 rw [show (Value.agg #[.string ⟨#[]⟩, .int .i64 0]).cells = #[.string ⟨#[]⟩, .int .i64 0] from rfl, made_fields] at hown
 have hB := (Below.refl w.heap.size w).grown hgrow (Nat.le_refl _) (by simp)
 clear hgrow hi hz0 hz1 hz2
 have H0 := Lib.hid (And.intro (show OwnV w1 w.heap.size 128 2 (some ⟨w.heap.size, 0, none⟩) n n (cellsF (List.replicate n zF)) from hown) hB)
 clear hown hB
 go_loopw [4] (fun i wr => ∃ k : Nat, k ≤ n ∧ i = .int .i64 k ∧ Hid (OwnV wr w.heap.size 128 2 (some ⟨w.heap.size, 0, none⟩) n n (cellsF (l.take k ++ List.replicate (n - k) zF)) ∧ Below w.heap.size w wr)) (fun i _ => n - (intOf i).toNat)
 case atStart => exact ⟨0, Nat.zero_le _, rfl, by simpa using H0.out.1, H0.out.2⟩
 case round =>
  obtain ⟨k, hk, rfl, hrel⟩ := hrel
  by_cases hlt : (k : Int) < (n : Int)
  ·
   have hkl : k < l.length := by have := HN.out; omega
   obtain ⟨ad, rfl, had, h1, h2⟩ := readsF (HR.out _ hrel.out.2) k hkl
   obtain ⟨t, ht⟩ : ∃ t, t = l[k].name := ⟨_, rfl⟩
   obtain ⟨x, hx⟩ : ∃ m, m = l[k].n := ⟨_, rfl⟩
   have HF := Lib.hid (show l[k] = ⟨t, x⟩ by rw [ht, hx])
   rw [← ht] at h1
   rw [← hx] at h2
   clear ht hx
   go_wp2_with (go_at_call 182; refine (toField_any ⟨t, x⟩ _).mono ?_; rintro e w2 ⟨rfl, hb⟩; have HO := Lib.hid (hrel.out.1.below hb); have HBb := Lib.hid (hrel.out.2.trans (hb.mono hrel.out.2.size)); clear hb h1 h2; have hlen := Lib.hid (show (l.take k ++ List.replicate (n - k) zF).length = n by have := HN.out; simp; omega); obtain ⟨c0, c1⟩ := own_cellF HO.out k (by rw [hlen.out]; omega); have f0 := HO.out.free (k * 2); have f1 := HO.out.free (k * 2 + 1))
   have HS := Lib.hid (own_setF HO.out k (by rw [hlen.out]; omega) t x)
   have HB2 := Lib.hid (below_own (j := k * 2 + 1) (v := .int .i64 x) (below_own (j := k * 2) (v := .string t) HBb.out (Nat.le_refl _)) (Nat.le_refl _))
   clear c0 c1 f0 f1
   go_roundw
   case rel =>
    refine ⟨k + 1, by omega, by go_num, And.intro ?_ ?_⟩
    ·
     have h1 := HS.out
     have e1 : (l.take k ++ List.replicate (n - k) zF).set k ⟨t, x⟩ = l.take (k + 1) ++ List.replicate (n - (k + 1)) zF := by
      rw [replicate_cons _ _ _ (by omega), set_step _ _ _ _ _ (by have := HN.out; simp; omega), List.take_succ_eq_append_getElem hkl, HF.out]
     rw [e1] at h1
     exact h1
    ·
     exact HB2.out
   case measure => simp [intOf]; omega
  ·
   go_wp2_with fail
   go_ret
   obtain rfl : k = n := by omega
   have h1 := hrel.out.1
   rw [show l.take k = l by rw [HN.out, List.take_length], Nat.sub_self, List.replicate_zero, List.append_nil] at h1
   exact ⟨_, _, rfl, h1, hrel.out.2⟩
set_option maxHeartbeats 1000000 in
theorem toRecord_any (a : Option Addr) (c : Nat) (l : List F) (hl : l.length ≤ 1099511627776) (w : World) (hr : Reads w w.heap.size a (cellsF l)) :
  Calls Try.prog 39 #[.agg #[.slice a l.length c]] w fun e w' => ∃ a' c', e = .returned (.agg #[.slice a' l.length c']) ∧ OwnV w' w.heap.size 128 2 a' c' l.length (cellsF l) ∧ Below w.heap.size w w' := by
 have HT := Lib.hid (fun w' (h : Below w.heap.size w w') => toFieldS_any a c l hl w' ((hr.below h).more h.size))
 obtain ⟨n, hn⟩ : ∃ n, n = l.length := ⟨_, rfl⟩
 rw [← hn] at HT ⊢
 clear hn hr hl
 have S0 := Sep.start w
 have S1 := push_box S0 61 #[.slice a n c] w.heap.size rfl
 have S2 := push_box S1 31 #[.slice none 0 0] (w.heap.size + 1) (by simp)
 have S3 := Lib.hid (push_box S2 31 #[.slice none 0 0] (w.heap.size + 1 + 1) (by simp))
 clear S0 S1 S2
 obtain ⟨W1, hW1⟩ : ∃ u, u = ((w.alloc (.cells #[.slice a n c] 61)).alloc (.cells #[.slice none 0 0] 31)).alloc (.cells #[.slice none 0 0] 31) := ⟨_, rfl⟩
 rw [← hW1] at S3
 go_enter Try.func39, Try.ntmps39
 go_upto_region 2 with fail
 rw [← hW1]
 clear hW1
 obtain ⟨r0, r1⟩ := Row.one (box_at S3.out 0 rfl)
 go_wp2_with fail
 go_at_call 117
 refine (HT.out _ S3.out.old).mono ?_
 rintro e w2 ⟨a', c', rfl, ho, hb⟩
 have S4 := Lib.hid (push_own S3.out hb ho)
 clear ho hb r0 r1
 obtain ⟨x0, x1⟩ := Row.one (box_at S4.out 2 rfl)
 obtain ⟨z0, z1⟩ := Row.one (box_at S4.out 1 rfl)
 have S5 := Lib.hid (put_box5 (put_box5 S4.out 2 rfl 0 (.slice a' n c')) 1 rfl 0 (.slice a' n c'))
 go_wp2_with fail
 refine bodyPost_ret (v := .agg #[.slice a' n c']) (by simp [results, Try.results39, go_sem, z0]) rfl ?_
 exact ⟨a', c', rfl, own_from S5.out 3 rfl, S5.out.old⟩
theorem szField_any (f : F) (n : Int) (h : f.name.size ≤ maxLen) (hn0 : -1 ≤ n) (hn1 : n ≤ 1048576) (w : World) :
  Calls Try.prog 180 #[.agg #[.string f.name, .int .i64 f.n], .int .i64 n] w fun e w' => e = .returned (.int .i64 (L4.left n f.name)) ∧ Below w.heap.size w w' := by
 obtain ⟨s, m⟩ := f
 unfold L4.left
 have hs : (s.size : Int) ≤ 9223372036854775807 := by have : s.size ≤ maxLen := h; unfold maxLen at this; omega
 have HB := Lib.hid (fun o => below_alloc (Below.refl w.heap.size w) o (Nat.le_refl _))
 clear h
 by_cases hlt : n - (s.size : Int) < 0
 ·
  go_enter Try.func180, Try.ntmps180
  go_wp2
  go_ret
  exact ⟨rfl, HB.out _⟩
 ·
  go_enter Try.func180, Try.ntmps180
  go_wp2
  go_ret
  exact ⟨rfl, HB.out _⟩
def Roomy (l : List F) (n u : Int) : Prop := -1 ≤ u ∧ u ≤ 1048576 ∧ (0 ≤ u → (l.length : Int) ≤ n ∧ ∀ f ∈ l, (f.name.size : Int) ≤ 1048576)
set_option maxHeartbeats 2000000 in
theorem szFieldS_any (a : Option Addr) (c : Nat) (l : List F) (n : Int) (hw : ∀ f ∈ l, Wide f) (hm : l.length ≤ maxLen) (hn0 : -1 ≤ n) (hn1 : n ≤ 1048576) (w : World) (hr : Reads w w.heap.size a (cellsF l)) :
  Calls Try.prog 115 #[.slice a l.length c, .int .i64 n] w fun e w' => ∃ u, e = .returned (.int .i64 u) ∧ Roomy l n u ∧ Below w.heap.size w w' := by
 have HR := Lib.hid (fun w' (h : Below w.heap.size w w') => hr.below h)
 have HW := Lib.hid hw
 obtain ⟨q, hq⟩ : ∃ q, q = l.length := ⟨_, rfl⟩
 rw [← hq] at hm ⊢
 have HQ := Lib.hid hq
 clear hq hr hw
 have hm' : (q : Int) ≤ 9223372036854775807 := by unfold maxLen at hm; omega
 clear hm
 by_cases hneg : n - (q : Int) < 0
 ·
  go_enter Try.func115, Try.ntmps115
  go_wp2_with fail
  go_ret
  exact ⟨-1, rfl, ⟨by omega, by omega, fun h => absurd h (by omega)⟩, Below.refl _ _⟩
 ·
  go_enter Try.func115, Try.ntmps115
  go_wp2_with fail
  go_loopw [1, 5] (fun lv i wr => ∃ (k : Nat) (m : Int), k ≤ q ∧ i = .int .i64 k ∧ lv = .int .i64 m ∧ 0 ≤ m ∧ m ≤ 1048576 ∧ Hid ((∀ j (hj : j < l.length), j < k → (l[j].name.size : Int) ≤ 1048576) ∧ Below w.heap.size w wr)) (fun _ i _ => q - (intOf i).toNat)
  case atStart => exact ⟨0, n - q, Nat.zero_le _, rfl, rfl, by omega, by omega, fun j hj h => by omega, Below.refl _ _⟩
  case round =>
   obtain ⟨k, m, hk, rfl, rfl, hm0, hm1, hrel⟩ := hrel
   by_cases hlt : (k : Int) < (q : Int)
   ·
    have hkl : k < l.length := by have := HQ.out; omega
    obtain ⟨ad, rfl, had, h1, h2⟩ := readsF (HR.out _ hrel.out.2) k hkl
    have HC := Lib.hid (fun w' => szField_any l[k] m (HW.out _ (List.getElem_mem hkl)).1 (by omega) hm1 w')
    obtain ⟨t, ht⟩ : ∃ t, t = l[k].name := ⟨_, rfl⟩
    obtain ⟨x, hx⟩ : ∃ m, m = l[k].n := ⟨_, rfl⟩
    have HF := Lib.hid ht
    rw [← ht] at h1 HC
    rw [← hx] at h2 HC
    clear ht hx
    obtain ⟨m2, hm2⟩ : ∃ v, L4.left m t = v := ⟨_, rfl⟩
    rw [hm2] at HC
    have hb2 := L4.left_range m t hm1
    rw [hm2] at hb2
    have HM := Lib.hid hm2
    clear hm2
    go_wp2_with fail
    go_at_call 180
    refine (HC.out _).mono ?_
    rintro e w2 ⟨rfl, hb⟩
    have HB := Lib.hid (hrel.out.2.trans (hb.mono hrel.out.2.size))
    clear hb h1 h2 HC
    by_cases h0 : m2 < 0
    ·
     go_wp2_with fail
     go_ret
     exact ⟨-1, rfl, ⟨by omega, by omega, fun h => absurd h (by omega)⟩, HB.out⟩
    ·
     go_wp2_with fail
     go_roundw
     case rel => exact ⟨k + 1, m2, by omega, by go_num, rfl, by omega, hb2.2, fun j hj h => by
      by_cases e : j < k
      ·
       exact hrel.out.1 j hj e
      ·
       obtain rfl : j = k := by omega
       have h9 := L4.left_small (n := m) (s := t) (by rw [HM.out]; omega)
       rw [← HF.out]
       omega, HB.out⟩
     case measure => simp [intOf]; omega
   ·
    go_wp2_with fail
    go_ret
    refine ⟨m, rfl, ⟨by omega, hm1, fun _ => ⟨by rw [← HQ.out]; omega, fun f hf => ?_⟩⟩, hrel.out.2⟩
    obtain ⟨j, hj, rfl⟩ := List.getElem_of_mem hf
    exact hrel.out.1 j hj (by have := HQ.out; omega)
set_option maxHeartbeats 1000000 in
theorem szRecord_any (a : Option Addr) (c : Nat) (l : List F) (n : Int) (hw : ∀ f ∈ l, Wide f) (hm : l.length ≤ maxLen) (hn0 : -1 ≤ n) (hn1 : n ≤ 1048576) (w : World) (hr : Reads w w.heap.size a (cellsF l)) :
  Calls Try.prog 36 #[.agg #[.slice a l.length c], .int .i64 n] w fun e w' => ∃ u, e = .returned (.int .i64 u) ∧ Roomy l n u ∧ Below w.heap.size w w' := by
 have HC := Lib.hid (fun w' (h : Below w.heap.size w w') => szFieldS_any a c l n hw hm hn0 hn1 w' ((hr.below h).more h.size))
 obtain ⟨q, hq⟩ : ∃ q, q = l.length := ⟨_, rfl⟩
 rw [← hq] at HC ⊢
 clear hq hr hw hm
 have S0 := Sep.start w
 have S1 := Lib.hid (push_box S0 61 #[.slice a q c] w.heap.size rfl)
 clear S0
 obtain ⟨W1, hW1⟩ : ∃ u, u = (w.alloc (.cells #[.slice a q c] 61)) := ⟨_, rfl⟩
 rw [← hW1] at S1
 go_enter Try.func36, Try.ntmps36
 go_upto_region 1 with fail
 rw [← hW1]
 clear hW1
 obtain ⟨r0, r1⟩ := Row.one (box_at S1.out 0 rfl)
 go_wp2_with fail
 go_at_call 115
 refine (HC.out _ S1.out.old).mono ?_
 rintro e w2 ⟨u, rfl, hu, hb⟩
 have HU := Lib.hid hu
 have S2 := Lib.hid (S1.out.keep hb)
 obtain ⟨hu1, hu2, -⟩ := hu
 clear hb r0 r1
 by_cases h0 : u < 0
 ·
  go_wp2_with fail
  go_ret
  exact ⟨-1, rfl, ⟨by omega, by omega, fun h => absurd h (by omega)⟩, S2.out.old⟩
 ·
  go_wp2_with fail
  go_ret
  exact ⟨u, rfl, HU.out, S2.out.old⟩
theorem eqField_any (f : F) (w : World) :
  Calls Try.prog 184 #[.agg #[.string f.name, .int .i64 f.n], .agg #[.string f.name, .int .i64 f.n]] w fun e w' => e = .returned (.bool true) ∧ Below w.heap.size w w' := by
 obtain ⟨t, n⟩ := f
 have HB := Lib.hid (fun o p => below_alloc (below_alloc (Below.refl w.heap.size w) o (Nat.le_refl _)) p (Nat.le_refl _))
 go_enter Try.func184, Try.ntmps184
 go_wp2
 go_ret
 exact ⟨rfl, HB.out _ _⟩
theorem below_drew {B : Nat} {w w1 w2 : World} (h : Below B w w1) (h2 : Below w1.drew.heap.size w1.drew w2) (hB : B ≤ w1.heap.size) : Below B w w2 := h.drew.trans (h2.mono hB)
set_option maxHeartbeats 2000000 in
theorem eqFieldS_any (a b : Option Addr) (c d : Nat) (l : List F) (hl : l.length ≤ 1099511627776) (w : World) (hr : Reads w w.heap.size a (cellsF l)) (hs : Reads w w.heap.size b (cellsF l)) :
  Calls Try.prog 119 #[.slice a l.length c, .slice b l.length d] w fun e w' => e = .returned (.bool true) ∧ Below w.heap.size w w' := by
 have HR := Lib.hid (fun w' (h : Below w.heap.size w w') => hr.below h)
 have HS := Lib.hid (fun w' (h : Below w.heap.size w w') => hs.below h)
 obtain ⟨n, hn⟩ : ∃ n, n = l.length := ⟨_, rfl⟩
 rw [← hn] at hl ⊢
 have HN := Lib.hid hn
 have hl' : (n : Int) ≤ 1099511627776 := by omega
 clear hn hr hs
 go_enter Try.func119, Try.ntmps119
 go_wp2_with fail
 go_loopw [5] (fun i wr => ∃ k : Nat, k ≤ n ∧ i = .int .i64 k ∧ Hid (Below w.heap.size w wr)) (fun i _ => n - (intOf i).toNat)
 case atStart => exact ⟨0, Nat.zero_le _, rfl, Below.refl _ _⟩
 case round =>
  obtain ⟨k, hk, rfl, hrel⟩ := hrel
  by_cases hlt : (k : Int) < (n : Int)
  ·
   have hkl : k < l.length := by have := HN.out; omega
   obtain ⟨ad, rfl, had, h1, h2⟩ := readsF (HR.out _ hrel.out) k hkl
   obtain ⟨bd, rfl, hbd, h3, h4⟩ := readsF (HS.out _ hrel.out) k hkl
   obtain ⟨t, ht⟩ : ∃ t, t = l[k].name := ⟨_, rfl⟩
   obtain ⟨x, hx⟩ : ∃ m, m = l[k].n := ⟨_, rfl⟩
   rw [← ht] at h1 h3
   rw [← hx] at h2 h4
   clear ht hx
   go_wp2_with fail
   have HK := Lib.hid (fun (w5 : World) (hd : Below wr.drew.heap.size wr.drew w5) => show w5.cell? (ad.add (k * 2)) = some (.string t) ∧ w5.cell? ⟨(ad.add (k * 2)).block, (ad.add (k * 2)).off + 1, none⟩ = some (.int .i64 x) ∧ w5.cell? (bd.add (k * 2)) = some (.string t) ∧ w5.cell? ⟨(bd.add (k * 2)).block, (bd.add (k * 2)).off + 1, none⟩ = some (.int .i64 x) from by
    have ha : (ad.add (k * 2)).block < wr.drew.heap.size := by rw [add_block]; exact Nat.lt_of_lt_of_le had hrel.out.size
    have hb : (bd.add (k * 2)).block < wr.drew.heap.size := by rw [add_block]; exact Nat.lt_of_lt_of_le hbd hrel.out.size
    exact ⟨(hd.cell ha).trans h1, (hd.cell (show (⟨(ad.add (k * 2)).block, (ad.add (k * 2)).off + 1, none⟩ : Addr).block < _ from ha)).trans h2, (hd.cell hb).trans h3, (hd.cell (show (⟨(bd.add (k * 2)).block, (bd.add (k * 2)).off + 1, none⟩ : Addr).block < _ from hb)).trans h4⟩)
   go_region_held3 (fun w' => w'.cell? (ad.add (k * 2)) = some (.string t) ∧ w'.cell? ⟨(ad.add (k * 2)).block, (ad.add (k * 2)).off + 1, none⟩ = some (.int .i64 x) ∧ w'.cell? (bd.add (k * 2)) = some (.string t) ∧ w'.cell? ⟨(bd.add (k * 2)).block, (bd.add (k * 2)).off + 1, none⟩ = some (.int .i64 x)) (first | exact ⟨h1, h2, h3, h4⟩ | exact HK.out _ (by assumption) | go_keep) ((go_at_call 184; refine (eqField_any ⟨t, x⟩ _).mono ?_; rintro e w5 ⟨rfl, hd⟩; have HB5 := Lib.hid (below_drew hrel.out hd hrel.out.size)))
   clear hd
   go_wp2_with fail
   go_roundw
   case rel => exact ⟨k + 1, by omega, by go_num, HB5.out⟩
   case measure => simp [intOf]; omega
  ·
   go_wp2_with fail
   go_ret
   exact ⟨rfl, hrel.out⟩
set_option maxHeartbeats 1000000 in
theorem eqRecord_any (a b : Option Addr) (c d : Nat) (l : List F) (hl : l.length ≤ 1099511627776) (w : World) (hr : Reads w w.heap.size a (cellsF l)) (hs : Reads w w.heap.size b (cellsF l)) :
  Calls Try.prog 41 #[.agg #[.slice a l.length c], .agg #[.slice b l.length d]] w fun e w' => e = .returned (.bool true) ∧ Below w.heap.size w w' := by
 have HE := Lib.hid (fun w' (h : Below w.heap.size w w') => eqFieldS_any a b c d l hl w' ((hr.below h).more h.size) ((hs.below h).more h.size))
 obtain ⟨n, hn⟩ : ∃ n, n = l.length := ⟨_, rfl⟩
 rw [← hn] at HE ⊢
 clear hn hr hs hl
 have S0 := Sep.start w
 have S1 := push_box S0 31 #[.slice a n c] w.heap.size rfl
 have S2 := Lib.hid (push_box S1 31 #[.slice b n d] (w.heap.size + 1) (by simp))
 clear S0 S1
 obtain ⟨W1, hW1⟩ : ∃ u, u = (w.alloc (.cells #[.slice a n c] 31)).alloc (.cells #[.slice b n d] 31) := ⟨_, rfl⟩
 rw [← hW1] at S2
 go_enter Try.func41, Try.ntmps41
 go_upto_region 1 with fail
 rw [← hW1]
 clear hW1
 obtain ⟨r0, r1⟩ := Row.one (box_at S2.out 0 rfl)
 obtain ⟨o0, o1⟩ := Row.one (box_at S2.out 1 rfl)
 go_wp2_with fail
 go_at_call 119
 refine (HE.out _ S2.out.old).mono ?_
 rintro e w3 ⟨rfl, h3⟩
 have S3 := Lib.hid (S2.out.keep h3)
 clear h3 r0 r1 o0 o1
 go_wp2_with fail
 go_ret
 exact ⟨rfl, S3.out.old⟩
def markT (k : Int) : ByteArray := ⟨(109 :: L1.digs k.natAbs).toArray⟩
def marksF (k : Int) (n : Nat) : List F := (List.range n).map fun (j : Nat) => ⟨markT (k + 2 * (j : Int)), k + 2 * (j : Int) + 1⟩
@[simp] theorem marksF_length (k : Int) (n : Nat) : (marksF k n).length = n := by simp [marksF]
theorem marksF_get (k : Int) (n j : Nat) (h : j < n) : (marksF k n)[j]'(by simpa using h) = ⟨markT (k + 2 * (j : Int)), k + 2 * (j : Int) + 1⟩ := by simp [marksF]
theorem marksF_next (k : Int) (j : Nat) : marksF k (j + 1) = marksF k j ++ [⟨markT (k + 2 * (j : Int)), k + 2 * (j : Int) + 1⟩] := by simp [marksF, List.range_succ]
set_option maxHeartbeats 1000000 in
theorem markText_any (k : Int) (h0 : 0 < k) (h1 : k ≤ 9223372036854775807) (w : World) :
  Calls Try.prog 129 #[.int .i64 k] w fun e w' => e = .returned (.string (markT k)) ∧ Below w.heap.size w w' := by
 have hlen : (L1.digs k.natAbs).length ≤ 20 := Nat.le_trans (L1.digs_length _) (Lib.nDigits_le20 _ (by omega))
 go_enter Try.func129, Try.ntmps129
 go_wp2
 go_loopw [0, 3] (fun x s wr => L1.FmtRel k s x w wr) (fun x _ _ => (intOf x).natAbs)
 case atStart => exact ⟨k, [], rfl, rfl, by simp, fun h => h, fun h => h, by omega, h1, Below.refl _ _⟩
 case round =>
  obtain ⟨y, l, rfl, rfl, hd, hp, hn, hy0, hy1, hb⟩ := hrel
  have hl : l.length ≤ 20 := by rw [← hd] at hlen; simp at hlen; omega
  have HD := Lib.hid hd
  have HP := Lib.hid (And.intro hp hn)
  have hyp : 0 ≤ y := hp (by omega)
  clear hd hp hn hlen
  by_cases hy : y = 0
  ·
   subst hy
   go_wp2
   go_ret
   refine ⟨?_, hb⟩
   have hd := HD.out
   unfold markT
   rw [← hd, show (Int.natAbs 0) = 0 from rfl, L1.digs_zero]
   rfl
  ·
   have hy2 : 0 < y := by omega
   have t1 := L1.tmod10_nat y
   have b0 : 0 ≤ y % 10 := by omega
   have b1 : y % 10 ≤ 9 := by omega
   have hcv := fun W : World => L1.conv_one W y (y % 10) (by omega) (by omega)
   have T1 := Lib.hid t1
   clear t1
   go_wp2
   have hfin := L1.fmt_next k y l w _ hy HD.out HP.out hy0 hy1 (hb.alloc (hb.size) (.cells #[.int .u8 (48 + y % 10)] 5))
   rw [Int.tdiv_eq_ediv_of_nonneg hyp] at hfin
   exact hfin
set_option maxHeartbeats 2000000 in
theorem markFieldS_any (a : Option Addr) (c : Nat) (l : List F) (k : Int) (w : World) (h : OwnV w 0 128 2 a c l.length (cellsF l)) (hl : l.length ≤ 1099511627776) (hk0 : 0 < k) (hk1 : k ≤ 4611686018427387904) :
  Calls Try.prog 121 #[.slice a l.length c, .int .i64 k] w fun e w' => e = .returned (.int .i64 (k + 2 * (l.length : Int))) ∧ OwnV w' 0 128 2 a c l.length (cellsF (marksF k l.length)) ∧ Turned (Value.slice a l.length c).ownBlock.toList w w' := by
 rcases h.form with ⟨rfl, hn0, -, rfl⟩ | ⟨g, rfl, -, hg, -, -⟩
 ·
  have el : l = [] := List.eq_nil_of_length_eq_zero hn0
  subst el
  have H := Lib.hid h
  clear h hn0
  go_enter Try.func121, Try.ntmps121
  go_wp2
  refine wp_loop_rounds 1 ?_
  rw [rounds_succ]
  go_wp2
  go_ret
  exact ⟨by simp, H.out, Turned.refl _ _⟩
 ·
  obtain ⟨n, hn⟩ : ∃ n, n = l.length := ⟨_, rfl⟩
  rw [← hn] at h hl ⊢
  have HN := Lib.hid hn
  have hl' : (n : Int) ≤ 1099511627776 := by omega
  have H := Lib.hid h
  clear h hn
  go_enter Try.func121, Try.ntmps121
  go_wp2_with fail
  go_loopw [1, 5] (fun v i wr => ∃ j : Nat, j ≤ n ∧ i = .int .i64 j ∧ v = .int .i64 (k + 2 * (j : Int)) ∧ Hid (OwnV wr 0 128 2 (some ⟨g, 0, none⟩) c n (cellsF (marksF k j ++ l.drop j)) ∧ Turned [g] w wr)) (fun _ i _ => n - (intOf i).toNat)
  case atStart => exact ⟨0, Nat.zero_le _, rfl, by simp, by simpa [marksF] using H.out, Turned.refl _ _⟩
  case round =>
   obtain ⟨j, hj, rfl, rfl, hrel⟩ := hrel
   by_cases hlt : (j : Int) < (n : Int)
   ·
    have hjl : j < l.length := by have := HN.out; omega
    have hlen := Lib.hid (show j < (marksF k j ++ l.drop j).length by simp; omega)
    go_wp2_with (go_at_call 129; refine (markText_any (k + 2 * (j : Int)) (by omega) (by omega) _).mono ?_; rintro e w2 ⟨rfl, hb⟩; have HO := Lib.hid (hrel.out.1.below hb); have HT := Lib.hid (hrel.out.2.trans (Turned.of_below hb)); clear hb; obtain ⟨c0, c1⟩ := own_cellF HO.out j hlen.out; have f0 := HO.out.free (j * 2); have f1 := HO.out.free (j * 2 + 1))
    have HS := Lib.hid (own_setF HO.out j hlen.out (markT (k + 2 * (j : Int))) (k + 2 * (j : Int) + 1))
    have HT2 := Lib.hid ((HT.out.trans (Turned.of_grown (grownBy_put w2 g (j * 2) (.string (markT (k + 2 * (j : Int))))))).trans (Turned.of_grown (grownBy_put _ g (j * 2 + 1) (.int .i64 (k + 2 * (j : Int) + 1)))))
    clear c0 c1 f0 f1
    go_roundw
    case rel =>
     refine ⟨j + 1, by omega, by go_num, by go_num, And.intro ?_ ?_⟩
     ·
      have h1 := HS.out
      rw [List.drop_eq_getElem_cons hjl, set_step _ _ _ _ _ (marksF_length k j), ← marksF_next] at h1
      exact h1
     ·
      exact HT2.out
    case measure => simp [intOf]; omega
   ·
    go_wp2_with fail
    go_ret
    obtain rfl : j = n := by omega
    have h1 := hrel.out.1
    rw [List.drop_of_length_le (by rw [HN.out]; exact Nat.le_refl _), List.append_nil] at h1
    exact ⟨rfl, h1, hrel.out.2⟩
set_option maxHeartbeats 1000000 in
theorem markRecord_any (a : Option Addr) (c : Nat) (l : List F) (k : Int) (w : World) (h : OwnV w 0 128 2 a c l.length (cellsF l)) (hl : l.length ≤ 1099511627776) (hk0 : 0 < k) (hk1 : k ≤ 4611686018427387904) :
  Calls Try.prog 43 #[.agg #[.slice a l.length c], .int .i64 k] w fun e w' => e = .returned (.int .i64 (k + 2 * (l.length : Int))) ∧ OwnV w' 0 128 2 a c l.length (cellsF (marksF k l.length)) ∧ Turned (Value.slice a l.length c).ownBlock.toList w w' := by
 have HB := Lib.hid (show Below w.heap.size w (w.alloc (.cells #[.slice a l.length c] 31)) from (Below.refl _ _).alloc (Nat.le_refl _) _)
 have HC := Lib.hid (markFieldS_any a c l k _ (h.below HB.out) hl hk0 hk1)
 have HR := Lib.hid (Row.made w 31 #[.slice a l.length c])
 obtain ⟨n, hn⟩ : ∃ n, n = l.length := ⟨_, rfl⟩
 rw [← hn] at HC HB HR ⊢
 clear hn h hl
 go_enter Try.func43, Try.ntmps43
 go_wp2_with (go_at_call 121; refine HC.out.mono ?_; rintro e w2 ⟨rfl, ho, ht⟩; have HO := Lib.hid (And.intro ho ht); clear ho ht)
 go_ret
 exact ⟨rfl, HO.out.1, (Turned.of_below HB.out).trans HO.out.2⟩
set_option maxHeartbeats 2000000 in
theorem heldFieldS_any (a : Option Addr) (c n : Nat) (k : Int) (w : World) (hr : Reads w w.heap.size a (cellsF (marksF k n))) (hl : n ≤ 1099511627776) (hk0 : 0 < k) (hk1 : k ≤ 4611686018427387904) :
  Calls Try.prog 185 #[.slice a n c, .int .i64 k] w fun e w' => e = .returned (.int .i64 (k + 2 * (n : Int))) ∧ Below w.heap.size w w' := by
 have HR := Lib.hid (fun w' (h : Below w.heap.size w w') => hr.below h)
 have hl' : (n : Int) ≤ 1099511627776 := by omega
 clear hr
 go_enter Try.func185, Try.ntmps185
 go_wp2_with fail
 go_loopw [1, 5] (fun v i wr => ∃ j : Nat, j ≤ n ∧ i = .int .i64 j ∧ v = .int .i64 (k + 2 * (j : Int)) ∧ Hid (Below w.heap.size w wr)) (fun _ i _ => n - (intOf i).toNat)
 case atStart => exact ⟨0, Nat.zero_le _, rfl, by simp, Below.refl _ _⟩
 case round =>
  obtain ⟨j, hj, rfl, rfl, hrel⟩ := hrel
  by_cases hlt : (j : Int) < (n : Int)
  ·
   have hjn : j < n := by omega
   obtain ⟨ad, rfl, had, h1, h2⟩ := readsF (HR.out _ hrel.out) j (by simpa using hjn)
   rw [marksF_get _ _ _ hjn] at h1 h2
   have HC := Lib.hid (fun w' => markText_any (k + 2 * (j : Int)) (by omega) (by omega) w')
   obtain ⟨t, ht⟩ : ∃ t, t = markT (k + 2 * (j : Int)) := ⟨_, rfl⟩
   rw [← ht] at HC
   replace h1 : wr.cell? (ad.add (j * 2)) = some (.string t) := by rw [ht]; exact h1
   replace h2 : wr.cell? ⟨(ad.add (j * 2)).block, (ad.add (j * 2)).off + 1, none⟩ = some (.int .i64 (k + 2 * (j : Int) + 1)) := h2
   clear ht
   have HK := Lib.hid (fun (w5 : World) (hd : Below wr.drew.heap.size wr.drew w5) => show w5.cell? (ad.add (j * 2)) = some (.string t) ∧ w5.cell? ⟨(ad.add (j * 2)).block, (ad.add (j * 2)).off + 1, none⟩ = some (.int .i64 (k + 2 * (j : Int) + 1)) from by
    have ha : (ad.add (j * 2)).block < wr.drew.heap.size := by rw [add_block]; exact Nat.lt_of_lt_of_le had hrel.out.size
    exact ⟨(hd.cell ha).trans h1, (hd.cell (show (⟨(ad.add (j * 2)).block, (ad.add (j * 2)).off + 1, none⟩ : Addr).block < _ from ha)).trans h2⟩)
   go_wp2_with fail
   go_region_held3 (fun w' => w'.cell? (ad.add (j * 2)) = some (.string t) ∧ w'.cell? ⟨(ad.add (j * 2)).block, (ad.add (j * 2)).off + 1, none⟩ = some (.int .i64 (k + 2 * (j : Int) + 1))) (first | exact ⟨h1, h2⟩ | exact HK.out _ (by assumption) | go_keep) ((go_at_call 129; refine (HC.out _).mono ?_; rintro e w5 ⟨rfl, hd⟩; have HB5 := Lib.hid (below_drew hrel.out hd hrel.out.size)))
   obtain ⟨g1, g2⟩ := HK.out _ hd
   clear hd h1 h2
   go_wp2_with fail
   go_roundw
   case rel => exact ⟨j + 1, by omega, by go_num, by go_num, HB5.out⟩
   case measure => simp [intOf]; omega
  ·
   go_wp2_with fail
   go_ret
   obtain rfl : j = n := by omega
   exact ⟨rfl, hrel.out⟩

theorem Roomy.out {l : List F} {n u : Int} (h : Roomy l n u) (hu : ¬ u < 0) (hn : n ≤ 1048576) : l.length ≤ 1048576 ∧ Small l := by
 obtain ⟨h1, h2⟩ := h.2.2 (by omega)
 exact ⟨by omega, fun f hf => by have := h2 f hf; omega⟩
section
variable {W w : World} {rs : List Res}
theorem markRec (h : Sep W w rs) (i : Nat) {a : Option Addr} {c : Nat} {l : List F} (hi : rs[i]? = some (ownV 128 2 a c l.length (cellsF l))) (k : Int) (hl : l.length ≤ 1099511627776) (hk0 : 0 < k) (hk1 : k ≤ 4611686018427387904) :
  Calls Try.prog 43 #[.agg #[.slice a l.length c], .int .i64 k] w fun e w' => e = .returned (.int .i64 (k + 2 * (l.length : Int))) ∧ Sep W w' (rs.set i (ownV 128 2 a c l.length (cellsF (marksF k l.length)))) :=
 (markRecord_any a c l k w (own_at h i hi) hl hk0 hk1).mono fun _ _ ⟨he, ho, ht⟩ => ⟨he, h.put i hi ht ho fun b hb => hb⟩
end
end Go.Proofs.Ytojcdmgcbgpdmaa.L5

namespace Go.Proofs.Ytojcdmgcbgpdmaa.Run
open Go.ChangeShapes Go.WideShapes Go.ChangeAt Go.RowKit Mem Sl Sv Bag

def over (xs : List Value) (o : Nat) (vs : List Value) : List Value := xs.take o ++ (vs ++ xs.drop (o + vs.length))
theorem over_nil (xs : List Value) (o : Nat) : over xs o [] = xs := by simp [over]
theorem over_all (xs vs : List Value) (h : xs.length = vs.length) : over xs 0 vs = vs := by simp [over, ← h]
theorem over_at (A Z : List Value) (o : Nat) (vs : List Value) (ho : A.length = o) (hv : vs.length ≤ Z.length) : over (A ++ Z) o vs = A ++ (vs ++ Z.drop vs.length) := by
 subst ho
 simp [over, List.take_left', List.drop_append]
theorem over_cons (xs : List Value) (o : Nat) (v : Value) (vs : List Value) (h : o < xs.length) : over (xs.set o v) (o + 1) vs = over xs o (v :: vs) := by
 unfold over
 rw [List.drop_set_of_lt (by omega), List.take_add_one, List.take_set_of_le (Nat.le_refl o)]
 simp [h, Nat.add_comm]
 congr 1
 omega
section
variable {w w' : World} {B : Nat} {e : TypeId} {k c n g : Nat} {a : Option Addr} {xs : List Value}
theorem own_run (vs : List Value) : ∀ {w : World} {xs : List Value} (o : Nat), OwnV w B e k (some ⟨g, 0, none⟩) c n xs → o + vs.length ≤ xs.length → OwnV (w.setCells g o vs) B e k (some ⟨g, 0, none⟩) c n (over xs o vs) := by
 induction vs with
 | nil => intro w xs o h _; rw [over_nil]; exact h
 | cons v vs ih =>
  intro w xs o h hl
  simp only [List.length_cons] at hl
  have h1 := ih (o + 1) (h.set o (by omega) v) (by rw [List.length_set]; omega)
  rw [over_cons xs o v vs (by omega)] at h1
  exact h1
theorem turned_run (vs : List Value) : ∀ (w : World) (o : Nat), Turned [g] w (w.setCells g o vs) := by
 induction vs with
 | nil => intro w o; exact Turned.refl _ _
 | cons v vs ih => intro w o; exact (Turned.of_grown (grownBy_put w g o v)).trans (ih _ _)
end
section
variable {W w w' : World} {rs : List Res} {e : TypeId} {k c n g : Nat} {a : Option Addr} {xs : List Value}
theorem put_run (h : Sep W w rs) (i : Nat) (hi : rs[i]? = some (ownV e k (some ⟨g, 0, none⟩) c n xs)) (o : Nat) (vs : List Value) (ho : o + vs.length ≤ xs.length) : Sep W (w.setCells g o vs) (rs.set i (ownV e k (some ⟨g, 0, none⟩) c n (over xs o vs))) :=
 h.put i hi (turned_run vs w o) (own_run vs o (own_at h i hi) ho) (fun b hb => hb)
end
section
variable {P : Program}
theorem run_copy_src (w : World) (dT sT ty e : TypeId) (i : TypeInfo) (k g q dl dc sl sc : Nat) (A : Option Addr) (cs : List Value) (hu : P.underlying dT = some (.slice e)) (hi : P.info? e = some i) (hs : i.size = k) (hn : cs.length = Nat.min sl dl * k)
  (B : Nat) (hr : Reads w B A cs) (hc : ∀ j, j < cs.length → (w.cell? ⟨g, q + j, none⟩).isSome = true) (hf : ∀ j, j < cs.length → w.frozen? ⟨g, q + j, none⟩ = false) (h1 : ∀ v ∈ cs, v.oneCell' = true) :
  (Builtin.copy_ #[dT, sT] ty #[.slice (some ⟨g, q, none⟩) dl dc, .slice A sl sc]).run P w = .ok (goInt (Nat.min sl dl)) (w.setCells g q cs) := by
 have hst := run_storeCells_cells (P := P) g q cs 0 w (by simpa using hc) (by simpa using hf) h1
 cases A with
 | none =>
  have hcs : cs = [] := by
   rcases cs with _ | ⟨x, xs⟩
   ·
    rfl
   ·
    obtain ⟨ad, h, _⟩ := hr 0 (by simp)
    cases h
  subst hcs
  simp [Builtin.copy_, run_underlying hu, Builtin.lenOf, Builtin.firstCells, sizeOf, typeInfo, hi, storeCells, World.setCells]
 | some ad =>
  have hl := run_loadCells_list (P := P) w ad cs (fun j v hj => by
   obtain ⟨hjl, rfl⟩ := List.getElem?_eq_some_iff.1 hj
   obtain ⟨ad', h, _, h2⟩ := hr j hjl
   injection h with h
   subst h
   exact h2)
  simp [Builtin.copy_, run_underlying hu, Builtin.lenOf, Builtin.firstCells, sizeOf, typeInfo, hi, hs, ← hn, hl, hst]
end
section
variable {P : Program} {W w : World} {rs : List Res} {e : TypeId} {k g c n : Nat} {xs : List Value}
theorem run_copy_s (S : Sep W w rs) (j : Nat) (hj : rs[j]? = some (ownV e k (some ⟨g, 0, none⟩) c n xs)) (dT sT ty : TypeId) (i : TypeInfo) (hu : P.underlying dT = some (.slice e)) (hi : P.info? e = some i) (hs : i.size = k)
  (q dl dc sl sc : Nat) (A : Option Addr) (cs : List Value) (hn : cs.length = Nat.min sl dl * k) (B : Nat) (hr : Reads w B A cs) (hq : q + cs.length ≤ xs.length) (h1 : ∀ v ∈ cs, v.oneCell' = true) :
  (Builtin.copy_ #[dT, sT] ty #[.slice (some ⟨g, q, none⟩) dl dc, .slice A sl sc]).run P w = .ok (goInt (Nat.min sl dl)) (w.setCells g q cs) :=
 run_copy_src w dT sT ty e i k g q dl dc sl sc A cs hu hi hs hn B hr (fun m hm => by rw [(own_at S j hj).cell (q + m) (by omega)]; rfl) (fun m hm => (own_at S j hj).free (q + m)) h1
theorem step_copy_s (S : Sep W w rs) (j : Nat) (hj : rs[j]? = some (ownV e k (some ⟨g, 0, none⟩) c n xs)) {ops : Array Oper} {o : Oper} {act : Act} {K : Act → World → Prop} {Q : Exit → Act → World → Prop} {E : Prop} (hgd : o.guard = none) (d s : Operand) (t t' : TypeId)
  (ho : o.op = .call { callee := .builtin .copy, args := #[d, s], argTypes := #[t, t'] }) (i : TypeInfo) (hu : P.underlying t = some (.slice e)) (hi : P.info? e = some i) (hs : i.size = k)
  (q dl dc : Nat) (hd : act.eval d = .slice (some ⟨g, q, none⟩) dl dc) (A : Option Addr) (sl sc : Nat) (hx : act.eval s = .slice A sl sc) (B : Nat) (cs : List Value) (hr : Reads w B A cs) (hn : cs.length = Nat.min sl dl * k) (hq : q + cs.length ≤ xs.length) (h1 : ∀ v ∈ cs, v.oneCell' = true)
  (h : ∀ w', Sep W w' (rs.set j (ownV e k (some ⟨g, 0, none⟩) c n (over xs q cs))) → K (act.put o.dst (goInt (Nat.min sl dl))) w') : if Region.wanted o (yielded ops act.tmps) = true then Oper.wp P o act w K Q else E := by
 have hw : Region.wanted o (yielded ops act.tmps) = true := by simp [Region.wanted, hgd]
 rw [if_pos hw]
 have hrun := run_copy_s (P := P) S j hj t t' o.type i hu hi hs q dl dc sl sc A cs hn B hr hq h1
 unfold Oper.wp execOp
 simp only [ho, resolve, invoke, builtin, Sem.run_bind, Sem.run_pure, Result.andThen_ok, List.map_toArray, List.map_cons, List.map_nil, hd, hx, hrun]
 exact h _ (put_run S j hj q cs hq)
theorem wpList_make_s (S : Sep W w rs) {ops : Array Oper} {rest : List Oper} {o : Oper} {act : Act} {Q : Exit → Act → World → Prop} (hg : o.guard = none) (l cc : Operand) (t : TypeId) (hop : o.op = Op.makeSlice t l cc)
  (e : TypeId) (i : TypeInfo) (z : Value) (k : Nat) (h1 : P.underlying t = some (.slice e)) (h2 : P.info? e = some i) (h3 : i.zero = some z) (h4 : i.size = k)
  (kl kc : IntKind) (n : Nat) (hl : act.eval l = .int kl n) (hc : act.eval cc = .int kc n) (b2 : i.bytes * n ≤ 281474976710656) (b3 : n ≤ maxLen)
  (hK : ∀ w', Sep W w' (rs ++ [ownV e k (some ⟨w.heap.size, 0, none⟩) n n (madeCells z.cells (n * k)).toList]) → wpList P ops Q rest (act.put o.dst (.slice (some ⟨w.heap.size, 0, none⟩) n n)) w') : wpList P ops Q (o :: rest) act w :=
 wpList_make_full w hg l cc t hop w.heap.size e i z k h1 h2 h3 h4 kl kc n n n hl hc rfl rfl b2 b3 (Nat.le_refl _) fun w' h5 h6 =>
  hK w' (push_own S (by
   have := Turned.of_grown h6
   exact this.below (Nat.le_refl _) (fun b hb => by simp at hb)) h5)
theorem wpList_zeros_s (S : Sep W w rs) {ops : Array Oper} {rest : List Oper} {o : Oper} {act : Act} {Q : Exit → Act → World → Prop} (hgd : o.guard = none) (s x : Operand) (t tn : TypeId)
  (ho : o.op = .call { callee := .builtin .append, args := #[s, x], argTypes := #[t, tn] }) (e : TypeId) (i : TypeInfo) (z : Value) (k bytes : Nat) (kq kn : IntKind) (ht : P.underlying t = some (.slice e)) (htn : P.underlying tn = some (.int kn)) (hi : P.info? e = some i) (hz : i.zero = some z)
  (hs : i.size = k) (hby : i.bytes = bytes) (hzs : z.cells.size = k) (hk : 0 < k) (ad : Addr) (l c m : Nat) (hsv : act.eval s = .slice (some ad) l c) (hxv : act.eval x = .int kq m) (B : Nat) (ys : List Value) (hr : Reads w B (some ad) ys) (hl : ys.length = l * k)
  (h0 : 0 < m) (hg : c < l + m) (h63 : l + m ≤ maxLen) (hbytes : (l + m) * bytes ≤ 140737488355328)
  (h : ∀ w' C, l + m ≤ C → Sep W w' (rs ++ [ownV e k (some ⟨w.heap.size, 0, none⟩) C (l + m) (ys ++ (Builtin.zeroCells z.cells m).toList)]) → wpList P ops Q rest (act.put o.dst (.slice (some ⟨w.heap.size, 0, none⟩) (l + m) C)) w') : wpList P ops Q (o :: rest) act w := by
 refine wpList_plain hgd fun K hK => ?_
 have hold : (Builtin.firstCells i.size l (.slice (some ad) l c)).run P w.drew = .ok ys.toArray w.drew := by
  rw [hs]
  exact run_firstCells_some w.drew k l ad l c ys hl (fun j v hj => by
   obtain ⟨hjl, rfl⟩ := List.getElem?_eq_some_iff.1 hj
   obtain ⟨ad', h, _, h2⟩ := hr j hjl
   injection h with h
   subst h
   exact h2)
 have hm : ((l + m : Nat) : Int) ≤ 9223372036854775807 := by
  have := h63
  unfold maxLen at this
  omega
 have hrun := Lib.run_append_grow_zeros (P := P) w t tn o.type e i z kq kn ht htn hi hz (some ad) l c ys hold m h0 (by omega) hg hm (by rw [hby]; have := Nat.mul_le_mul_right bytes (show m ≤ l + m by omega); omega) (by rw [hby]; exact growslice_fits hg hbytes)
 have hge := grownCap_ge w (l + m) c e
 have hle := grownCap_le_maxLen w (l + m) c e h63
 obtain ⟨G, hG⟩ : ∃ G, G = grownCap w (l + m) c e := ⟨_, rfl⟩
 rw [← hG] at hrun hge hle
 unfold Oper.wp execOp
 simp only [ho, resolve, invoke, builtin, Sem.run_bind, Sem.run_pure, Result.andThen_ok, List.map_toArray, List.map_cons, List.map_nil, hsv, hxv, hrun]
 refine hK _ _ (h _ G hge (push_own S ((Below.refl _ _).drew.alloc (Nat.le_refl _) _) ?_))
 refine ⟨by simp only [List.length_append, Array.length_toList, size_zeroCells, hl, hzs, Nat.add_mul], .inr ⟨w.heap.size, G, _, rfl, Nat.le_refl _, heap_alloc_new w.drew _, hge, hle, ?_, ?_⟩⟩
 ·
  simp only [Array.size_append, size_zeroCells, hzs, List.size_toArray, hl]
  rw [← Nat.add_mul, ← Nat.add_mul]
  congr 1
  omega
 ·
  simp only [Array.toList_append, List.append_assoc]
  rw [← List.append_assoc, List.take_left' (by simp only [List.length_append, Array.length_toList, size_zeroCells, hl, hzs, Nat.add_mul])]
theorem wpList_grow_s (S : Sep W w rs) {ops : Array Oper} {rest : List Oper} {o : Oper} {act : Act} {Q : Exit → Act → World → Prop} (hgd : o.guard = none) (s x : Operand) (t : TypeId)
  (ho : o.op = .call { callee := .builtin .append, args := #[s, x], argTypes := #[t, t] }) (e : TypeId) (i : TypeInfo) (z : Value) (k bytes : Nat) (ht : P.underlying t = some (.slice e)) (hi : P.info? e = some i) (hz : i.zero = some z)
  (hs : i.size = k) (hby : i.bytes = bytes) (hzs : z.cells.size = k) (ad : Addr) (l c : Nat) (hsv : act.eval s = .slice (some ad) l c) (B : Nat) (ys : List Value) (hr : Reads w B (some ad) ys) (hl : ys.length = l * k)
  (ad2 : Addr) (m c2 : Nat) (hxv : act.eval x = .slice (some ad2) m c2) (B2 : Nat) (vs : List Value) (hv : Reads w B2 (some ad2) vs) (hvl : vs.length = m * k) (h1 : ∀ u ∈ vs, u.oneCell' = true)
  (hg : c < l + m) (h63 : l + m ≤ maxLen) (hbytes : (l + m) * bytes ≤ 140737488355328)
  (h : ∀ w' C, l + m ≤ C → Sep W w' (rs ++ [ownV e k (some ⟨w.heap.size, 0, none⟩) C (l + m) (ys ++ vs)]) → wpList P ops Q rest (act.put o.dst (.slice (some ⟨w.heap.size, 0, none⟩) (l + m) C)) w') : wpList P ops Q (o :: rest) act w := by
 refine wpList_plain hgd fun K hK => ?_
 have rd : ∀ {w' : World} {B : Nat} {ad : Addr} {ys : List Value}, Reads w' B (some ad) ys → ∀ j v, ys[j]? = some v → w'.cell? (ad.add j) = some v := fun hr j v hj => by
  obtain ⟨hjl, rfl⟩ := List.getElem?_eq_some_iff.1 hj
  obtain ⟨ad', h, _, h2⟩ := hr j hjl
  injection h with h
  subst h
  exact h2
 have hold : (Builtin.firstCells i.size l (.slice (some ad) l c)).run P w.drew = .ok ys.toArray w.drew := by
  rw [hs]
  exact run_firstCells_some w.drew k l ad l c ys hl (rd (w' := w) hr)
 have hsrc : Src P i.size t (.slice (some ad2) m c2) m vs w := Src.ofSlice w ht ad2 m c2 vs (by rw [hs]; exact hvl) (rd hv) h1
 have hm : ((l + m : Nat) : Int) ≤ 9223372036854775807 := by
  have := h63
  unfold maxLen at this
  omega
 have hrun := run_append_grow_src (P := P) w t t o.type e i z ht hi hz (some ad) l c ys hold _ m vs hsrc hg hm (by rw [hby]; exact growslice_fits hg hbytes)
 have hge := grownCap_ge w (l + m) c e
 have hle := grownCap_le_maxLen w (l + m) c e h63
 obtain ⟨G, hG⟩ : ∃ G, G = grownCap w (l + m) c e := ⟨_, rfl⟩
 rw [← hG] at hrun hge hle
 unfold Oper.wp execOp
 simp only [ho, resolve, invoke, builtin, Sem.run_bind, Sem.run_pure, Result.andThen_ok, List.map_toArray, List.map_cons, List.map_nil, hsv, hxv, hrun]
 refine hK _ _ (h _ G hge (push_own S ((Below.refl _ _).drew.alloc (Nat.le_refl _) _) ?_))
 refine ⟨by rw [List.length_append, hl, hvl, Nat.add_mul], .inr ⟨w.heap.size, G, _, rfl, Nat.le_refl _, heap_alloc_new w.drew _, hge, hle, ?_, ?_⟩⟩
 ·
  simp only [Array.size_append, size_zeroCells, hzs, List.size_toArray, List.length_append, hl, hvl]
  rw [← Nat.add_mul, ← Nat.add_mul]
  congr 1
  omega
 ·
  simp only [Array.toList_append]
  rw [List.take_left' (by rw [List.length_append, hl, hvl, Nat.add_mul])]
end
end Go.Proofs.Ytojcdmgcbgpdmaa.Run

namespace Go.Proofs.Ytojcdmgcbgpdmaa.L6
open L4 (K isK cmpK R inR encU)
open L5 (F isR isN cellsF encR eqR Small Wide)
open Go.ChangeShapes Go.WideShapes Go.ChangeAt Go.RowKit Mem Sl Ex L2 Sv Bag

set_option maxHeartbeats 2000000 in
theorem toItem_any (kd n : Int) (s : ByteArray) (a : Option Addr) (c : Nat) (l : List F) (hl : l.length ≤ 1048576) (w : World) (hr : Reads w w.heap.size a (cellsF l)) :
  Calls Try.prog 181 #[.agg #[.int .i64 kd, .int .i64 n, .string s, .slice a l.length c]] w (GaveI w ⟨⟨kd, n, s⟩, l⟩) := by
 have HC := Lib.hid (fun w' (h : Below w.heap.size w w') => L5.toRecord_any a c l (by have := hl; omega) w' ((hr.below h).more h.size))
 have HTK := Lib.hid (fun w' => L4.toKey_any ⟨kd, n, s⟩ w')
 unfold L4.K.v at HTK
 obtain ⟨N, hN⟩ : ∃ n, n = l.length := ⟨_, rfl⟩
 rw [← hN] at HC ⊢
 have HN := Lib.hid hN
 clear hN hr hl
 have S1 := Lib.hid (show Sl.Sep w _ [_, _] from L4.push_box (L4.push_box (Sl.Sep.start w) 198 #[.int .i64 kd, .int .i64 n, .string s, .slice a N c] (w.heap.size) (by simp)) 40 #[.int .i64 0, .int .i64 0, .string ⟨#[]⟩, .slice none 0 0] (w.heap.size + 1) (by simp))
 obtain ⟨wa, hwa⟩ : ∃ u, u = ((w.alloc (.cells #[.int .i64 kd, .int .i64 n, .string s, .slice a N c] 198)).alloc (.cells #[.int .i64 0, .int .i64 0, .string ⟨#[]⟩, .slice none 0 0] 40)) := ⟨_, rfl⟩
 rw [← hwa] at S1
 go_enter Try.func181, Try.ntmps181
 go_upto_region 1 with fail
 rw [← hwa]
 clear hwa
 obtain ⟨f0, f1, f2, f3⟩ := Bag.cs4 S1.out 0 rfl
 obtain ⟨f4, f5, f6, f7⟩ := Bag.cs4 S1.out 1 rfl
 go_upto_region 2 with fail
 clear f0 f1 f2 f3 f4 f5 f6 f7
 have S2 := Lib.hid (show Sl.Sep w _ [_, _, _] from L4.push_box S1.out 40 #[.int .i64 0, .int .i64 0, .string ⟨#[]⟩, .slice none 0 0] wa.heap.size rfl)
 clear S1
 obtain ⟨g1, hg⟩ : ∃ g', g' = wa.heap.size := ⟨_, rfl⟩
 rw [← hg] at S2 ⊢
 clear hg
 generalize wa.alloc (.cells #[.int .i64 0, .int .i64 0, .string ⟨#[]⟩, .slice none 0 0] 40) = w1 at S2 ⊢
 obtain ⟨f0, f1, f2, f3⟩ := Bag.cs4 S2.out 0 rfl
 obtain ⟨f4, f5, f6, f7⟩ := Bag.cs4 S2.out 1 rfl
 obtain ⟨f8, f9, f10, f11⟩ := Bag.cs4 S2.out 2 rfl
 go_wp2_with fail
 go_at_call 38
 refine (HTK.out _).mono ?_
 rintro e w2 ⟨rfl, hb⟩
 clear f0 f1 f2 f3 f4 f5 f6 f7 f8 f9 f10 f11
 have S3 := Lib.hid (S2.out.keep hb)
 clear S2
 clear hb
 obtain ⟨f0, f1, f2, f3⟩ := Bag.cs4 S3.out 0 rfl
 obtain ⟨f4, f5, f6, f7⟩ := Bag.cs4 S3.out 1 rfl
 obtain ⟨f8, f9, f10, f11⟩ := Bag.cs4 S3.out 2 rfl
 obtain ⟨z0, z1, z2, z3⟩ := Bag.fs4 S3.out 2 rfl
 go_upto_region 3 with fail
 clear f0 f1 f2 f3 f4 f5 f6 f7 f8 f9 f10 f11 z0 z1 z2 z3
 have S4 := Lib.hid (show Sl.Sep w _ [L4.boxR w.heap.size 198 #[.int .i64 kd, .int .i64 n, .string s, .slice a N c], L4.boxR (w.heap.size + 1) 40 #[.int .i64 0, .int .i64 0, .string ⟨#[]⟩, .slice none 0 0], L4.boxR g1 40 #[.int .i64 kd, .int .i64 n, .string s, .slice none 0 0]] from L5.put_box5 (L5.put_box5 (L5.put_box5 (S3.out) 2 rfl 0 (.int .i64 kd)) 2 rfl 1 (.int .i64 n)) 2 rfl 2 (.string s))
 clear S3
 obtain ⟨f0, f1, f2, f3⟩ := Bag.cs4 S4.out 0 rfl
 obtain ⟨f4, f5, f6, f7⟩ := Bag.cs4 S4.out 1 rfl
 obtain ⟨f8, f9, f10, f11⟩ := Bag.cs4 S4.out 2 rfl
 go_wp2_with fail
 go_at_call 39
 refine (HC.out _ S4.out.old).mono ?_
 rintro e w3 ⟨a1, c1, rfl, ho, hb⟩
 clear f0 f1 f2 f3 f4 f5 f6 f7 f8 f9 f10 f11
 have S5 := Lib.hid (show Sl.Sep w _ [_, _, _, Sv.ownV 128 2 a1 c1 N (cellsF l)] from Sv.push_own S4.out hb ho)
 clear S4
 clear hb ho
 obtain ⟨f0, f1, f2, f3⟩ := Bag.cs4 S5.out 0 rfl
 obtain ⟨f4, f5, f6, f7⟩ := Bag.cs4 S5.out 1 rfl
 obtain ⟨f8, f9, f10, f11⟩ := Bag.cs4 S5.out 2 rfl
 obtain ⟨z0, z1, z2, z3⟩ := Bag.fs4 S5.out 2 rfl
 go_upto_region 4 with fail
 clear f0 f1 f2 f3 f4 f5 f6 f7 f8 f9 f10 f11 z0 z1 z2 z3
 have S6 := Lib.hid (show Sl.Sep w _ [_, _, L4.boxR g1 40 #[.int .i64 kd, .int .i64 n, .string s, .slice a1 N c1], _] from L5.put_box5 (S5.out) 2 rfl 3 (.slice a1 N c1))
 clear S5
 obtain ⟨f0, f1, f2, f3⟩ := Bag.cs4 S6.out 0 rfl
 obtain ⟨f4, f5, f6, f7⟩ := Bag.cs4 S6.out 1 rfl
 obtain ⟨f8, f9, f10, f11⟩ := Bag.cs4 S6.out 2 rfl
 obtain ⟨z0, z1, z2, z3⟩ := Bag.fs4 S6.out 1 rfl
 go_wp2_with fail
 clear f0 f1 f2 f3 f4 f5 f6 f7 f8 f9 f10 f11 z0 z1 z2 z3
 have S7 := Lib.hid (show Sl.Sep w _ [_, L4.boxR (w.heap.size + 1) 40 #[.int .i64 kd, .int .i64 n, .string s, .slice a1 N c1], _, _] from L5.put_box5 (L5.put_box5 (L5.put_box5 (L5.put_box5 (S6.out) 1 rfl 0 (.int .i64 kd)) 1 rfl 1 (.int .i64 n)) 1 rfl 2 (.string s)) 1 rfl 3 (.slice a1 N c1))
 clear S6
 obtain ⟨f0, f1, f2, f3⟩ := Bag.cs4 S7.out 1 rfl
 refine bodyPost_ret (v := .agg #[.int .i64 kd, .int .i64 n, .string s, .slice a1 N c1]) (by simp [results, Try.results181, go_sem, *]) rfl ?_
 have hb := Bag.bag_from (Bag.bag_of_one S7.out 3 (r := (LI.mk ⟨kd, n, s⟩ a1 c1 l).row) (by show some _ = some _; rw [HN.out]; rfl)) 3 rfl
 exact ⟨a1, c1, by rw [HN.out], hb, S7.out.old⟩
set_option maxHeartbeats 4000000 in
theorem toItemS_any (a : Option Addr) (c : Nat) (xs : List LI) (hl : xs.length ≤ 1048576) (hf : ∀ x ∈ conI xs, FitI x) (w : World) (hr : Reads w w.heap.size a (cellsI xs)) (hx : RowsRd w w.heap.size (rowsI xs)) :
  Calls Try.prog 116 #[.slice a xs.length c] w (GaveIs w (conI xs)) := by
 obtain ⟨i0, hi1, hi2, hi3, hi4⟩ := itemInfo
 have HI := Lib.hid (And.intro hi1 (And.intro hi2 (And.intro hi3 hi4)))
 clear hi1 hi2 hi3 hi4
 have HR := Lib.hid (fun w' (h : Below w.heap.size w w') => hr.below h)
 have HX := Lib.hid (fun w' (h : Below w.heap.size w w') => (hx.below h).more h.size)
 have HF := Lib.hid hf
 obtain ⟨N, hN⟩ : ∃ n, n = xs.length := ⟨_, rfl⟩
 rw [← hN] at hl ⊢
 have hl' : (N : Int) ≤ 1048576 := by omega
 have HN := Lib.hid hN
 clear hN hr hx hf
 obtain ⟨Z, hZ⟩ : ∃ Z, Z = (madeCells (Value.agg #[.int .i64 0, .int .i64 0, .string ⟨#[]⟩, .slice none 0 0]).cells (N * 4)).toList := ⟨_, rfl⟩
 have HZ := Lib.hid (show Z.length = N * 4 by rw [hZ]; simp [madeCells])
 have HZD := Lib.hid hZ
 clear hZ
 have S1 := Lib.hid (show Sl.Sep w w [] from Sl.Sep.start w)
 go_enter Try.func116, Try.ntmps116
 go_upto_region 2 with (at_make; refine Run.wpList_make_s S1.out rfl _ _ 24 rfl 40 i0 (.agg #[.int .i64 0, .int .i64 0, .string ⟨#[]⟩, .slice none 0 0]) 4 Try.underlying24 HI.out.1 HI.out.2.1 HI.out.2.2.1 _ _ N rfl rfl (by rw [HI.out.2.2.2]; omega) (by unfold maxLen; omega) ?_; intro w1 S')
 obtain ⟨g1, hg⟩ : ∃ g', g' = w.heap.size := ⟨_, rfl⟩
 rw [← hg] at S' ⊢
 clear hg
 have S2 := Lib.hid (show Sl.Sep w _ [Sv.ownV 40 4 (some ⟨g1, 0, none⟩) N N (cellsI [] ++ Z)] from (by have h := S'; rw [← HZD.out] at h; exact h))
 clear S1
 clear S'
 have S3 := Lib.hid (show Sl.Sep w _ [_, Bag.bag (rowsI [])] from Bag.push_bag S2.out (Below.refl _ _) (Bag.BagOwn.nil _ _))
 clear S2
 go_wp2_with fail
 go_loopw [4] (fun i wr => ∃ (k : Nat) (ys : List LI) (Zs : List Value), k ≤ N ∧ i = .int .i64 k ∧ Hid ((conI ys = (conI xs).take k ∧ ys.length = k ∧ Zs.length = (N - k) * 4) ∧ Sl.Sep w wr [Sv.ownV 40 4 (some ⟨g1, 0, none⟩) N N (cellsI ys ++ Zs), Bag.bag (rowsI ys)])) (fun i _ => N - (intOf i).toNat)
 case atStart => exact ⟨0, [], Z, Nat.zero_le _, rfl, And.intro ⟨rfl, rfl, HZ.out⟩ S3.out⟩
 case round =>
  obtain ⟨k, ys, Zs, hk, rfl, hrel⟩ := hrel
  have HC := Lib.hid hrel.out.1
  have S4 := Lib.hid hrel.out.2
  clear hrel S3
  by_cases hlt : (k : Int) < (N : Int)
  ·
   skip
   have hkl : k < xs.length := by have := HN.out; omega
   obtain ⟨ad, x, rfl, hx⟩ := readsI_some (HR.out _ S4.out.old) k hkl
   obtain ⟨⟨kd, n, t⟩, ia, ic, l⟩ := x
   have HK := Lib.hid (fun w' (h : Below w.heap.size w w') => readsI_at (HR.out _ h) k _ hx)
   try dsimp only at HK
   have HFI := Lib.hid (fit_at HF.out hx)
   try dsimp only [LI.con] at HFI
   have HCI := Lib.hid (fun w' (h : Below w.heap.size w w') => toItem_any kd n t ia ic l (fit_at HF.out hx).len w' (((HX.out _ h).at_ (rowsI_mem hx)).reads))
   try dsimp only at HCI
   have HT := Lib.hid (conI_take hx)
   clear hx
   have HL := Lib.hid (show (cellsI ys).length = k * 4 ∧ k * 4 + 4 ≤ (cellsI ys ++ Zs).length ∧ 4 ≤ Zs.length from by have h1 := HC.out.2.1; have h2 := HC.out.2.2; rw [List.length_append, cellsI_length, h1, h2]; omega)
   obtain ⟨f0, f1, f2, f3⟩ := HK.out _ S4.out.old
   go_wp2_with fail
   go_at_call 181
   refine (HCI.out _ S4.out.old).mono ?_
   rintro e w2 ⟨a1, c1, rfl, ho, hb⟩
   clear f0 f1 f2 f3
   have S5 := Lib.hid (show Sl.Sep w _ [Sv.ownV 40 4 (some ⟨g1, 0, none⟩) N N (cellsI ys ++ Zs), Bag.bag (rowsI ys), Bag.bag ([(LI.mk ⟨kd, n, t⟩ a1 c1 l).row])] from Bag.push_bag S4.out hb ho)
   clear S4
   clear hb ho
   have q0 := (Sv.own_at S5.out 0 rfl).cell (k * 4) (by have := HL.out.2.1; omega)
   have z0 := (Sv.own_at S5.out 0 rfl).free (k * 4)
   have q1 := (Sv.own_at S5.out 0 rfl).cell (k * 4 + 1) (by have := HL.out.2.1; omega)
   have z1 := (Sv.own_at S5.out 0 rfl).free (k * 4 + 1)
   have q2 := (Sv.own_at S5.out 0 rfl).cell (k * 4 + 2) (by have := HL.out.2.1; omega)
   have z2 := (Sv.own_at S5.out 0 rfl).free (k * 4 + 2)
   have q3 := (Sv.own_at S5.out 0 rfl).cell (k * 4 + 3) (by have := HL.out.2.1; omega)
   have z3 := (Sv.own_at S5.out 0 rfl).free (k * 4 + 3)
   go_wp2_with fail
   clear q0 z0 q1 z1 q2 z2 q3 z3
   have S6 := Lib.hid (show Sl.Sep w (World.setCells w2 g1 (k * 4) [.int .i64 kd, .int .i64 n, .string t, .slice a1 l.length c1]) [Sv.ownV 40 4 (some ⟨g1, 0, none⟩) N N (cellsI (ys ++ [⟨⟨kd, n, t⟩, a1, c1, l⟩]) ++ Zs.drop 4), Bag.bag (rowsI ys), Bag.bag ([(LI.mk ⟨kd, n, t⟩ a1 c1 l).row])] from (by have h := Run.put_run S5.out 0 rfl (k * 4) [.int .i64 kd, .int .i64 n, .string t, .slice a1 l.length c1] (by have := HL.out.2.1; simpa using this); rw [Run.over_at _ _ _ _ HL.out.1 (by have := HL.out.2.2; simpa using this)] at h; rw [cellsI_append, List.append_assoc]; exact h))
   clear S5
   have S7 := Lib.hid (show Sl.Sep w _ [Sv.ownV 40 4 (some ⟨g1, 0, none⟩) N N (cellsI (ys ++ [⟨⟨kd, n, t⟩, a1, c1, l⟩]) ++ Zs.drop 4), Bag.bag (rowsI ys ++ ([(LI.mk ⟨kd, n, t⟩ a1 c1 l).row])), Bag.bag ([])] from Bag.bag_join S6.out 1 2 (by decide) rfl rfl)
   clear S6
   have S8 := Lib.hid (show Sl.Sep w _ [_, _] from Bag.take S7.out [0, 1] (by rfl) (by decide))
   clear S7
   go_roundw
   case rel =>
    refine ⟨k + 1, ys ++ [⟨⟨kd, n, t⟩, a1, c1, l⟩], Zs.drop 4, by omega, by go_num, And.intro ⟨?_, ?_, ?_⟩ ?_⟩
    ·
     rw [HT.out, ← HC.out.1]; exact List.map_append
    ·
     rw [List.length_append, HC.out.2.1]; rfl
    ·
     rw [List.length_drop, HC.out.2.2]; omega
    ·
     rw [rowsI_append]; exact S8.out
   case measure => simp [intOf]; omega
  ·
   skip
   obtain rfl : k = N := by omega
   go_wp2_with fail
   go_ret
   obtain ⟨hc1, hc2, hc3⟩ := HC.out
   have hZs : Zs = [] := List.eq_nil_of_length_eq_zero (by rw [hc3]; omega)
   have hcon : conI ys = conI xs := by rw [hc1, List.take_of_length_le (by have := HN.out; simp; omega)]
   have S90 := Lib.hid (Bag.bag_of_one S4.out 0 (r := rowI (some ⟨g1, 0, none⟩) k ys) (by unfold RowS.res rowI; dsimp only; rw [hZs, List.append_nil, hc2]; rfl))
   have S91 := Lib.hid (Bag.bag_join S90.out 0 1 (by decide) rfl rfl)
   have hb := Bag.bag_from S91.out 0 rfl
   subst hc2
   exact ⟨_, _, ys, rfl, hcon, hb, S91.out.old⟩
set_option maxHeartbeats 4000000 in
theorem toStore_any (y : LS) (hf : FitS y.con) (w : World) (hr : RowsRd w w.heap.size y.rows) :
  Calls Try.prog 37 #[y.v] w (GaveS w y.con) := by
 have HTI := Lib.hid (fun w' (h : Below w.heap.size w w') => toItemS_any y.a y.c y.xs (by have h1 := hf.len; simpa [LS.con] using h1) hf.items w' (((LS.outer hr).below h).more h.size) (((LS.inner hr).below h).more h.size))
 obtain ⟨name, a, c, xs, auto⟩ := y
 have HR := Lib.hid (fun w' (h : Below w.heap.size w w') => LS.outer (hr.below h))
 have HX := Lib.hid (fun w' (h : Below w.heap.size w w') => (LS.inner (hr.below h)).more h.size)
 have HF := Lib.hid hf.items
 have HNM := Lib.hid hf.name
 have hl := hf.len
 simp only [LS.con, conI_length] at hl
 dsimp only [LS.con] at HR HX HF HNM
 try unfold LS.v LS.cells LS.con
 try dsimp only
 obtain ⟨N, hN⟩ : ∃ n, n = xs.length := ⟨_, rfl⟩
 rw [← hN] at hl ⊢
 have hl' : (N : Int) ≤ 1048576 := by omega
 have HN := Lib.hid hN
 clear hN hr hf
 dsimp only at HTI
 rw [← HN.out] at HTI
 have S1 := Lib.hid (show Sl.Sep w _ [_, _] from L4.push_box (L4.push_box (Sl.Sep.start w) 57 #[.string name, .slice a N c, .int .i64 auto] (w.heap.size) (by simp)) 26 #[.string ⟨#[]⟩, .slice none 0 0, .int .i64 0] (w.heap.size + 1) (by simp))
 obtain ⟨wa, hwa⟩ : ∃ u, u = ((w.alloc (.cells #[.string name, .slice a N c, .int .i64 auto] 57)).alloc (.cells #[.string ⟨#[]⟩, .slice none 0 0, .int .i64 0] 26)) := ⟨_, rfl⟩
 rw [← hwa] at S1
 go_enter Try.func37, Try.ntmps37
 go_upto_region 1 with fail
 rw [← hwa]
 clear hwa
 obtain ⟨f0, f1, f2⟩ := Bag.cs3 S1.out 0 rfl
 obtain ⟨f3, f4, f5⟩ := Bag.cs3 S1.out 1 rfl
 go_upto_region 2 with fail
 clear f0 f1 f2 f3 f4 f5
 have S2 := Lib.hid (show Sl.Sep w _ [_, _, _] from L4.push_box S1.out 26 #[.string ⟨#[]⟩, .slice none 0 0, .int .i64 0] wa.heap.size rfl)
 clear S1
 obtain ⟨g1, hg⟩ : ∃ g', g' = wa.heap.size := ⟨_, rfl⟩
 rw [← hg] at S2 ⊢
 clear hg
 generalize wa.alloc (.cells #[.string ⟨#[]⟩, .slice none 0 0, .int .i64 0] 26) = w1 at S2 ⊢
 obtain ⟨f0, f1, f2⟩ := Bag.cs3 S2.out 0 rfl
 obtain ⟨f3, f4, f5⟩ := Bag.cs3 S2.out 1 rfl
 obtain ⟨f6, f7, f8⟩ := Bag.cs3 S2.out 2 rfl
 obtain ⟨z0, z1, z2⟩ := Bag.fs3 S2.out 2 rfl
 go_upto_region 3 with fail
 clear f0 f1 f2 f3 f4 f5 f6 f7 f8 z0 z1 z2
 have S3 := Lib.hid (show Sl.Sep w _ [_, _, L4.boxR g1 26 #[.string name, .slice none 0 0, .int .i64 0]] from L5.put_box5 (S2.out) 2 rfl 0 (.string name))
 clear S2
 obtain ⟨f0, f1, f2⟩ := Bag.cs3 S3.out 0 rfl
 obtain ⟨f3, f4, f5⟩ := Bag.cs3 S3.out 1 rfl
 obtain ⟨f6, f7, f8⟩ := Bag.cs3 S3.out 2 rfl
 go_wp2_with fail
 go_at_call 116
 refine (HTI.out _ S3.out.old).mono ?_
 rintro e w2 ⟨a1, c1, ys, rfl, hcon, ho, hb⟩
 clear f0 f1 f2 f3 f4 f5 f6 f7 f8
 have S4 := Lib.hid (show Sl.Sep w _ [_, _, _, Bag.bag (rowI a1 c1 ys :: rowsI ys)] from Bag.push_bag S3.out hb ho)
 clear S3
 clear hb ho
 have HCON := Lib.hid hcon
 clear hcon
 obtain ⟨f0, f1, f2⟩ := Bag.cs3 S4.out 0 rfl
 obtain ⟨f3, f4, f5⟩ := Bag.cs3 S4.out 1 rfl
 obtain ⟨f6, f7, f8⟩ := Bag.cs3 S4.out 2 rfl
 obtain ⟨z0, z1, z2⟩ := Bag.fs3 S4.out 2 rfl
 go_upto_region 4 with fail
 clear f0 f1 f2 f3 f4 f5 f6 f7 f8 z0 z1 z2
 have S5 := Lib.hid (show Sl.Sep w _ [_, _, L4.boxR g1 26 #[.string name, .slice a1 ys.length c1, .int .i64 0], _] from L5.put_box5 (S4.out) 2 rfl 1 (.slice a1 ys.length c1))
 clear S4
 obtain ⟨f0, f1, f2⟩ := Bag.cs3 S5.out 0 rfl
 obtain ⟨f3, f4, f5⟩ := Bag.cs3 S5.out 1 rfl
 obtain ⟨f6, f7, f8⟩ := Bag.cs3 S5.out 2 rfl
 obtain ⟨z0, z1, z2⟩ := Bag.fs3 S5.out 2 rfl
 go_upto_region 5 with fail
 clear f0 f1 f2 f3 f4 f5 f6 f7 f8 z0 z1 z2
 have S6 := Lib.hid (show Sl.Sep w _ [_, _, L4.boxR g1 26 #[.string name, .slice a1 ys.length c1, .int .i64 auto], _] from L5.put_box5 (S5.out) 2 rfl 2 (.int .i64 auto))
 clear S5
 obtain ⟨f0, f1, f2⟩ := Bag.cs3 S6.out 0 rfl
 obtain ⟨f3, f4, f5⟩ := Bag.cs3 S6.out 1 rfl
 obtain ⟨f6, f7, f8⟩ := Bag.cs3 S6.out 2 rfl
 obtain ⟨z0, z1, z2⟩ := Bag.fs3 S6.out 1 rfl
 go_wp2_with fail
 clear f0 f1 f2 f3 f4 f5 f6 f7 f8 z0 z1 z2
 have S7 := Lib.hid (show Sl.Sep w _ [_, L4.boxR (w.heap.size + 1) 26 #[.string name, .slice a1 ys.length c1, .int .i64 auto], _, _] from L5.put_box5 (L5.put_box5 (L5.put_box5 (S6.out) 1 rfl 0 (.string name)) 1 rfl 1 (.slice a1 ys.length c1)) 1 rfl 2 (.int .i64 auto))
 clear S6
 obtain ⟨f0, f1, f2⟩ := Bag.cs3 S7.out 1 rfl
 refine bodyPost_ret (v := .agg #[.string name, .slice a1 ys.length c1, .int .i64 auto]) (by simp [results, Try.results37, go_sem, *]) rfl ?_
 exact ⟨⟨name, a1, c1, ys, auto⟩, rfl, by unfold LS.con; dsimp only; rw [HCON.out], Bag.bag_from S7.out 3 rfl, S7.out.old⟩
def RoomI (x : It) (u : Int) : Prop := -1 ≤ u ∧ u ≤ 1048576 ∧ (0 ≤ u → FitI x)
def RoomX (xs : List It) (u : Int) : Prop := -1 ≤ u ∧ u ≤ 1048576 ∧ (0 ≤ u → xs.length ≤ 1048576 ∧ ∀ x ∈ xs, FitI x)
def RoomS (s : S6) (u : Int) : Prop := -1 ≤ u ∧ u ≤ 1048576 ∧ (0 ≤ u → FitS s)
set_option maxHeartbeats 2000000 in
theorem szItem_any (kd n : Int) (s : ByteArray) (a : Option Addr) (c : Nat) (l : List F) (q : Int) (hw : WideI ⟨⟨kd, n, s⟩, l⟩) (hq0 : -1 ≤ q) (hq1 : q ≤ 1048576) (w : World) (hr : Reads w w.heap.size a (cellsF l)) :
  Calls Try.prog 179 #[.agg #[.int .i64 kd, .int .i64 n, .string s, .slice a l.length c], .int .i64 q] w fun e w' => ∃ u, e = .returned (.int .i64 u) ∧ RoomI ⟨⟨kd, n, s⟩, l⟩ u ∧ Below w.heap.size w w' := by
 have HSK := Lib.hid (fun w' => L4.szKey_any ⟨kd, n, s⟩ q (show s.size ≤ _ from hw.text) hq0 hq1 w')
 have HSR := Lib.hid (fun (m : Int) (h0 : -1 ≤ m) (h1 : m ≤ 1048576) w' (h : Below w.heap.size w w') => L5.szRecord_any a c l m hw.fields hw.len h0 h1 w' ((hr.below h).more h.size))
 unfold L4.K.v at HSK
 obtain ⟨m, hm⟩ : ∃ m, L4.left q s = m := ⟨_, rfl⟩
 have hmr := L4.left_range q s hq1
 have HMS := Lib.hid (fun h : ¬ m < 0 => L4.left_small (n := q) (s := s) (by rw [hm]; exact h))
 rw [hm] at hmr
 dsimp only at HSK
 rw [hm] at HSK
 obtain ⟨hm0, hm1⟩ := hmr
 obtain ⟨N, hN⟩ : ∃ n, n = l.length := ⟨_, rfl⟩
 rw [← hN] at HSR ⊢
 clear hN hr hm hw
 have S1 := Lib.hid (show Sl.Sep w _ [_] from L4.push_box (Sl.Sep.start w) 198 #[.int .i64 kd, .int .i64 n, .string s, .slice a N c] (w.heap.size) (by simp))
 obtain ⟨wa, hwa⟩ : ∃ u, u = (w.alloc (.cells #[.int .i64 kd, .int .i64 n, .string s, .slice a N c] 198)) := ⟨_, rfl⟩
 rw [← hwa] at S1
 go_enter Try.func179, Try.ntmps179
 go_upto_region 1 with fail
 rw [← hwa]
 clear hwa
 obtain ⟨f0, f1, f2, f3⟩ := Bag.cs4 S1.out 0 rfl
 go_wp2_with fail
 go_at_call 35
 refine (HSK.out _).mono ?_
 rintro e w1 ⟨rfl, hb⟩
 clear f0 f1 f2 f3
 have S2 := Lib.hid (S1.out.keep hb)
 clear S1
 clear hb
 obtain ⟨f0, f1, f2, f3⟩ := Bag.cs4 S2.out 0 rfl
 by_cases hneg : m < 0
 ·
  skip
  go_wp2_with fail
  go_ret
  exact ⟨-1, rfl, ⟨by omega, by omega, fun h => absurd h (by omega)⟩, S2.out.old⟩
 ·
  skip
  go_wp2_with fail
  go_at_call 36
  refine (HSR.out m (by omega) hm1 _ S2.out.old).mono ?_
  rintro e w2 ⟨u, rfl, ro, hb⟩
  clear f0 f1 f2 f3
  have S3 := Lib.hid (S2.out.keep hb)
  clear S2
  clear hb
  obtain ⟨f0, f1, f2, f3⟩ := Bag.cs4 S3.out 0 rfl
  have HRO := Lib.hid ro
  obtain ⟨hu0, hu1, -⟩ := ro
  by_cases hneg2 : u < 0
  ·
   skip
   go_wp2_with fail
   go_ret
   exact ⟨-1, rfl, ⟨by omega, by omega, fun h => absurd h (by omega)⟩, S3.out.old⟩
  ·
   skip
   go_wp2_with fail
   go_ret
   obtain ⟨h1, h2⟩ := HRO.out.out (by omega) hm1
   have h3 := HMS.out (by omega)
   exact ⟨u, rfl, ⟨hu0, hu1, fun _ => ⟨by show s.size ≤ _; omega, h1, h2⟩⟩, S3.out.old⟩
set_option maxHeartbeats 4000000 in
theorem szItemS_any (a : Option Addr) (c : Nat) (xs : List LI) (q : Int) (hw : ∀ x ∈ conI xs, WideI x) (hm : xs.length ≤ maxLen) (hq0 : -1 ≤ q) (hq1 : q ≤ 1048576) (w : World) (hr : Reads w w.heap.size a (cellsI xs)) (hx : RowsRd w w.heap.size (rowsI xs)) :
  Calls Try.prog 114 #[.slice a xs.length c, .int .i64 q] w fun e w' => ∃ u, e = .returned (.int .i64 u) ∧ RoomX (conI xs) u ∧ Below w.heap.size w w' := by
 have HR := Lib.hid (fun w' (h : Below w.heap.size w w') => hr.below h)
 have HX := Lib.hid (fun w' (h : Below w.heap.size w w') => (hx.below h).more h.size)
 have HW := Lib.hid hw
 obtain ⟨N, hN⟩ : ∃ n, n = xs.length := ⟨_, rfl⟩
 rw [← hN] at hm ⊢
 have HN := Lib.hid hN
 have hm' : (N : Int) ≤ 9223372036854775807 := by unfold maxLen at hm; omega
 clear hN hr hx hw hm
 have S1 := Lib.hid (show Sl.Sep w w [] from Sl.Sep.start w)
 by_cases hneg : q - (N : Int) < 0
 ·
  skip
  go_enter Try.func114, Try.ntmps114
  go_wp2_with fail
  go_ret
  exact ⟨-1, rfl, ⟨by omega, by omega, fun h => absurd h (by omega)⟩, Below.refl _ _⟩
 ·
  skip
  go_enter Try.func114, Try.ntmps114
  go_wp2_with fail
  go_loopw [1, 5] (fun lv i wr => ∃ (k : Nat) (m : Int), k ≤ N ∧ i = .int .i64 k ∧ lv = .int .i64 m ∧ 0 ≤ m ∧ m ≤ 1048576 ∧ Hid ((∀ j (hj : j < (conI xs).length), j < k → FitI (conI xs)[j]) ∧ Sl.Sep w wr [])) (fun _ i _ => N - (intOf i).toNat)
  case atStart => exact ⟨0, q - N, Nat.zero_le _, rfl, rfl, by omega, by omega, And.intro (fun j hj h => absurd h (by omega)) S1.out⟩
  case round =>
   obtain ⟨k, m, hk, rfl, rfl, hm0, hm1, hrel⟩ := hrel
   have HA := Lib.hid hrel.out.1
   have S2 := Lib.hid hrel.out.2
   clear hrel S1
   by_cases hlt : (k : Int) < (N : Int)
   ·
    skip
    have hkl : k < xs.length := by have := HN.out; omega
    obtain ⟨ad, x, rfl, hx⟩ := readsI_some (HR.out _ S2.out.old) k hkl
    have HC := Lib.hid (show (conI xs)[k]? = some x.con from by unfold conI; rw [List.getElem?_map, hx]; rfl)
    obtain ⟨⟨kd, n, t⟩, ia, ic, l⟩ := x
    have HK := Lib.hid (fun w' (h : Below w.heap.size w w') => readsI_at (HR.out _ h) k _ hx)
    try dsimp only at HK
    have HSI := Lib.hid (fun w' (h : Below w.heap.size w w') => szItem_any kd n t ia ic l m (HW.out _ (List.mem_of_getElem? HC.out)) (by omega) hm1 w' (((HX.out _ h).at_ (rowsI_mem hx)).reads))
    try dsimp only at HSI
    clear hx
    obtain ⟨f0, f1, f2, f3⟩ := HK.out _ S2.out.old
    go_wp2_with fail
    go_at_call 179
    refine (HSI.out _ S2.out.old).mono ?_
    rintro e w1 ⟨u, rfl, ro, hb⟩
    clear f0 f1 f2 f3
    have S3 := Lib.hid (S2.out.keep hb)
    clear S2
    clear hb
    have HRO := Lib.hid ro
    obtain ⟨hu0, hu1, -⟩ := ro
    by_cases h0 : u < 0
    ·
     skip
     go_wp2_with fail
     go_ret
     exact ⟨-1, rfl, ⟨by omega, by omega, fun h => absurd h (by omega)⟩, S3.out.old⟩
    ·
     skip
     go_wp2_with fail
     go_roundw
     case rel => exact ⟨k + 1, u, by omega, by go_num, rfl, by omega, hu1, And.intro (fun j hj h => by
      by_cases e : j < k
      ·
       exact HA.out j hj e
      ·
       obtain rfl : j = k := by omega
       rw [(List.getElem?_eq_some_iff.1 HC.out).2]; exact HRO.out.2.2 (by omega)) S3.out⟩
     case measure => simp [intOf]; omega
   ·
    skip
    go_wp2_with fail
    go_ret
    exact ⟨m, rfl, ⟨by omega, hm1, fun _ => ⟨by rw [conI_length, ← HN.out]; omega, fun x hx => by obtain ⟨j, hj, rfl⟩ := List.getElem_of_mem hx; exact HA.out j hj (by rw [conI_length] at hj; have := HN.out; omega)⟩⟩, S2.out.old⟩
set_option maxHeartbeats 4000000 in
theorem szStore_any (y : LS) (q : Int) (hw : WideS y.con) (hq0 : -1 ≤ q) (hq1 : q ≤ 1048576) (w : World) (hr : RowsRd w w.heap.size y.rows) :
  Calls Try.prog 34 #[y.v, .int .i64 q] w fun e w' => ∃ u, e = .returned (.int .i64 u) ∧ RoomS y.con u ∧ Below w.heap.size w w' := by
 have HSI := Lib.hid (fun (m : Int) (h0 : -1 ≤ m) (h1 : m ≤ 1048576) w' (h : Below w.heap.size w w') => szItemS_any y.a y.c y.xs m hw.items (by have h1 := hw.len; simpa [LS.con] using h1) h0 h1 w' (((LS.outer hr).below h).more h.size) (((LS.inner hr).below h).more h.size))
 obtain ⟨name, a, c, xs, auto⟩ := y
 unfold LS.v LS.cells LS.con
 have hs : (name.size : Int) ≤ 9223372036854775807 := by have h : name.size ≤ maxLen := hw.name; unfold maxLen at h; omega
 dsimp only at HSI ⊢
 obtain ⟨N, hN⟩ : ∃ n, n = xs.length := ⟨_, rfl⟩
 rw [← hN] at HSI ⊢
 clear hN hr hw
 have S1 := Lib.hid (show Sl.Sep w _ [_] from L4.push_box (Sl.Sep.start w) 57 #[.string name, .slice a N c, .int .i64 auto] (w.heap.size) (by simp))
 obtain ⟨wa, hwa⟩ : ∃ u, u = (w.alloc (.cells #[.string name, .slice a N c, .int .i64 auto] 57)) := ⟨_, rfl⟩
 rw [← hwa] at S1
 go_enter Try.func34, Try.ntmps34
 go_upto_region 1 with fail
 rw [← hwa]
 clear hwa
 obtain ⟨f0, f1, f2⟩ := Bag.cs3 S1.out 0 rfl
 by_cases hneg : q - (name.size : Int) < 0
 ·
  skip
  go_wp2_with fail
  go_ret
  exact ⟨-1, rfl, ⟨by omega, by omega, fun h => absurd h (by omega)⟩, S1.out.old⟩
 ·
  skip
  go_wp2_with fail
  go_at_call 114
  refine (HSI.out (q - name.size) (by omega) (by omega) _ S1.out.old).mono ?_
  rintro e w1 ⟨u, rfl, ro, hb⟩
  clear f0 f1 f2
  have S2 := Lib.hid (S1.out.keep hb)
  clear S1
  clear hb
  obtain ⟨f0, f1, f2⟩ := Bag.cs3 S2.out 0 rfl
  have HRO := Lib.hid ro
  obtain ⟨hu0, hu1, -⟩ := ro
  by_cases hneg2 : u < 0
  ·
   skip
   go_wp2_with fail
   go_ret
   exact ⟨-1, rfl, ⟨by omega, by omega, fun h => absurd h (by omega)⟩, S2.out.old⟩
  ·
   skip
   go_wp2_with fail
   go_ret
   obtain ⟨h1, h2⟩ := HRO.out.2.2 (by omega)
   exact ⟨u, rfl, ⟨hu0, hu1, fun _ => ⟨by show name.size ≤ _; omega, h1, h2⟩⟩, S2.out.old⟩
end Go.Proofs.Ytojcdmgcbgpdmaa.L6

