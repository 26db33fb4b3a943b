/-
  What the law FnDeletions needs, laid by my program lawpack.py, part 1: the texts Reg, Tk, Frame, L1Base, Mem, Args, Sl, Ex, L2Num, L2App, Law, Draw1, Sd, Sv, L4Num, L1Num, L4Par, L2Rd, L2Rd2, L4Sp, L4Cmp, L4Law, L4Open, Bag, L5Num, L5Sp, L5Rec, L5Eq, L5Rem, L3Num, L3Hash, L3Fn, L5Enc, L5Eql, L4Cod, L6Num, L6Pm, L6Lc, one behind the other; each begins with its own words.
-/
import Derived.Test.YtojcdmgcbgpdmaaRows
import Derived.Deep.RegionHeld3
import Derived.WalkKit
import Derived.ProofKit
import Derived.OpenShut
import Derived.Below
import Derived.Carry
import Derived.ChangeSame
import Derived.BigQuiet
import Derived.Deep.QuietTactic
import Derived.Lib.Hide
import Derived.Laws.OwnMore
import Derived.Deep.Draws
import Derived.Laws.Rows
import Derived.Lib.BufferOwn
import Derived.Lib.SmallJoins
import Derived.Laws.Bits128
import Derived.Laws.BitsLemmas
import Derived.ChangeSlices
import Derived.SizedLaws
import Derived.OwnWalk
import Derived.Maps.AppendAt
import Derived.Laws.AppendOwnNone
import Derived.LoopTactic
import Derived.IntWalk
import Derived.Outline
import Derived.Laws.BitsAllLaws
import Derived.RegionTactic
import Derived.Lib.AtoiAllCases
import GoSem.Op.String
import Derived.Lib.ItoaNum
import Derived.Lib.ItoaLen
import Derived.Lib.AtoiTie
import Derived.Laws.BytesArg
import Derived.ChangeArms
import Derived.Deep.DeepCutAuto
import Derived.Deep.RegionLaw
import Derived.Lib.ConvBytes
import Derived.Laws.StructEq
import Derived.Lib.AppendZerosOnto
import Derived.Laws.IdiomCopy
import Derived.Deep.AppendSrc
import Derived.DataReads
import Derived.WalkLawsBesides
import Derived.WalkSpells
import Derived.Lib.Bytealg
import Derived.Lib.AppendStr
import Derived.ChangeKeysEq
import Derived.Deep.RegionWith
import Derived.Deep.AppendLies
set_option linter.unusedSimpArgs false
set_option linter.unusedVariables false
set_option maxRecDepth 100000
namespace Go.Proofs.Ytojcdmgcbgpdmaa.Args
end Go.Proofs.Ytojcdmgcbgpdmaa.Args
namespace Go.Proofs.Ytojcdmgcbgpdmaa.Bag
end Go.Proofs.Ytojcdmgcbgpdmaa.Bag
namespace Go.Proofs.Ytojcdmgcbgpdmaa.Closed
end Go.Proofs.Ytojcdmgcbgpdmaa.Closed
namespace Go.Proofs.Ytojcdmgcbgpdmaa.Draw
end Go.Proofs.Ytojcdmgcbgpdmaa.Draw
namespace Go.Proofs.Ytojcdmgcbgpdmaa.Ex
end Go.Proofs.Ytojcdmgcbgpdmaa.Ex
namespace Go.Proofs.Ytojcdmgcbgpdmaa.Frame
end Go.Proofs.Ytojcdmgcbgpdmaa.Frame
namespace Go.Proofs.Ytojcdmgcbgpdmaa.L1
end Go.Proofs.Ytojcdmgcbgpdmaa.L1
namespace Go.Proofs.Ytojcdmgcbgpdmaa.L2
end Go.Proofs.Ytojcdmgcbgpdmaa.L2
namespace Go.Proofs.Ytojcdmgcbgpdmaa.L3
end Go.Proofs.Ytojcdmgcbgpdmaa.L3
namespace Go.Proofs.Ytojcdmgcbgpdmaa.L4
end Go.Proofs.Ytojcdmgcbgpdmaa.L4
namespace Go.Proofs.Ytojcdmgcbgpdmaa.L5
end Go.Proofs.Ytojcdmgcbgpdmaa.L5
namespace Go.Proofs.Ytojcdmgcbgpdmaa.L6
end Go.Proofs.Ytojcdmgcbgpdmaa.L6
namespace Go.Proofs.Ytojcdmgcbgpdmaa.L7
end Go.Proofs.Ytojcdmgcbgpdmaa.L7
namespace Go.Proofs.Ytojcdmgcbgpdmaa.Law
end Go.Proofs.Ytojcdmgcbgpdmaa.Law
namespace Go.Proofs.Ytojcdmgcbgpdmaa.Mem
end Go.Proofs.Ytojcdmgcbgpdmaa.Mem
namespace Go.Proofs.Ytojcdmgcbgpdmaa.Reg
end Go.Proofs.Ytojcdmgcbgpdmaa.Reg
namespace Go.Proofs.Ytojcdmgcbgpdmaa.Run
end Go.Proofs.Ytojcdmgcbgpdmaa.Run
namespace Go.Proofs.Ytojcdmgcbgpdmaa.Sd
end Go.Proofs.Ytojcdmgcbgpdmaa.Sd
namespace Go.Proofs.Ytojcdmgcbgpdmaa.Sl
end Go.Proofs.Ytojcdmgcbgpdmaa.Sl
namespace Go.Proofs.Ytojcdmgcbgpdmaa.Sv
end Go.Proofs.Ytojcdmgcbgpdmaa.Sv
namespace Go.Proofs.Ytojcdmgcbgpdmaa.V
end Go.Proofs.Ytojcdmgcbgpdmaa.V
namespace Go.Proofs.Ytojcdmgcbgpdmaa.lawFnDeletions
end Go.Proofs.Ytojcdmgcbgpdmaa.lawFnDeletions
namespace Go.Proofs.Ytojcdmgcbgpdmaa.Reg
def nthO {α : Type} : Nat → List α → Option α
 | _, [] => none
 | 0, x :: _ => some x
 | i + 1, _ :: l => nthO i l
theorem nthO_eq {α : Type} : ∀ (l : List α) (i : Nat), l.toArray[i]? = nthO i l
 | [], i => by simp [nthO]
 | x :: l, 0 => by simp [nthO]
 | x :: l, i + 1 => by
  have := nthO_eq l i
  simp only [List.getElem?_toArray, List.getElem?_cons_succ] at this ⊢
  exact this
section
variable {P : Program} {l : List Oper} {Q : Exit → Act → World → Prop} {md : Region.Mode} {S : World → Prop} {fuel i : Nat} {oi : Oper} {v : Value} {listed : Array Bool} {a : Act} {w : World}
theorem take_op (hi : nthO i l = some oi) (hs : Region.noSelect l.toArray = true) (hf : Region.free md l.toArray listed i = true) (hr : (Region.ready md l.toArray listed).contains i = true)
  (hQ : ∀ c a w, Q (.panic c) (a.put oi.dst v) w → Q (.panic c) a w) (hw : Region.wanted oi (yielded l.toArray a.tmps) = true) (hy : ∀ w, S w → (execOp a.eval oi).run P w = .ok (.value v) w) (hS : S w)
  (h : wpAnyH P md l.toArray Q S fuel (listed.setIfInBounds i true) (a.put oi.dst v) w) : wpAnyH P md l.toArray Q S (fuel + 1) listed a w :=
 wpAnyH_take (by rw [nthO_eq]; exact hi) hs hf hr hQ (.inl ⟨hw, hy⟩) hS h
theorem skip_op (hi : nthO i l = some oi) (hs : Region.noSelect l.toArray = true) (hf : Region.free md l.toArray listed i = true) (hr : (Region.ready md l.toArray listed).contains i = true)
  (hQ : ∀ c a w, Q (.panic c) (a.put oi.dst undef) w → Q (.panic c) a w) (hw : Region.wanted oi (yielded l.toArray a.tmps) = false) (hS : S w)
  (h : wpAnyH P md l.toArray Q S fuel (listed.setIfInBounds i true) (a.put oi.dst undef) w) : wpAnyH P md l.toArray Q S (fuel + 1) listed a w :=
 wpAnyH_take (by rw [nthO_eq]; exact hi) hs hf hr hQ (.inr ⟨hw, rfl⟩) hS h
theorem one_op (hi : nthO i l = some oi) (hr : Region.ready md l.toArray listed = [i])
  (h : ∀ K' : Act → World → Prop, Shut (∀ a w, S w → (S w → wpAnyH P md l.toArray Q S fuel (listed.setIfInBounds i true) a w) → K' a w) → if Region.wanted oi (yielded l.toArray a.tmps) = true then Oper.wp P oi a w K' Q else K' (a.put oi.dst undef) w) :
  wpAnyH P md l.toArray Q S (fuel + 1) listed a w :=
 wpAnyH_ready hr (by simp) (AllReadyH.cons (by rw [nthO_eq]; exact hi) h AllReadyH.nil)
theorem cons_op {rs : List Nat} (hi : nthO i l = some oi)
  (h : ∀ K' : Act → World → Prop, Shut (∀ a w, S w → (S w → wpAnyH P md l.toArray Q S fuel (listed.setIfInBounds i true) a w) → K' a w) → if Region.wanted oi (yielded l.toArray a.tmps) = true then Oper.wp P oi a w K' Q else K' (a.put oi.dst undef) w)
  (hs : AllReadyH P md l.toArray Q S fuel listed a w rs) : AllReadyH P md l.toArray Q S fuel listed a w (i :: rs) := AllReadyH.cons (by rw [nthO_eq]; exact hi) h hs
theorem skip_one (hi : nthO i l = some oi) (hr : Region.ready md l.toArray listed = [i]) (hw : Region.wanted oi (yielded l.toArray a.tmps) = false) (hS : S w)
  (h : wpAnyH P md l.toArray Q S fuel (listed.setIfInBounds i true) (a.put oi.dst undef) w) : wpAnyH P md l.toArray Q S (fuel + 1) listed a w :=
 wpAnyH_all hr (by simp) (fun j hj => by
  obtain rfl := List.mem_singleton.1 hj
  unfold wpOp
  have hi' : l.toArray[j]? = some oi := by rw [nthO_eq]; exact hi
  rw [hi']
  simp only [hw]
  exact ⟨hS, h⟩)
end
end Go.Proofs.Ytojcdmgcbgpdmaa.Reg

set_option linter.unusedSimpArgs false
namespace Go.Proofs.Ytojcdmgcbgpdmaa
def Reg.okOp (md : Region.Mode) (l : List Oper) (listed : Array Bool) (i : Nat) : Bool := Region.noSelect l.toArray && (Region.free md l.toArray listed i && (Region.ready md l.toArray listed).contains i)
theorem zp0 (a : Act) (i : Nat) (v : Value) : a.put (some i) v = { a with tmps := a.tmps.setIfInBounds i v } := rfl
theorem zp1 {α : Type} (l : List α) (i : Nat) (x : α) : l.toArray.setIfInBounds i x = (l.set i x).toArray := List.setIfInBounds_toArray ..
theorem zp2 {α : Type} (l : List α) (x y : α) : (x :: l).set 0 y = y :: l := rfl
theorem zp3 {α : Type} (l : List α) (x y : α) (i : Nat) : (x :: l).set (i + 1) y = x :: l.set i y := rfl
theorem zp4 (a : Act) (v : Value) : a.put none v = a := rfl
section
variable {P : Program} {l : List Oper} {Q : Exit → Act → World → Prop} {md : Region.Mode} {S : World → Prop} {fuel : Nat} {oi : Oper} {v : Value} {listed : Array Bool} {a : Act} {w : World}
open Reg
theorem Reg.okOp_spec {i : Nat} (h : okOp md l listed i = true) : Region.noSelect l.toArray = true ∧ Region.free md l.toArray listed i = true ∧ (Region.ready md l.toArray listed).contains i = true := by
 unfold okOp at h
 simp only [Bool.and_eq_true] at h
 exact h
theorem tk (i : Nat) (hi : nthO i l = some oi) (h : wpAnyH P md l.toArray Q S fuel (listed.setIfInBounds i true) (a.put oi.dst v) w)
  (hk : okOp md l listed i = true := by kernel_rfl) (hw : Region.wanted oi (yielded l.toArray a.tmps) = true := by rfl)
  (hy : ∀ w, S w → (execOp a.eval oi).run P w = .ok (.value v) w := by (intro w hSw; (try dsimp only at hSw); go_simp; try with_reducible rfl))
  (hQ : ∀ c a w, Q (.panic c) (a.put oi.dst v) w → Q (.panic c) a w := by exact fun _ _ _ h => h) (hS : S w := by assumption) :
  wpAnyH P md l.toArray Q S (fuel + 1) listed a w :=
 take_op hi (okOp_spec hk).1 (okOp_spec hk).2.1 (okOp_spec hk).2.2 hQ hw hy hS h
theorem sk (i : Nat) (hi : nthO i l = some oi) (h : wpAnyH P md l.toArray Q S fuel (listed.setIfInBounds i true) (a.put oi.dst undef) w)
  (hk : okOp md l listed i = true := by kernel_rfl) (hw : Region.wanted oi (yielded l.toArray a.tmps) = false := by rfl)
  (hQ : ∀ c a w, Q (.panic c) (a.put oi.dst undef) w → Q (.panic c) a w := by exact fun _ _ _ h => h) (hS : S w := by assumption) :
  wpAnyH P md l.toArray Q S (fuel + 1) listed a w :=
 skip_op hi (okOp_spec hk).1 (okOp_spec hk).2.1 (okOp_spec hk).2.2 hQ hw hS h
end
end Go.Proofs.Ytojcdmgcbgpdmaa

namespace Go.Proofs.Ytojcdmgcbgpdmaa.Frame
open Go.ChangeShapes Go.WideShapes Go.ChangeAt Go.RowKit

section
variable {H : Type} {enc : TypeId × Value → H} {P : Program}

theorem trodAll_below (hl : laidOutB P = true) {W W' : World} (hb : Below W.heap.size W W') (sp : Nat → Bool) :
  ∀ {ts : List TypeId} {vs : List Value} {ds : List (DataW H)} {ps : List MemPlace}, (ts.all fun t => P.readableRec t && decide (t < P.types.size)) = true →
  DataW.TrodAll enc P W 0 (fun _ => true) true ts vs ds ps → (∀ x ∈ ps, x.block < W.heap.size) → (∀ p ∈ ps, sp p.block = true) → DataW.TrodAll enc P W' 0 sp true ts vs ds ps
 | [], vs, ds, ps, _, h, _, _ => by
  obtain ⟨rfl, rfl, rfl⟩ := trodAll_nil h
  exact trodAll_mk0
 | t :: ts, vs, ds, ps, hr, h, hlt, hs => by
  simp only [List.all_cons, Bool.and_eq_true, decide_eq_true_eq] at hr
  obtain ⟨v, vs', d, ds', p, q, rfl, rfl, rfl, h0, hr0⟩ := trodAll_cons h
  refine trodAll_cons_mk (WideElems.Trod_stays hl hr.1.1 hr.1.2 h0 (fun x hx => hb.same (hlt x (by simp [hx]))) (fun x hx => hs x (by simp [hx]))) ?_
  exact trodAll_below hl hb sp hr.2 hr0 (fun x hx => hlt x (by simp [hx])) (fun x hx => hs x (by simp [hx]))

theorem law_post {f : Func} {s : ChangeSpec} {apart fresh handsOn : Bool} {W W' : World} {args : Array Value} {ds : List (DataW H)} {p : List MemPlace} {tb : TypeId}
  (hvars : s.vars = []) (hW : DataW.Whole enc P f.params.toList s.vars apart W args.toList ds [] p)
  (hA : DataW.TrodAll enc P W 0 (fun _ => true) true f.params.toList args.toList ds p)
  (hs1 : (s.fn H (ds ++ [])).results = [.lit (.bool true)]) (hs2 : (s.fn H (ds ++ [])).args = ds) (hs3 : (s.fn H (ds ++ [])).vars = [])
  (hl : laidOutB P = true) (hr : (f.params.toList.all fun t => P.readableRec t && decide (t < P.types.size)) = true)
  (htb : f.resultTypes = #[tb]) (hb2 : P.underlying tb = some .bool) (hb : Below W.heap.size W W') :
  s.post enc P f apart fresh handsOn false W args (.bool true) W' := by
 have hlt : ∀ x ∈ p, x.block < W.heap.size := fun x hx => hW.lt x hx
 refine ⟨ds, [], p, [], p, [], hW, ?_, ?_, ?_, hb.frame _, fun h => by cases h⟩
 ·
  rw [hs1, htb]; exact trodAll_mk1 (shut_bool hb2 _)
 ·
  rw [hs2]; exact trodAll_below hl hb _ hr hA hlt (fun x hx => by simpa using hlt x hx)
 ·
  rw [hs3, hvars]; rfl
end
end Go.Proofs.Ytojcdmgcbgpdmaa.Frame

namespace Go.Proofs.Ytojcdmgcbgpdmaa.L1
open Go.ChangeShapes Go.WideShapes Go.ChangeAt Go.RowKit

def inB (n lo hi : Int) : Bool := decide (lo ≤ n) && decide (n ≤ hi)
theorem inB_true {n lo hi : Int} : inB n lo hi = true ↔ lo ≤ n ∧ n ≤ hi := by unfold inB; simp
theorem inB_false {n lo hi : Int} : inB n lo hi = false ↔ ¬ (lo ≤ n ∧ n ≤ hi) := by
  rw [← inB_true]; simp

theorem ret_bool {a b : Bool} (h : a = b) : Ending.returned (.bool a) = .returned (.bool b) := by rw [h]
theorem inRange_any (n lo hi : Int) (w : World) :
    Calls Try.prog 98 #[.int .i64 n, .int .i64 lo, .int .i64 hi] w fun e w' => e = .returned (.bool (inB n lo hi)) ∧ w = w' := by
  by_cases h1 : lo ≤ n <;> by_cases h2 : n ≤ hi <;>
    (go_enter Try.func98, Try.ntmps98
     go_wp2
     go_ret
     exact ⟨ret_bool (by unfold inB; simp [h1, h2]), rfl⟩)

theorem l1In_any (n lo hi : Int) (w : World) :
    Calls Try.prog 91 #[.int .i64 n, .int .i64 lo, .int .i64 hi] w fun e w' => e = .returned (.bool (inB n lo hi)) ∧ w = w' := by
  by_cases h1 : lo ≤ n <;> by_cases h2 : n ≤ hi <;>
    (go_enter Try.func91, Try.ntmps91
     go_wp2
     go_ret
     exact ⟨ret_bool (by unfold inB; simp [h1, h2]), rfl⟩)


end Go.Proofs.Ytojcdmgcbgpdmaa.L1

namespace Go.Proofs.Ytojcdmgcbgpdmaa.Mem
open Go.RowKit

def Row (w : World) (g : Nat) (t : TypeId) (cs : Array Value) : Prop := w.heap[g]? = some (.cells cs t (0, 0))

section
variable {w w' : World} {g : Nat} {t : TypeId} {cs : Array Value}
theorem Row.inside (h : Row w g t cs) : g < w.heap.size := (Array.getElem?_eq_some_iff.1 h).1
theorem Row.cell (h : Row w g t cs) (i : Nat) : w.cell? ⟨g, i, none⟩ = cs[i]? := cell_of_row w g i cs t (0, 0) h
theorem Row.free (h : Row w g t cs) (i : Nat) : w.frozen? ⟨g, i, none⟩ = false := by
 have h' : w.heap[g]? = some (.cells cs t (0, 0)) := h
 simp [World.frozen?, h']
theorem Row.made (w : World) (t : TypeId) (cs : Array Value) : Row (w.alloc (.cells cs t)) w.heap.size t cs := heap_alloc_new w _
theorem Row.more (h : Row w g t cs) (o : Obj) : Row (w.alloc o) g t cs := (Below.heap_alloc w o g h.inside).trans h
theorem Row.draws (h : Row w g t cs) (n : Nat) : Row (w.drewN n) g t cs := h
theorem Row.put (h : Row w g t cs) (i : Nat) (u : Value) : Row (w.setCell ⟨g, i, none⟩ u) g t (cs.setIfInBounds i u) := by
 have h' : w.heap[g]? = some (.cells cs t (0, 0)) := h
 show (w.setCell ⟨g, i, none⟩ u).heap[g]? = _
 simp [World.setCell, Array.getElem?_modify, h']
theorem Row.grown {row : Option Nat} (h : Row w g t cs) (hb : w.grownBy w' row) (hg : some g ≠ row) : Row w' g t cs := (hb.block g h.inside hg).trans h
theorem Row.below {B : Nat} (h : Row w g t cs) (hb : Below B w w') (hg : g < B) : Row w' g t cs := (hb.block g hg).trans h
end

theorem grownBy_refl (w : World) (row : Option Nat) : w.grownBy w row := ⟨rfl, rfl, rfl, Nat.le_refl _, fun _ _ _ => rfl⟩
theorem grownBy_put (w : World) (g i : Nat) (u : Value) : w.grownBy (w.setCell ⟨g, i, none⟩ u) (some g) :=
 ⟨rfl, rfl, rfl, by simp [World.setCell], fun k _ hne => Below.heap_setCell _ _ _ _ (fun e => hne (by subst e; rfl))⟩
theorem grownBy_draws (w : World) (n : Nat) (row : Option Nat) : w.grownBy (w.drewN n) row := ⟨rfl, rfl, rfl, Nat.le_refl _, fun _ _ _ => rfl⟩
theorem grownBy_step {a w w' : World} {row : Option Nat} (h : a.grownBy w row) (k : w.grownBy w' row) : a.grownBy w' row := _root_.Go.Lib.grownBy_trans h k
theorem below_of {B : Nat} {w w' : World} {row : Option Nat} (h : w.grownBy w' row) (hB : B ≤ w.heap.size) (hr : ∀ k, row = some k → B ≤ k) : Below B w w' := (Below.refl B w).grown h hB hr

theorem add_block (a : Addr) (n : Nat) : (a.add n).block = a.block := by unfold Addr.add; split <;> rfl

theorem and_mask (n : Int) (m : Nat) (hm : m < 9223372036854775808) : 0 ≤ bits .and .i64 n m ∧ bits .and .i64 n m ≤ m := by
 have h1 : ((BitVec.ofInt 64 n).toNat &&& m) ≤ m := Nat.and_le_right
 have h2 : (m : Nat) % 2 ^ 64 = m := Nat.mod_eq_of_lt (by omega)
 have h3 : (BitVec.ofInt 64 n &&& BitVec.ofInt 64 (m : Int)).toNat = (BitVec.ofInt 64 n).toNat &&& m := by
  rw [BitVec.ofInt_natCast, BitVec.toNat_and, BitVec.toNat_ofNat, h2]
 show 0 ≤ IntKind.i64.wrap ((BitVec.ofInt 64 n &&& BitVec.ofInt 64 (m : Int)).toNat : Nat) ∧ IntKind.i64.wrap ((BitVec.ofInt 64 n &&& BitVec.ofInt 64 (m : Int)).toNat : Nat) ≤ m
 rw [h3, IntKind.wrap_i64]
 omega

def Bytes (w : World) (B : Nat) (a : Option Addr) (len : Nat) : Prop :=
 ∀ j, j < len → ∃ ad n, a = some ad ∧ ad.block < B ∧ w.cell? (ad.add j) = some (.int .u8 n) ∧ 0 ≤ n ∧ n ≤ 255

theorem Bytes.below {w w' : World} {B : Nat} {a : Option Addr} {len : Nat} (h : Bytes w B a len) (hb : Below B w w') : Bytes w' B a len := fun j hj => by
 obtain ⟨ad, n, e, hB, hc, h0, h1⟩ := h j hj
 exact ⟨ad, n, e, hB, by rw [hb.cell (by rw [add_block]; exact hB)]; exact hc, h0, h1⟩

def Cur (B : Nat) (w : World) (c : Nat) : Prop :=
 B ≤ c ∧ ∃ (a : Option Addr) (len cap i : Nat) (h : Int), Row w c 177 #[.slice a len cap, .int .i64 i, .int .i64 h] ∧ i ≤ len ∧ len ≤ 4611686018427387904 ∧ Bytes w B a len

theorem Cur.grown {B : Nat} {w w' : World} {c : Nat} {row : Option Nat} (h : Cur B w c) (hb : w.grownBy w' row) (hc : some c ≠ row) (hr : ∀ k, row = some k → B ≤ k) (hB : B ≤ w.heap.size) : Cur B w' c := by
 obtain ⟨h0, a, len, cap, i, x, h1, h2, h3, h4⟩ := h
 exact ⟨h0, a, len, cap, i, x, h1.grown hb hc, h2, h3, h4.below (below_of hb hB hr)⟩

def Drawn (B c : Nat) (w : World) (P : Int → Prop) (e : Ending) (w' : World) : Prop := ∃ n, e = .returned (.int .i64 n) ∧ P n ∧ Cur B w' c ∧ w.grownBy w' (some c)
end Go.Proofs.Ytojcdmgcbgpdmaa.Mem

namespace Go.Proofs.Ytojcdmgcbgpdmaa.Args
open Go.ChangeShapes Go.WideShapes Go.ChangeAt Go.RowKit Mem

def Holds (w : World) (B : Nat) (a : Option Addr) (l : List UInt8) : Prop :=
 ∀ j (hj : j < l.length), ∃ ad, a = some ad ∧ ad.block < B ∧ w.cell? (ad.add j) = some (.int .u8 (l[j].toNat : Int))
theorem Holds.bytes {w : World} {B : Nat} {a : Option Addr} {l : List UInt8} (h : Holds w B a l) : Bytes w B a l.length := fun j hj => by
 obtain ⟨ad, e, hb, hc⟩ := h j hj
 exact ⟨ad, _, e, hb, hc, by omega, by have := l[j].toNat_lt; omega⟩
theorem Holds.below {w w' : World} {B : Nat} {a : Option Addr} {l : List UInt8} (h : Holds w B a l) (hb : Below B w w') : Holds w' B a l := fun j hj => by
 obtain ⟨ad, e, hB, hc⟩ := h j hj
 exact ⟨ad, e, hB, by rw [hb.cell (by rw [add_block]; exact hB)]; exact hc⟩

section
variable {H : Type} {enc : TypeId × Value → H} {P : Program}

end
end Go.Proofs.Ytojcdmgcbgpdmaa.Args

namespace Go.Proofs.Ytojcdmgcbgpdmaa.Sl
open Go.ChangeShapes Go.WideShapes Go.ChangeAt Go.RowKit Mem

def Reads (w : World) (B : Nat) (a : Option Addr) (l : List Value) : Prop :=
 ∀ j (hj : j < l.length), ∃ ad, a = some ad ∧ ad.block < B ∧ w.cell? (ad.add j) = some l[j]

def ints (k : IntKind) (l : List Int) : List Value := l.map (Value.int k)
@[simp] theorem ints_length (k : IntKind) (l : List Int) : (ints k l).length = l.length := List.length_map ..
theorem ints_append (k : IntKind) (l m : List Int) : ints k (l ++ m) = ints k l ++ ints k m := List.map_append
theorem ints_get (k : IntKind) (l : List Int) (j : Nat) (h : j < l.length) : (ints k l)[j]'(by simpa using h) = .int k l[j] := List.getElem_map ..
theorem ints_one (k : IntKind) (l : List Int) : ∀ u ∈ ints k l, u.oneCell' = true := ints_oneCell k l

theorem add_add (a : Addr) (i j : Nat) : (a.add i).add j = a.add (i + j) := by
 unfold Addr.add
 by_cases hi : i = 0 <;> by_cases hj : j = 0 <;> simp [hi, hj, Nat.add_assoc]

section
variable {w w' : World} {B B' : Nat} {a : Option Addr} {l : List Value}
theorem Reads.nil : Reads w B a [] := fun _ hj => absurd hj (by simp)
theorem Reads.keep (h : Reads w B a l) (hk : ∀ p : Addr, p.block < B → w'.cell? p = w.cell? p) : Reads w' B a l := fun j hj => by
 obtain ⟨ad, e, hb, hc⟩ := h j hj
 exact ⟨ad, e, hb, (hk _ (by rw [add_block]; exact hb)).trans hc⟩
theorem Reads.below (h : Reads w B a l) (hb : Below B w w') : Reads w' B a l := h.keep fun _ hp => hb.cell hp
theorem Reads.more (h : Reads w B a l) (hB : B ≤ B') : Reads w B' a l := fun j hj => by
 obtain ⟨ad, e, hb, hc⟩ := h j hj
 exact ⟨ad, e, by omega, hc⟩
theorem Reads.at_ (h : Reads w B a l) (j : Nat) (hj : j < l.length) : ∃ ad, a = some ad ∧ ad.block < B ∧ w.cell? (ad.add j) = some l[j] := h j hj
theorem Reads.int {k : IntKind} {l : List Int} (h : Reads w B a (ints k l)) (j : Nat) (hj : j < l.length) : ∃ ad, a = some ad ∧ ad.block < B ∧ w.cell? (ad.add j) = some (.int k l[j]) := by
 obtain ⟨ad, e, hb, hc⟩ := h j (by simpa using hj)
 exact ⟨ad, e, hb, by rw [hc, ints_get k l j hj]⟩
theorem Reads.part (h : Reads w B a l) (s t m : Nat) (hst : s ≤ t) (ht : t ≤ l.length) (hm : t ≤ m) : Reads w B (if m = s then a else a.map (·.add s)) ((l.drop s).take (t - s)) := fun j hj => by
 have hj' : j < t - s := by simp at hj; omega
 obtain ⟨ad, e, hb, hc⟩ := h (s + j) (by omega)
 rw [if_neg (by omega)]
 subst e
 refine ⟨ad.add s, rfl, by rw [add_block]; exact hb, ?_⟩
 rw [add_add, hc]
 simp
theorem Reads.partInts {k : IntKind} {l : List Int} (h : Reads w B a (ints k l)) (s t m : Nat) (hst : s ≤ t) (ht : t ≤ l.length) (hm : t ≤ m) : Reads w B (if m = s then a else a.map (·.add s)) (ints k ((l.drop s).take (t - s))) := by
 have := h.part s t m hst (by simpa using ht) hm
 rwa [show ints k ((l.drop s).take (t - s)) = ((ints k l).drop s).take (t - s) by simp [ints, List.map_drop, List.map_take]]
end

def Own (w : World) (B : Nat) (e : TypeId) (k : IntKind) (a : Option Addr) (c : Nat) (l : List Int) : Prop :=
 w.ownsRow B e 1 (.slice a l.length c) l.length (ints k l)

section
variable {w w' : World} {B B' : Nat} {e : TypeId} {k : IntKind} {a : Option Addr} {c : Nat} {l : List Int}
theorem Own.form (h : Own w B e k a c l) : (a = none ∧ l = [] ∧ c = 0) ∨ ∃ g, a = some ⟨g, 0, none⟩ ∧ B ≤ g ∧ g < w.heap.size ∧ l.length ≤ c ∧ c ≤ maxLen := by
 rcases h.2 with ⟨hv, hn⟩ | ⟨g, cap, cur, hv, hb, hg, h1, h2, _⟩
 ·
  injection hv with h1 h2 h3
  exact .inl ⟨h1, List.eq_nil_of_length_eq_zero hn, h3⟩
 ·
  injection hv with h3 h4 h5
  exact .inr ⟨g, h3, hb, (Array.getElem?_eq_some_iff.1 hg).1, by omega, by omega⟩
theorem Own.reads (h : Own w B e k a c l) : Reads w w.heap.size a (ints k l) := fun j hj => by
 rcases h.form with ⟨_, rfl, _⟩ | ⟨g, rfl, hb, hg, _⟩
 ·
  simp [ints] at hj
 ·
  exact ⟨_, rfl, hg, h.cells (g := g) rfl j _ (List.getElem?_eq_getElem hj)⟩
theorem Own.cap (h : Own w B e k a c l) : l.length ≤ c := by
 rcases h.form with ⟨_, rfl, _⟩ | ⟨g, rfl, hb, hg, h1, _⟩
 ·
  simp
 ·
  exact h1
theorem Own.base (h : Own w B e k a c l) (hB : B' ≤ B) : Own w B' e k a c l := by
 refine ⟨h.1, ?_⟩
 rcases h.2 with hv | ⟨g, cap, cur, hv, hb, r⟩
 ·
  exact .inl hv
 ·
  exact .inr ⟨g, cap, cur, hv, by omega, r⟩
theorem Own.lift (h : Own w B e k a c l) (hB : ∀ b ∈ (Value.slice a l.length c).ownBlock.toList, B' ≤ b) : Own w B' e k a c l := by
 refine ⟨h.1, ?_⟩
 rcases h.2 with hv | ⟨g, cap, cur, hv, hb, r⟩
 ·
  exact .inl hv
 ·
  exact .inr ⟨g, cap, cur, hv, hB g (by rw [hv]; simp [Value.ownBlock]), r⟩
theorem Own.below (h : Own w B e k a c l) (hb : Below w.heap.size w w') : Own w' B e k a c l := by
 refine ⟨h.1, ?_⟩
 rcases h.2 with hv | ⟨g, cap, cur, hv, hB, hg, r⟩
 ·
  exact .inl hv
 ·
  exact .inr ⟨g, cap, cur, hv, hB, (hb.block g (Array.getElem?_eq_some_iff.1 hg).1).trans hg, r⟩
theorem Own.empty (w : World) (e : TypeId) (k : IntKind) (hB : B ≤ w.heap.size) : Own (w.alloc (.cells #[] e)) B e k (some ⟨w.heap.size, 0, none⟩) 0 [] :=
 World.ownsRow_made w #[] 0 hB (Nat.zero_le _) rfl
end

def Gave (w : World) (B : Nat) (e : TypeId) (k : IntKind) (l : List Int) (en : Ending) (w' : World) : Prop := ∃ a c, en = .returned (.slice a l.length c) ∧ Own w' B e k a c l ∧ Below B w w'
theorem Gave.mk {w w' : World} {B : Nat} {e : TypeId} {k : IntKind} {l : List Int} {a : Option Addr} {c n : Nat} (hn : n = l.length) (ho : Own w' B e k a c l) (hb : Below B w w') : Gave w B e k l (.returned (.slice a n c)) w' := ⟨a, c, by rw [hn], ho, hb⟩


structure Res where
 fp : List Nat
 is : World → Prop
 loc : ∀ {w w' : World}, (∀ b ∈ fp, w'.heap[b]? = w.heap[b]?) → is w → is w'

def own (e : TypeId) (k : IntKind) (a : Option Addr) (c : Nat) (l : List Int) : Res where
 fp := (Value.slice a l.length c).ownBlock.toList
 is w := Own w 0 e k a c l
 loc := fun hs h => ⟨h.1, by
  rcases h.2 with hv | ⟨g, cap, cur, hv, hB, hg, r⟩
  ·
   exact .inl hv
  ·
   exact .inr ⟨g, cap, cur, hv, hB, (hs g (by rw [hv]; simp [Value.ownBlock])).trans hg, r⟩⟩

structure Turned (fp : List Nat) (w w' : World) : Prop where
 os : w'.os = w.os
 tape : w'.tape = w.tape
 output : w'.output = w.output
 size : w.heap.size ≤ w'.heap.size
 block : ∀ b, b < w.heap.size → b ∉ fp → w'.heap[b]? = w.heap[b]?
theorem Turned.of_grown {w w' : World} {r : Option Nat} (h : w.grownBy w' r) : Turned r.toList w w' :=
 ⟨h.os, h.tape, h.output, h.size, fun b hb hn => h.block b hb (fun e => hn (by rw [← e]; simp))⟩
theorem Turned.refl (fp : List Nat) (w : World) : Turned fp w w := ⟨rfl, rfl, rfl, Nat.le_refl _, fun _ _ _ => rfl⟩
theorem Turned.trans {fp : List Nat} {w w1 w2 : World} (h : Turned fp w w1) (k : Turned fp w1 w2) : Turned fp w w2 :=
 ⟨k.os.trans h.os, k.tape.trans h.tape, k.output.trans h.output, Nat.le_trans h.size k.size, fun b hb hn => (k.block b (Nat.lt_of_lt_of_le hb h.size) hn).trans (h.block b hb hn)⟩
theorem Turned.below {fp : List Nat} {w w' : World} {B : Nat} (h : Turned fp w w') (hB : B ≤ w.heap.size) (hf : ∀ b ∈ fp, B ≤ b) : Below B w w' :=
 ⟨h.os, h.tape, h.output, h.size, fun b hb => h.block b (by omega) (fun hm => by have := hf b hm; omega)⟩

structure Sep (W w : World) (rs : List Res) : Prop where
 old : Below W.heap.size W w
 is : ∀ (i : Nat) (r : Res), rs[i]? = some r → r.is w
 lies : ∀ (i : Nat) (r : Res), rs[i]? = some r → ∀ b ∈ r.fp, W.heap.size ≤ b ∧ b < w.heap.size
 apart : ∀ (i j : Nat) (r s : Res), rs[i]? = some r → rs[j]? = some s → i ≠ j → ∀ b ∈ r.fp, b ∉ s.fp

section
variable {W w w' : World} {rs : List Res} {r r' : Res}
theorem Sep.start (W : World) : Sep W W [] := ⟨Below.refl _ _, fun i r h => by simp at h, fun i r h => by simp at h, fun i j r s h => by simp at h⟩
theorem Sep.keep (h : Sep W w rs) (hb : Below w.heap.size w w') : Sep W w' rs :=
 ⟨h.old.trans (hb.mono h.old.size), fun i r hi => r.loc (fun b hm => hb.block b (h.lies i r hi b hm).2) (h.is i r hi), fun i r hi b hm => ⟨(h.lies i r hi b hm).1, Nat.lt_of_lt_of_le (h.lies i r hi b hm).2 hb.size⟩, h.apart⟩
theorem Sep.push (h : Sep W w rs) (hb : Below w.heap.size w w') (hr : r.is w') (hf : ∀ b ∈ r.fp, w.heap.size ≤ b ∧ b < w'.heap.size) : Sep W w' (rs ++ [r]) := by
 have hk := h.keep hb
 have hsz := h.old.size
 have hlast : ∀ (i : Nat) (s : Res), (rs ++ [r])[i]? = some s → (rs[i]? = some s ∧ i < rs.length) ∨ (s = r ∧ i = rs.length) := fun i s hi => by
  rcases Nat.lt_trichotomy i rs.length with hl | hl | hl
  ·
   rw [List.getElem?_append_left hl] at hi
   exact .inl ⟨hi, hl⟩
  ·
   subst hl
   simp at hi
   exact .inr ⟨hi.symm, rfl⟩
  ·
   rw [List.getElem?_eq_none (by simp; omega)] at hi
   cases hi
 refine ⟨hk.old, fun i s hi => ?_, fun i s hi => ?_, fun i j s t hi hj hne => ?_⟩
 ·
  rcases hlast i s hi with ⟨h1, _⟩ | ⟨rfl, _⟩
  ·
   exact hk.is i s h1
  ·
   exact hr
 ·
  rcases hlast i s hi with ⟨h1, _⟩ | ⟨rfl, _⟩
  ·
   exact hk.lies i s h1
  ·
   exact fun b hm => ⟨by have := (hf b hm).1; omega, (hf b hm).2⟩
 ·
  rcases hlast i s hi with ⟨h1, e1⟩ | ⟨rfl, e1⟩ <;> rcases hlast j t hj with ⟨h2, e2⟩ | ⟨rfl, e2⟩
  ·
   exact h.apart i j s t h1 h2 hne
  ·
   exact fun b hm hm2 => by have := (h.lies i s h1 b hm).2; have := (hf b hm2).1; omega
  ·
   exact fun b hm hm2 => by have := (h.lies j t h2 b hm2).2; have := (hf b hm).1; omega
  ·
   omega
theorem Sep.put (h : Sep W w rs) (i : Nat) (hi : rs[i]? = some r) (ht : Turned r.fp w w') (hr : r'.is w') (hf : ∀ b ∈ r'.fp, b ∈ r.fp) : Sep W w' (rs.set i r') := by
 have hlt : i < rs.length := (List.getElem?_eq_some_iff.1 hi).1
 have hcase : ∀ (j : Nat) (s : Res), (rs.set i r')[j]? = some s → (j ≠ i ∧ rs[j]? = some s) ∨ (j = i ∧ s = r') := fun j s hj => by
  rw [List.getElem?_set] at hj
  by_cases e : i = j
  ·
   subst e
   rw [if_pos rfl, if_pos hlt] at hj
   exact .inr ⟨rfl, (Option.some.inj hj).symm⟩
  ·
   rw [if_neg e] at hj
   exact .inl ⟨fun e' => e e'.symm, hj⟩
 refine ⟨h.old.trans (ht.below h.old.size (fun b hm => (h.lies i r hi b hm).1)), fun j s hj => ?_, fun j s hj b hm => ?_, fun j k s t hj hk hne b hm hm2 => ?_⟩
 ·
  rcases hcase j s hj with ⟨hne, h1⟩ | ⟨rfl, rfl⟩
  ·
   exact s.loc (fun b hm => ht.block b (h.lies j s h1 b hm).2 (h.apart j i s r h1 hi hne b hm)) (h.is j s h1)
  ·
   exact hr
 ·
  rcases hcase j s hj with ⟨hne, h1⟩ | ⟨rfl, rfl⟩
  ·
   exact ⟨(h.lies j s h1 b hm).1, Nat.lt_of_lt_of_le (h.lies j s h1 b hm).2 ht.size⟩
  ·
   exact ⟨(h.lies _ r hi b (hf b hm)).1, Nat.lt_of_lt_of_le (h.lies _ r hi b (hf b hm)).2 ht.size⟩
 ·
  rcases hcase j s hj with ⟨hne1, h1⟩ | ⟨rfl, rfl⟩ <;> rcases hcase k t hk with ⟨hne2, h2⟩ | ⟨rfl, rfl⟩
  ·
   exact h.apart j k s t h1 h2 hne b hm hm2
  ·
   exact h.apart j _ s r h1 hi hne1 b hm (hf b hm2)
  ·
   exact h.apart k _ t r h2 hi hne2 b hm2 (hf b hm)
  ·
   exact hne rfl
theorem Sep.pushOwn {e : TypeId} {k : IntKind} {a : Option Addr} {c : Nat} {l : List Int} (h : Sep W w rs) (hb : Below w.heap.size w w') (ho : Own w' w.heap.size e k a c l) : Sep W w' (rs ++ [own e k a c l]) :=
 h.push hb (ho.base (Nat.zero_le _)) fun b hm => ho.lt b (by simpa [own] using hm)
theorem Sep.own {e : TypeId} {k : IntKind} {a : Option Addr} {c : Nat} {l : List Int} (h : Sep W w rs) (i : Nat) (hi : rs[i]? = some (Sl.own e k a c l)) : Own w 0 e k a c l := h.is i _ hi
theorem Sep.ownAt {e : TypeId} {k : IntKind} {a : Option Addr} {c : Nat} {l : List Int} (h : Sep W w rs) (i : Nat) (hi : rs[i]? = some (Sl.own e k a c l)) : Own w W.heap.size e k a c l :=
 (h.is i _ hi : Own w 0 e k a c l).lift fun b hm => (h.lies i _ hi b hm).1
theorem Sep.drews (h : Sep W w rs) (n : Nat) : Sep W (w.drewN n) rs := h.keep ⟨rfl, rfl, rfl, Nat.le_refl _, fun _ _ => rfl⟩
theorem Sep.alloc (h : Sep W w rs) (o : Obj) : Sep W (w.alloc o) rs := h.keep ((Below.refl _ _).alloc (Nat.le_refl _) o)
end

section
variable {P : Program} (w : World)
theorem run_append_src (B : Nat) (t ty e : TypeId) (i : TypeInfo) (z : Value) (bytes : Nat) (ht : P.underlying t = some (.slice e)) (hi : P.info? e = some i) (hz : i.zero = some z)
  (hsize : i.size = 1) (hby : i.bytes = bytes) (hzs : z.cells.size = 1) (k : IntKind) (a : Option Addr) (c : Nat) (l : List Int) (hown : Own w B e k a c l)
  (B' : Nat) (A : Option Addr) (c' : Nat) (m : List Int) (hr : Reads w B' A (ints k m))
  (h63 : l.length + m.length ≤ maxLen) (hbytes : (l.length + m.length) * bytes ≤ 140737488355328) (hbase : B ≤ w.heap.size) :
  ∃ a1 c1 w', (Builtin.append_ #[t, t] ty #[.slice a l.length c, .slice A m.length c']).run P w = .ok (.slice a1 (l.length + m.length) c1) w' ∧ Own w' B e k a1 c1 (l ++ m) ∧ w.grownBy w' (Value.slice a l.length c).ownBlock := by
 have fin : ∀ {v' : Value} {w' : World}, w'.ownsRow B e 1 v' (l.length + m.length) (ints k l ++ ints k m) → ∃ a1 c1, v' = .slice a1 (l.length + m.length) c1 ∧ Own w' B e k a1 c1 (l ++ m) := by
  intro v' w' h
  rw [← ints_append] at h
  rcases h.2 with ⟨rfl, hn⟩ | ⟨g, cap, cur, rfl, _⟩
  ·
   refine ⟨none, 0, by rw [hn], ?_⟩
   unfold Own
   rw [List.length_append, hn]
   rw [hn] at h
   exact h
  ·
   refine ⟨_, cap, rfl, ?_⟩
   unfold Own
   rw [List.length_append]
   exact h
 rcases A with _ | ad
 ·
  have hm : m = [] := by
   rcases m with _ | ⟨x, m⟩
   ·
    rfl
   ·
    obtain ⟨ad, h, _⟩ := hr 0 (by simp)
    cases h
  subst hm
  have hrun : (Builtin.append_ #[t, t] ty #[.slice a l.length c, .slice none 0 c']).run P w = .ok (.slice a l.length c) w := by
   rcases hown.form with ⟨rfl, rfl, rfl⟩ | ⟨g, rfl, _, _, h1, _⟩
   ·
    simp [Builtin.append_, run_underlying ht, sizeOf, typeInfo, hi, Builtin.lenOf, Builtin.firstCells]
   ·
    simp [Builtin.append_, run_underlying ht, sizeOf, typeInfo, hi, Builtin.lenOf, Builtin.firstCells, h1, storeCells]
  exact ⟨a, c, w, by simpa using hrun, by simpa using hown, grownBy_refl w _⟩
 ·
  have hcells : ∀ j u, (ints k m)[j]? = some u → w.cell? (ad.add j) = some u := by
   intro j u hu
   have hj := (List.getElem?_eq_some_iff.1 hu).1
   obtain ⟨ad', h, _, hc⟩ := hr j hj
   injection h with h
   subst h
   rw [hc, ← hu, List.getElem?_eq_getElem hj]
  obtain ⟨v', w', hrun, h2, h3, -, -⟩ := run_append_own_at (P := P) w B t ty e i z 1 bytes ht hi hz hsize hby hzs (by omega) _ l.length (ints k l) hown ad m.length c' (ints k m) (by simp) hcells (ints_one k m) h63 hbytes hbase
  obtain ⟨a1, c1, rfl, ho⟩ := fin h2
  exact ⟨a1, c1, w', hrun, ho, h3⟩

theorem wpList_append_src {ops : Array Oper} {rest : List Oper} {o : Oper} {act : Act} {Q : Exit → Act → World → Prop} (hgd : o.guard = none) (s x : Operand) (t : TypeId)
  (ho : o.op = .call { callee := .builtin .append, args := #[s, x], argTypes := #[t, t] })
  (B : Nat) (e : TypeId) (i : TypeInfo) (z : Value) (bytes : Nat) (ht : P.underlying t = some (.slice e)) (hi : P.info? e = some i) (hz : i.zero = some z)
  (hsize : i.size = 1) (hby : i.bytes = bytes) (hzs : z.cells.size = 1) (k : IntKind) (a : Option Addr) (n c : Nat) (l : List Int) (hs : act.eval s = .slice a n c) (hn : n = l.length) (hown : Own w B e k a c l)
  (B' : Nat) (A : Option Addr) (n' c' : Nat) (m : List Int) (hx : act.eval x = .slice A n' c') (hn' : n' = m.length) (hr : Reads w B' A (ints k m))
  (h63 : l.length + m.length ≤ maxLen) (hbytes : (l.length + m.length) * bytes ≤ 140737488355328) (hbase : B ≤ w.heap.size)
  (h : ∀ a1 c1 w', Own w' B e k a1 c1 (l ++ m) → w.grownBy w' (Value.slice a l.length c).ownBlock → wpList P ops Q rest (act.put o.dst (.slice a1 (l.length + m.length) c1)) w') : wpList P ops Q (o :: rest) act w := by
 subst hn
 subst hn'
 refine wpList_plain hgd fun K hK => ?_
 obtain ⟨a1, c1, w', hrun, h2, h3⟩ := run_append_src (P := P) w B t o.type e i z bytes ht hi hz hsize hby hzs k a c l hown B' A c' m hr h63 hbytes hbase
 unfold Oper.wp execOp
 simp only [ho, resolve, invoke, builtin, Sem.run_bind, Sem.run_pure, Result.andThen_ok, List.map_toArray, List.map_cons, List.map_nil, hs, hx, hrun]
 exact hK _ _ (h a1 c1 w' h2 h3)
end

theorem reads_one (w : World) (k : IntKind) (x : Int) (t : TypeId) : Reads (w.alloc (.cells #[.int k x] t)) (w.heap.size + 1) (some ⟨w.heap.size, 0, none⟩) (ints k [x]) := fun j hj => by
 simp [ints] at hj
 subst hj
 refine ⟨_, rfl, by simp, ?_⟩
 rw [Addr.add_lit, (Row.made w t _).cell]
 rfl
end Go.Proofs.Ytojcdmgcbgpdmaa.Sl

namespace Go.Proofs.Ytojcdmgcbgpdmaa.Ex
open Go.ChangeShapes Go.WideShapes Go.ChangeAt Go.RowKit Mem Sl

def marks (kd : IntKind) (k : Int) (n : Nat) : List Int := (List.range n).map fun (i : Nat) => kd.wrap (k + (i : Int))
@[simp] theorem marks_length (kd : IntKind) (k : Int) (n : Nat) : (marks kd k n).length = n := by simp [marks]
theorem infoOf (e : TypeId) (z : Value) (s b : Nat) (h : (Try.prog.info? e).map (fun i => (i.zero, i.size, i.bytes)) = some (some z, s, b)) : ∃ i, Try.prog.info? e = some i ∧ i.zero = some z ∧ i.size = s ∧ i.bytes = b := info_parts h

def Drew (w w' : World) : Prop := ∃ n, w' = w.drewN n
theorem Drew.refl (w : World) : Drew w w := ⟨0, rfl⟩
theorem Drew.more {w w1 : World} (h : Drew w w1) (n : Nat) : Drew w (w1.drewN n) := by
 obtain ⟨m, rfl⟩ := h
 exact ⟨m + n, World.drewN_drewN ..⟩
theorem Drew.below {w w' : World} (h : Drew w w') (B : Nat) : Below B w w' := by
 obtain ⟨n, rfl⟩ := h
 exact ⟨rfl, rfl, rfl, Nat.le_refl _, fun _ _ => rfl⟩
theorem Drew.trans {w w1 w2 : World} (h : Drew w w1) (k : Drew w1 w2) : Drew w w2 := by
 obtain ⟨n, rfl⟩ := k
 exact h.more n

end Go.Proofs.Ytojcdmgcbgpdmaa.Ex

namespace Go.Proofs.Ytojcdmgcbgpdmaa.L2

def uv (n : Nat) : List Int := if n < 128 then [(n : Int)] else ((n % 128 + 128 : Nat) : Int) :: uv (n / 128)
termination_by n
decreasing_by omega
theorem uv_small {n : Nat} (h : n < 128) : uv n = [(n : Int)] := by rw [uv, if_pos h]
theorem uv_big {n : Nat} (h : ¬ n < 128) : uv n = ((n % 128 + 128 : Nat) : Int) :: uv (n / 128) := by rw [uv, if_neg h]
theorem uv_len_le : ∀ (j n : Nat), n < 128 ^ (j + 1) → (uv n).length ≤ j + 1
 | 0, n, h => by rw [uv_small (by omega)]; simp
 | j + 1, n, h => by
  by_cases hn : n < 128
  ·
   rw [uv_small hn]; simp
  ·
   rw [uv_big hn, List.length_cons]
   have := uv_len_le j (n / 128) (by rw [Nat.pow_succ] at h; omega)
   omega
theorem uv_len_pos (n : Nat) : 1 ≤ (uv n).length := by
 by_cases hn : n < 128
 ·
  rw [uv_small hn]; simp
 ·
  rw [uv_big hn]; simp
def enc (n : Int) : List Int := if L1.inB n 0 1000000000000 = true then uv n.toNat else []
theorem enc_in {n : Int} (h0 : 0 ≤ n) (h1 : n ≤ 1000000000000) : enc n = uv n.toNat := by rw [enc, if_pos (L1.inB_true.mpr ⟨h0, h1⟩)]
theorem enc_out {n : Int} (h : ¬ (0 ≤ n ∧ n ≤ 1000000000000)) : enc n = [] := by rw [enc, if_neg (by rw [L1.inB_false.mpr h]; simp)]
theorem enc_len (n : Int) : (enc n).length ≤ 6 := by
 by_cases h : 0 ≤ n ∧ n ≤ 1000000000000
 ·
  rw [enc_in h.1 h.2]
  exact uv_len_le 5 _ (by have : (128 : Nat) ^ (5 + 1) = 4398046511104 := (by decide); omega)
 ·
  rw [enc_out h]; simp
def rdAux : Nat → Int → List Int → Option (Int × Nat)
 | _, _, [] => none
 | k, v, c :: s =>
  if 6 ≤ k then none
  else if c < 128 then (if (c = 0 ∧ 0 < k) ∨ 1000000000000 < v + c % 128 * 128 ^ k then none else some (v + c % 128 * 128 ^ k, k + 1))
  else rdAux (k + 1) (v + c % 128 * 128 ^ k) s
def rd (l : List Int) (off : Int) : Option (Int × Nat) := if 0 ≤ off then rdAux 0 0 (l.drop off.toNat) else none
def rdN (l : List Int) (off : Int) : Int := match rd l off with | some (v, _) => v | none => 0
def rdE (l : List Int) (off : Int) : Int := match rd l off with | some (_, m) => off + m | none => 0
def rdB (l : List Int) (off : Int) : Bool := (rd l off).isSome

theorem rd_some {l : List Int} {off : Int} (h : rdB l off = true) : rd l off = some (rdN l off, (rdE l off - off).toNat) ∧ off ≤ rdE l off := by
 unfold rdB at h
 unfold rdN rdE
 cases hr : rd l off with
 | none => rw [hr] at h; cases h
 | some p =>
  obtain ⟨v, m⟩ := p
  simp
  omega
theorem rdN_of {l : List Int} {off v : Int} {m : Nat} (h : rd l off = some (v, m)) : rdN l off = v := by unfold rdN; rw [h]
theorem rdE_of {l : List Int} {off v : Int} {m : Nat} (h : rd l off = some (v, m)) : rdE l off = off + m := by unfold rdE; rw [h]
theorem rdB_of {l : List Int} {off v : Int} {m : Nat} (h : rd l off = some (v, m)) : rdB l off = true := by unfold rdB; rw [h]; rfl
end Go.Proofs.Ytojcdmgcbgpdmaa.L2

namespace Go.Proofs.Ytojcdmgcbgpdmaa.L2
open Go.ChangeShapes Go.WideShapes Go.ChangeAt Go.RowKit Mem Sl Ex

theorem info8 : (Try.prog.info? 5).map (fun i => (i.zero, i.size, i.bytes)) = some (some (.int .u8 0), 1, 1) := by kernel_rfl

theorem own_alloc {w : World} {B : Nat} {e : TypeId} {k : IntKind} {a : Option Addr} {c : Nat} {l : List Int} (h : Own w B e k a c l) (o : Obj) : Own (w.alloc o) B e k a c l := h.below ((Below.refl _ _).alloc (Nat.le_refl _) o)
theorem below_alloc {B : Nat} {w w' : World} (h : Below B w w') (o : Obj) (hB : B ≤ w.heap.size) : Below B w (w'.alloc o) := h.alloc (Nat.le_trans hB h.size) o
theorem below_own {B : Nat} {w w' : World} {e : TypeId} {k : IntKind} {a : Option Addr} {c : Nat} {l : List Int} (ho : Own w B e k a c l) (hg : w.grownBy w' (Value.slice a l.length c).ownBlock) (hB : B ≤ w.heap.size) : Below B w w' :=
 (Below.refl _ _).grown hg hB (fun k hk => (ho.lt k hk).1)

theorem or_128 (m : Nat) : bits .or .u8 ((m : Int) % 128) 128 = ((m % 128 + 128 : Nat) : Int) := by
 rw [show (m : Int) % 128 = ((m % 128 : Nat) : Int) by omega, show (128 : Int) = ((128 : Nat) : Int) from rfl, u8_or_nat _ _ (by omega) (by omega), Nat.or_comm, nat_join 7 128 (m % 128) (by decide) (by omega)]
 congr 1
 omega

theorem extend_any (B : Nat) (a : Option Addr) (c : Nat) (l : List Int) (n : Int) (w : World) (h : Own w B 5 .u8 a c l) (hl : l.length ≤ 1099511627776) (hB : B ≤ w.heap.size) :
  Calls Try.prog 190 #[.slice a l.length c, .int .i64 n] w (Gave w B 5 .u8 (l ++ enc n)) := by
 by_cases hn : 0 ≤ n ∧ n ≤ 1000000000000
 ·
  obtain ⟨h0, h1⟩ := hn
  have hin : L1.inB n 0 1000000000000 = true := L1.inB_true.mpr ⟨h0, h1⟩
  obtain ⟨i0, hi, hz0, hz1, hz2⟩ := infoOf _ _ _ _ info8
  obtain ⟨m0, rfl⟩ : ∃ m : Nat, n = m := ⟨n.toNat, by omega⟩
  have HE := Lib.hid (enc_in h0 h1)
  have HL := Lib.hid (enc_len m0)
  have H := Lib.hid h
  clear h
  go_enter Try.func190, Try.ntmps190
  go_wp2_with (go_at_call 98; refine (L1.inRange_any _ _ _ _).mono ?_; rw [hin]; rintro e w' ⟨rfl, rfl⟩)
  go_loopw [0, 1] (fun s v wr => ∃ (m : Nat) (a1 : Option Addr) (c1 : Nat) (l1 : List Int) (n1 : Nat), s = .slice a1 n1 c1 ∧ v = .int .i64 m ∧ m ≤ 1000000000000 ∧ n1 ≤ 1099511627790 ∧ Hid (Own wr B 5 .u8 a1 c1 l1 ∧ Below B w wr ∧ l1 ++ uv m = l ++ enc m0 ∧ n1 = l1.length)) (fun _ v _ => (intOf v).toNat)
  case atStart => exact ⟨m0, a, c, l, l.length, rfl, rfl, by omega, by omega, H.out, Below.refl _ _, by rw [HE.out]; rfl, rfl⟩
  case round =>
   obtain ⟨m, a1, c1, l1, n1, rfl, rfl, hm, hn1, hrel⟩ := hrel
   by_cases hlt : m < 128
   ·
    have hc : ¬ (128 : Int) ≤ m := by omega
    go_wp2_with (at_builtin; refine wpList_append_src _ rfl _ _ 22 rfl B 5 i0 (.int .u8 0) 1 Try.underlying22 hi hz0 hz1 hz2 rfl .u8 a1 n1 c1 l1 rfl hrel.out.2.2.2 (own_alloc hrel.out.1 _) _ _ 1 1 [_] rfl rfl (reads_one _ _ _ _) (by have := hrel.out.2.2.2; simp [maxLen]; omega) (by have := hrel.out.2.2.2; simp; omega) (Nat.le_trans hB (Nat.le_trans hrel.out.2.1.size (by simp))) ?_; intro a2 c2 w2 ho2 hg2)
    go_ret
    obtain ⟨h1, h2, h3, h4⟩ := hrel.out
    refine Gave.mk ?_ (l := l ++ enc m0) ?_ ?_
    ·
     rw [← h3, uv_small hlt]; simp
    ·
     rw [← h3, uv_small hlt]; exact ho2
    ·
     have hb1 := below_alloc h2 (.cells #[.int .u8 m] 5) hB
     exact hb1.trans (below_own (own_alloc h1 _) hg2 (Nat.le_trans hB hb1.size))
   ·
    have hc : (128 : Int) ≤ m := by omega
    go_wp2_with (at_builtin; refine wpList_append_src _ rfl _ _ 22 rfl B 5 i0 (.int .u8 0) 1 Try.underlying22 hi hz0 hz1 hz2 rfl .u8 a1 n1 c1 l1 rfl hrel.out.2.2.2 (own_alloc hrel.out.1 _) _ _ 1 1 [_] rfl rfl (reads_one _ _ _ _) (by have := hrel.out.2.2.2; simp [maxLen]; omega) (by have := hrel.out.2.2.2; simp; omega) (Nat.le_trans hB (Nat.le_trans hrel.out.2.1.size (by simp))) ?_; intro a2 c2 w2 ho2 hg2)
    obtain ⟨h1, h2, h3, h4⟩ := hrel.out
    have hb1 := below_alloc h2 (.cells #[.int .u8 (bits .or .u8 ((m : Int) % 128) 128)] 5) hB
    have hb2 := hb1.trans (below_own (own_alloc h1 _) hg2 (Nat.le_trans hB hb1.size))
    have hle : l1.length + (uv m).length = l.length + (enc m0).length := by rw [← List.length_append, h3, List.length_append]
    have hp := uv_len_pos m
    have he := HL.out
    rw [or_128] at ho2
    have HH := Lib.hid (And.intro ho2 (And.intro hb2 h3))
    clear ho2 hg2 hb1 hb2 h1 h2 h3 h4
    go_roundw
    case rel => exact ⟨m / 128, a2, c2, _, l1.length + 1, rfl, by go_num, by omega, by omega, And.intro HH.out.1 (And.intro HH.out.2.1 (And.intro (by rw [List.append_assoc, ← HH.out.2.2, uv_big hlt]; rfl) (by simp)))⟩
    case measure => simp [intOf]; omega
 ·
  have hout : L1.inB n 0 1000000000000 = false := L1.inB_false.mpr hn
  have HE := Lib.hid (enc_out hn)
  have H := Lib.hid h
  clear h hn
  go_enter Try.func190, Try.ntmps190
  go_wp2_with (go_at_call 98; refine (L1.inRange_any _ _ _ _).mono ?_; rw [hout]; rintro e w' ⟨rfl, rfl⟩)
  go_ret
  refine Gave.mk ?_ ?_ (Below.refl _ _)
  ·
   rw [HE.out, List.append_nil]
  ·
   rw [HE.out, List.append_nil]; exact H.out

theorem take_any (a : Option Addr) (c : Nat) (l : List Int) (s t : Nat) (w : World) (hr : Reads w w.heap.size a (ints .u8 l)) (hc : l.length ≤ c) (hl : l.length ≤ 1099511627776) (hst : s ≤ t) (ht : t ≤ l.length) :
  Calls Try.prog 191 #[.slice a l.length c, .int .i64 s, .int .i64 t] w (Gave w w.heap.size 5 .u8 ((l.drop s).take (t - s))) := by
 obtain ⟨i0, hi, hz0, hz1, hz2⟩ := infoOf _ _ _ _ info8
 obtain ⟨n, hn⟩ : ∃ n, n = l.length := ⟨_, rfl⟩
 rw [← hn] at ht hl hc ⊢
 have hp := (hr.below (below_alloc (Below.refl _ _) (.cells #[] 5) (Nat.le_refl _))).partInts s t t hst (by omega) (Nat.le_refl _)
 have hlen : ((l.drop s).take (t - s)).length = t - s := by simp; omega
 obtain ⟨m, hm⟩ : ∃ m, m = (l.drop s).take (t - s) := ⟨_, rfl⟩
 rw [← hm] at hp hlen ⊢
 have HP := Lib.hid (And.intro hp hlen)
 clear hr hn hm hp hlen
 go_enter Try.func191, Try.ntmps191
 go_wp2_with (at_builtin; refine wpList_append_src _ rfl _ _ 22 rfl w.heap.size 5 i0 (.int .u8 0) 1 Try.underlying22 hi hz0 hz1 hz2 rfl .u8 _ _ _ [] rfl rfl (Own.empty w 5 .u8 (Nat.le_refl _)) w.heap.size _ _ _ m rfl HP.out.2.symm HP.out.1 (by have := HP.out.2; simp [maxLen]; omega) (by have := HP.out.2; simp; omega) (by simp) ?_; intro a2 c2 w2 ho2 hg2)
 all_goals
  go_ret
  refine Gave.mk (by simp) ho2 ?_
  exact (below_alloc (Below.refl _ _) _ (Nat.le_refl _)).trans (below_own (Own.empty w 5 .u8 (Nat.le_refl _)) hg2 (by simp))

theorem implAppendUvarint_any (a : Option Addr) (c : Nat) (l : List Int) (n : Int) (w : World) (hr : Reads w w.heap.size a (ints .u8 l)) (hc : l.length ≤ c) (hl : l.length ≤ 1000000000000) :
  Calls Try.prog 132 #[.slice a l.length c, .int .i64 n] w (Gave w w.heap.size 5 .u8 (l ++ enc n)) := by
 have H1 := Lib.hid (take_any a c l 0 l.length w hr hc (by omega) (by omega) (by omega))
 have e0 : (l.drop 0).take (l.length - 0) = l := by simp
 rw [e0] at H1
 have H2 := fun (a1 : Option Addr) (c1 : Nat) (w1 : World) (h : Own w1 w.heap.size 5 .u8 a1 c1 l) (hs : w.heap.size ≤ w1.heap.size) => extend_any w.heap.size a1 c1 l n w1 h (by omega) hs
 have H3 := Lib.hid H2
 clear H2 hr hc e0
 go_enter Try.func132, Try.ntmps132
 go_wp2_with (first | (go_at_call 191; refine H1.out.mono ?_; rintro e w1 ⟨a1, c1, rfl, ho1, hb1⟩) | (go_at_call 190; refine (H3.out _ _ _ ho1 hb1.size).mono ?_; rintro e w2 ⟨a2, c2, rfl, ho2, hb2⟩))
 go_ret
 exact Gave.mk (by simp) ho2 (hb1.trans hb2)

theorem and_127 (m : Nat) (hm : m < 18446744073709551616) : bits .and .i64 (m : Int) 127 = ((m % 128 : Nat) : Int) := by
 show IntKind.i64.wrap ((BitVec.ofInt 64 (m : Int) &&& BitVec.ofInt 64 127).toNat : Nat) = _
 rw [BitVec.ofInt_natCast, show (127 : Int) = ((127 : Nat) : Int) from rfl, BitVec.ofInt_natCast, BitVec.toNat_and, BitVec.toNat_ofNat, BitVec.toNat_ofNat, Nat.mod_eq_of_lt (by omega), show 127 % 2 ^ 64 = 127 from rfl, nat_mask7, IntKind.wrap_i64]
 omega
theorem or_128i (m : Nat) : bits .or .i64 ((m : Int) % 128) 128 % 256 = ((m % 128 + 128 : Nat) : Int) := by
 rw [show (m : Int) % 128 = ((m % 128 : Nat) : Int) by omega]
 show IntKind.i64.wrap ((BitVec.ofInt 64 ((m % 128 : Nat) : Int) ||| BitVec.ofInt 64 128).toNat : Nat) % 256 = _
 rw [BitVec.ofInt_natCast, show (128 : Int) = ((128 : Nat) : Int) from rfl, BitVec.ofInt_natCast, BitVec.toNat_or, BitVec.toNat_ofNat, BitVec.toNat_ofNat, Nat.mod_eq_of_lt (by omega), show 128 % 2 ^ 64 = 128 from rfl, Nat.or_comm, nat_join 7 128 (m % 128) (by decide) (by omega), IntKind.wrap_i64]
 omega

theorem specAppendUvarint_any (a : Option Addr) (c : Nat) (l : List Int) (n : Int) (w : World) (hr : Reads w w.heap.size a (ints .u8 l)) (hl : l.length ≤ 1000000000000) :
  Calls Try.prog 110 #[.slice a l.length c, .int .i64 n] w (Gave w w.heap.size 5 .u8 (l ++ enc n)) := by
 obtain ⟨i0, hi, hz0, hz1, hz2⟩ := infoOf _ _ _ _ info8
 have H := Lib.hid (hr.below (below_alloc (Below.refl _ _) (.cells #[] 5) (Nat.le_refl _)))
 have HB := Lib.hid (Nat.le_refl w.heap.size)
 clear hr
 by_cases hn : 0 ≤ n ∧ n ≤ 1000000000000
 ·
  obtain ⟨h0, h1⟩ := hn
  have hin : L1.inB n 0 1000000000000 = true := L1.inB_true.mpr ⟨h0, h1⟩
  obtain ⟨m0, rfl⟩ : ∃ m : Nat, n = m := ⟨n.toNat, by omega⟩
  have HE := Lib.hid (enc_in h0 h1)
  have HL := Lib.hid (enc_len m0)
  go_enter Try.func110, Try.ntmps110
  go_wp2_with (first | (at_builtin; refine wpList_append_src _ rfl _ _ 22 rfl w.heap.size 5 i0 (.int .u8 0) 1 Try.underlying22 hi hz0 hz1 hz2 rfl .u8 _ _ _ [] rfl rfl (Own.empty w 5 .u8 (Nat.le_refl _)) w.heap.size _ _ _ l rfl rfl H.out (by simp [maxLen]; omega) (by simp; omega) (by simp) ?_; intro a1 c1 w1 ho1 hg1) | (go_at_call 91; refine (L1.l1In_any _ _ _ _).mono ?_; rw [hin]; rintro e w' ⟨rfl, rfl⟩))
  have hb1 := (below_alloc (Below.refl _ _) (.cells #[] 5) (Nat.le_refl _)).trans (below_own (Own.empty w 5 .u8 (Nat.le_refl _)) hg1 (by simp))
  have H1 := Lib.hid (And.intro ho1 hb1)
  clear ho1 hb1 hg1
  go_loopw [1, 5] (fun v s wr => ∃ (m : Nat) (a1 : Option Addr) (c1 : Nat) (l1 : List Int) (n1 : Nat), s = .slice a1 n1 c1 ∧ v = .int .i64 m ∧ m ≤ 1000000000000 ∧ n1 ≤ 1099511627790 ∧ Hid (Own wr w.heap.size 5 .u8 a1 c1 l1 ∧ Below w.heap.size w wr ∧ l1 ++ uv m = l ++ enc m0 ∧ n1 = l1.length)) (fun v _ _ => (intOf v).toNat)
  case atStart => exact ⟨m0, a1, c1, [] ++ l, _, rfl, rfl, by omega, by omega, H1.out.1, H1.out.2, by rw [HE.out]; rfl, by simp⟩
  case round =>
   obtain ⟨m, a1, c1, l1, n1, rfl, rfl, hm, hn1, hrel⟩ := hrel
   by_cases hlt : m < 128
   ·
    have hc : ¬ (127 : Int) < m := by omega
    go_wp2_with (at_builtin; refine wpList_append_src _ rfl _ _ 22 rfl w.heap.size 5 i0 (.int .u8 0) 1 Try.underlying22 hi hz0 hz1 hz2 rfl .u8 a1 n1 c1 l1 rfl hrel.out.2.2.2 (own_alloc hrel.out.1 _) _ _ 1 1 [_] rfl rfl (reads_one _ _ _ _) (by have := hrel.out.2.2.2; simp [maxLen]; omega) (by have := hrel.out.2.2.2; simp; omega) (Nat.le_trans hrel.out.2.1.size (by simp)) ?_; intro a2 c2 w2 ho2 hg2)
    go_ret
    obtain ⟨h1, h2, h3, h4⟩ := hrel.out
    refine Gave.mk ?_ (l := l ++ enc m0) ?_ ?_
    ·
     rw [← h3, uv_small hlt]; simp
    ·
     rw [← h3, uv_small hlt]; exact ho2
    ·
     have hb1 := below_alloc h2 (.cells #[.int .u8 m] 5) HB.out
     exact hb1.trans (below_own (own_alloc h1 _) hg2 hb1.size)
   ·
    have hc : (127 : Int) < m := by omega
    have e1 := and_127 m (by omega)
    go_wp2_with (at_builtin; refine wpList_append_src _ rfl _ _ 22 rfl w.heap.size 5 i0 (.int .u8 0) 1 Try.underlying22 hi hz0 hz1 hz2 rfl .u8 a1 n1 c1 l1 rfl hrel.out.2.2.2 (own_alloc hrel.out.1 _) _ _ 1 1 [_] rfl rfl (reads_one _ _ _ _) (by have := hrel.out.2.2.2; simp [maxLen]; omega) (by have := hrel.out.2.2.2; simp; omega) (Nat.le_trans hrel.out.2.1.size (by simp)) ?_; intro a2 c2 w2 ho2 hg2)
    obtain ⟨h1, h2, h3, h4⟩ := hrel.out
    have hb1 := below_alloc h2 (.cells #[.int .u8 (bits .or .i64 ((m : Int) % 128) 128 % 256)] 5) HB.out
    have hb2 := hb1.trans (below_own (own_alloc h1 _) hg2 hb1.size)
    have hle : l1.length + (uv m).length = l.length + (enc m0).length := by rw [← List.length_append, h3, List.length_append]
    have hp := uv_len_pos m
    have he := HL.out
    rw [or_128i] at ho2
    have HH := Lib.hid (And.intro ho2 (And.intro hb2 h3))
    clear ho2 hg2 hb1 hb2 h1 h2 h3 h4 e1
    go_roundw
    case rel => exact ⟨m / 128, a2, c2, _, l1.length + 1, rfl, by go_num, by omega, by omega, And.intro HH.out.1 (And.intro HH.out.2.1 (And.intro (by rw [List.append_assoc, ← HH.out.2.2, uv_big hlt]; rfl) (by simp)))⟩
    case measure => simp [intOf]; omega
 ·
  have hout : L1.inB n 0 1000000000000 = false := L1.inB_false.mpr hn
  have HE := Lib.hid (enc_out hn)
  clear hn
  go_enter Try.func110, Try.ntmps110
  go_wp2_with (first | (at_builtin; refine wpList_append_src _ rfl _ _ 22 rfl w.heap.size 5 i0 (.int .u8 0) 1 Try.underlying22 hi hz0 hz1 hz2 rfl .u8 _ _ _ [] rfl rfl (Own.empty w 5 .u8 (Nat.le_refl _)) w.heap.size _ _ _ l rfl rfl H.out (by simp [maxLen]; omega) (by simp; omega) (by simp) ?_; intro a1 c1 w1 ho1 hg1) | (go_at_call 91; refine (L1.l1In_any _ _ _ _).mono ?_; rw [hout]; rintro e w' ⟨rfl, rfl⟩))
  go_ret
  have hb1 := (below_alloc (Below.refl _ _) (.cells #[] 5) (Nat.le_refl _)).trans (below_own (Own.empty w 5 .u8 (Nat.le_refl _)) hg1 (by simp))
  refine Gave.mk ?_ ?_ hb1
  ·
   rw [HE.out]; simp
  ·
   rw [HE.out, List.append_nil]; exact ho1

theorem implAppendBytes_any (a a2 : Option Addr) (c c2 : Nat) (l m : List Int) (w : World) (hr : Reads w w.heap.size a (ints .u8 l)) (hr2 : Reads w w.heap.size a2 (ints .u8 m)) (hc : l.length ≤ c) (hl : l.length ≤ 1000000000) (hm : m.length ≤ 1000000000) :
  Calls Try.prog 178 #[.slice a l.length c, .slice a2 m.length c2] w (Gave w w.heap.size 5 .u8 (l ++ enc m.length ++ m)) := by
 obtain ⟨i0, hi, hz0, hz1, hz2⟩ := infoOf _ _ _ _ info8
 have H1 := Lib.hid (implAppendUvarint_any a c l m.length w hr hc (by omega))
 have HL := Lib.hid (enc_len m.length)
 have H2 := Lib.hid hr2
 clear hr hr2 hc
 go_enter Try.func178, Try.ntmps178
 go_wp2_with (first | (go_at_call 132; refine H1.out.mono ?_; rintro e w1 ⟨a1, c1, rfl, ho1, hb1⟩) | (at_builtin; refine wpList_append_src _ rfl _ _ 22 rfl w.heap.size 5 i0 (.int .u8 0) 1 Try.underlying22 hi hz0 hz1 hz2 rfl .u8 _ _ _ (l ++ enc m.length) rfl (by simp) ho1 w.heap.size _ _ _ m rfl rfl (H2.out.below hb1) (by have := HL.out; simp [maxLen]; omega) (by have := HL.out; simp; omega) hb1.size ?_; intro a3 c3 w3 ho3 hg3))
 go_ret
 exact Gave.mk (by simp [Nat.add_assoc]) ho3 (hb1.trans (below_own ho1 hg3 hb1.size))
theorem specAppendBytes_any (a a2 : Option Addr) (c c2 : Nat) (l m : List Int) (w : World) (hr : Reads w w.heap.size a (ints .u8 l)) (hr2 : Reads w w.heap.size a2 (ints .u8 m)) (hc : l.length ≤ c) (hl : l.length ≤ 1000000000) (hm : m.length ≤ 1000000000) :
  Calls Try.prog 111 #[.slice a l.length c, .slice a2 m.length c2] w (Gave w w.heap.size 5 .u8 (l ++ enc m.length ++ m)) := by
 obtain ⟨i0, hi, hz0, hz1, hz2⟩ := infoOf _ _ _ _ info8
 have H1 := Lib.hid (specAppendUvarint_any a c l m.length w hr  (by omega))
 have HL := Lib.hid (enc_len m.length)
 have H2 := Lib.hid hr2
 clear hr hr2 hc
 go_enter Try.func111, Try.ntmps111
 go_wp2_with (first | (go_at_call 110; refine H1.out.mono ?_; rintro e w1 ⟨a1, c1, rfl, ho1, hb1⟩) | (at_builtin; refine wpList_append_src _ rfl _ _ 22 rfl w.heap.size 5 i0 (.int .u8 0) 1 Try.underlying22 hi hz0 hz1 hz2 rfl .u8 _ _ _ (l ++ enc m.length) rfl (by simp) ho1 w.heap.size _ _ _ m rfl rfl (H2.out.below hb1) (by have := HL.out; simp [maxLen]; omega) (by have := HL.out; simp; omega) hb1.size ?_; intro a3 c3 w3 ho3 hg3))
 go_ret
 exact Gave.mk (by simp [Nat.add_assoc]) ho3 (hb1.trans (below_own ho1 hg3 hb1.size))

theorem specStep_any (B : Nat) (a : Option Addr) (c : Nat) (l : List Int) (n : Int) (w : World) (h : Own w B 5 .u8 a c l) (hl : l.length ≤ 1000000000000) (hB : B ≤ w.heap.size) :
  Calls Try.prog 110 #[.slice a l.length c, .int .i64 n] w (Gave w B 5 .u8 (l ++ enc n)) :=
 (specAppendUvarint_any a c l n w h.reads hl).mono fun _ _ ⟨a1, c1, he, ho, hb⟩ => ⟨a1, c1, he, ho.base hB, hb.mono hB⟩
end Go.Proofs.Ytojcdmgcbgpdmaa.L2

namespace Go.Proofs.Ytojcdmgcbgpdmaa.Law
open Go.ChangeShapes Go.WideShapes Go.ChangeAt Go.RowKit Mem Sl Ex

section
variable {H : Type} {enc : TypeId × Value → H} {P : Program}
theorem open_list {W : World} {t e : TypeId} {k : IntKind} (ht : P.underlying t = some (.slice e)) (he : P.underlying e = some (.int k)) (hc : P.cellsOf e = 1) {b0 : Nat} {v : Value} {d : DataW H} {ps : List MemPlace}
  (hval : Value.okWide P W .any b0 t v) (h0 : DataW.Trod enc P W 0 (fun _ => true) true t v d ps) (hlt : ∀ x ∈ ps, x.block < W.heap.size) :
  ∃ (a : Option Addr) (l : List Int) (cap : Nat), v = .slice a l.length cap ∧ l.length ≤ cap ∧ cap ≤ 9223372036854775807 ∧ Reads W W.heap.size a (ints k l) ∧ ∀ n ∈ l, (Lit.int k n).wf = true := by
 obtain ⟨a0, len, cap, rfl⟩ := okWide_slice ht hval
 obtain ⟨fuel, hf⟩ := h0
 rcases open_ints ht he hc hf with ⟨hcs, hx⟩ | ⟨a, len', cap', zs, hcs, _, hl, hm, hz, hx, hcell, hwz⟩
 ·
  simp [Value.cells] at hcs
  obtain ⟨rfl, rfl, rfl⟩ := hcs
  exact ⟨none, [], 0, rfl, Nat.le_refl _, by omega, Reads.nil, fun n hn => by simp at hn⟩
 ·
  simp [Value.cells] at hcs
  obtain ⟨rfl, rfl, rfl⟩ := hcs
  simp only [Prod.mk.injEq] at hx
  obtain ⟨rfl, rfl⟩ := hx
  simp at hz
  have hlen : (zs.take len).length = len := by simp; omega
  refine ⟨some a, zs.take len, cap, by rw [hlen], by omega, by unfold maxLen at hm; omega, fun j hj => ?_, fun n hn => hwz n (List.mem_of_mem_take hn)⟩
  simp at hj
  refine ⟨a, rfl, ?_, ?_⟩
  ·
   have := hlt (MemPlace.cell a.block (a.off + 0)) ?_
   ·
    simpa [MemPlace.block] using this
   ·
    exact List.mem_map.2 ⟨0, List.mem_range.2 (by omega), rfl⟩
  ·
   rw [hcell j (by omega), ints_get _ _ _ (by simp; omega)]
   simp [List.getD_eq_getElem?_getD, List.getElem?_eq_getElem (show j < zs.length by omega)]
theorem wf_u8 {n : Int} (h : (Lit.int .u8 n).wf = true) : 0 ≤ n ∧ n ≤ 255 := by
 simpa [Lit.wf, IntKind.min, IntKind.max, IntKind.signed, IntKind.bits] using h
end

theorem Sep.drew {W w w' : World} {rs : List Res} (h : Sep W w rs) (hd : Drew w w') : Sep W w' rs := h.keep (hd.below _)

end Go.Proofs.Ytojcdmgcbgpdmaa.Law

namespace Go.Proofs.Ytojcdmgcbgpdmaa.Draw
open Go.ChangeShapes Go.WideShapes Go.ChangeAt Go.RowKit Mem

theorem l1Byte_any (B c : Nat) (w : World) (hcur : Cur B w c) :
  Calls Try.prog 209 #[.pointer (some ⟨c, 0, none⟩)] w (Drawn B c w fun n => 0 ≤ n ∧ n ≤ 255) := by
 obtain ⟨hB, a, len, cap, i, h, hrow, hi, hlen, hby⟩ := hcur
 have c0 := hrow.cell 0
 have c1 := hrow.cell 1
 have c2 := hrow.cell 2
 have f1 := hrow.free 1
 have f2 := hrow.free 2
 simp at c0 c1 c2
 obtain ⟨X, hX⟩ : ∃ X : Int, X = wrap64 (wrap64 (h * 6364136223846793005) + 1442695040888963407) := ⟨_, rfl⟩
 have HX := Lib.hid hX
 clear hX
 have r1 := hrow.put 2 (.int .i64 X)
 have g1 := grownBy_put w c 2 (.int .i64 X)
 go_enter Try.func209, Try.ntmps209
 go_wp2
 rw [← HX.out]
 clear c0 c1 c2 f1 f2 HX
 generalize w.setCell ⟨c, 2, none⟩ (.int .i64 X) = w1 at r1 g1 ⊢
 have c0 := r1.cell 0
 have c1 := r1.cell 1
 have c2 := r1.cell 2
 have f1 := r1.free 1
 simp at c0 c1 c2
 go_quiet (fail)
 go_wp2
 have hx := and_mask (bits .xor .i64 (X / 8589934592) (X / 140737488355328)) 255 (by decide)
 generalize bits .and .i64 (bits .xor .i64 (X / 8589934592) (X / 140737488355328)) 255 = x at hx ⊢
 have g2 := grownBy_step g1 (grownBy_draws w1 nq (some c))
 replace r1 := r1.draws nq
 generalize w1.drewN _ = w2 at r1 g2 ⊢
 clear c0 c1 c2 f1 g1
 have c0 := r1.cell 0
 have c1 := r1.cell 1
 have f1 := r1.free 1
 simp at c0 c1
 obtain ⟨hx0, hx1⟩ := hx
 by_cases hlt : i < len
 ·
  go_quiet (fail)
  go_wp2
  have g3 := grownBy_step g2 (grownBy_draws w2 nq (some c))
  replace r1 := r1.draws nq
  have hBw : B ≤ w.heap.size := Nat.le_trans hB (Nat.le_of_lt hrow.inside)
  have hby2 := hby.below (below_of g3 hBw (fun k hk => by cases hk; exact hB))
  generalize w2.drewN _ = w3 at r1 g3 hby2 ⊢
  clear c0 c1 f1 g2
  have c0 := r1.cell 0
  have c1 := r1.cell 1
  have f1 := r1.free 1
  simp at c0 c1
  obtain ⟨ad, y, rfl, -, hcy, hy0, hy1⟩ := hby2 i hlt
  go_quiet (fail)
  have HX := Lib.hid (and_mask (x + y) 255 (by decide))
  have g4 := grownBy_step (grownBy_step g3 (grownBy_draws w3 nq (some c))) (grownBy_put (w3.drewN nq) c 1 (.int .i64 (↑i + 1)))
  have r2 := (r1.draws nq).put 1 (.int .i64 (↑i + 1))
  have G := Lib.hid (And.intro g4 r2)
  clear g4 r2
  go_wp2
  go_ret
  obtain ⟨g4, r2⟩ := G.out
  exact ⟨_, rfl, HX.out, ⟨hB, _, len, cap, i + 1, X, by simpa using r2, by omega, hlen, hby.below (below_of g4 hBw (fun k hk => by cases hk; exact hB))⟩, g4⟩
 ·
  go_quiet (fail)
  go_wp2
  go_ret
  have g4 := grownBy_step g2 (grownBy_draws w2 nq (some c))
  have hBw : B ≤ w.heap.size := Nat.le_trans hB (Nat.le_of_lt hrow.inside)
  exact ⟨_, rfl, ⟨hx0, hx1⟩, ⟨hB, a, len, cap, i, X, by simpa using r1.draws nq, hi, hlen, hby.below (below_of g4 hBw (fun k hk => by cases hk; exact hB))⟩, g4⟩

def On (B c : Nat) (w0 w : World) : Prop := Cur B w c ∧ w0.grownBy w (some c)
theorem On.start {B c : Nat} {w : World} (h : Cur B w c) : On B c w w := ⟨h, grownBy_refl w _⟩
theorem On.alloc {B c : Nat} {w0 w : World} (h : On B c w0 w) (o : Obj) : On B c w0 (w.alloc o) := by
 have hB : B ≤ w.heap.size := by
  obtain ⟨hc, a, len, cap, i, x, hr, _⟩ := h.1
  exact Nat.le_trans hc (Nat.le_of_lt hr.inside)
 exact ⟨h.1.grown (World.grownBy_alloc w o none) (by simp) (by simp) hB, grownBy_step h.2 (World.grownBy_alloc w o _)⟩
def Num (B c : Nat) (w0 : World) (P : Int → Prop) (e : Ending) (w' : World) : Prop := ∃ n, e = .returned (.int .i64 n) ∧ P n ∧ On B c w0 w'
theorem l1Byte_on {B c : Nat} {w0 w : World} (h : On B c w0 w) :
  Calls Try.prog 209 #[.pointer (some ⟨c, 0, none⟩)] w (Num B c w0 fun n => 0 ≤ n ∧ n ≤ 255) :=
 (l1Byte_any B c w h.1).mono fun _ _ ⟨n, he, hp, hc, hg⟩ => ⟨n, he, hp, hc, grownBy_step h.2 hg⟩

theorem l1Below_on {B c : Nat} {w0 w : World} (n : Int) (hn : 1 ≤ n) (hn2 : n ≤ 9223372036854775807) (h : On B c w0 w) :
  Calls Try.prog 160 #[.pointer (some ⟨c, 0, none⟩), .int .i64 n] w (Num B c w0 fun r => 0 ≤ r ∧ r < n) := by
 by_cases h256 : n ≤ 256
 ·
  go_enter Try.func160, Try.ntmps160
  go_wp2_with (go_at_call 209; refine (l1Byte_on (by assumption)).mono ?_; rintro e w' ⟨x, rfl, ⟨hx0, hx1⟩, ho⟩)
  go_ret
  exact ⟨_, rfl, ⟨by first | exact Int.emod_nonneg _ (by omega) | exact Int.tmod_nonneg _ (by omega), by first | exact Int.emod_lt_of_pos _ (by omega) | exact Int.tmod_lt_of_pos _ (by omega)⟩, ho⟩
 ·
  go_enter Try.func160, Try.ntmps160
  go_wp2_with (go_at_call 209; refine (l1Byte_on (by assumption)).mono ?_; rintro e w' ⟨x, rfl, ⟨hx0, hx1⟩, ho⟩)
  go_ret
  exact ⟨_, rfl, ⟨by first | exact Int.emod_nonneg _ (by omega) | exact Int.tmod_nonneg _ (by omega), by first | exact Int.emod_lt_of_pos _ (by omega) | exact Int.tmod_lt_of_pos _ (by omega)⟩, ho⟩

theorem l1Once_on {B c : Nat} {w0 w : World} (n : Int) (hn : 1 ≤ n) (hn2 : n ≤ 9223372036854775807) (h : On B c w0 w) :
  Calls Try.prog 156 #[.pointer (some ⟨c, 0, none⟩), .int .i64 n] w (fun e w' => ∃ b : Bool, e = .returned (.bool b) ∧ On B c w0 w') := by
 go_enter Try.func156, Try.ntmps156
 go_wp2_with (go_at_call 160; refine (l1Below_on _ (by assumption) (by assumption) (by assumption)).mono ?_; rintro e w' ⟨x, rfl, ⟨hx0, hx1⟩, ho⟩)
 go_ret
 exact ⟨_, rfl, ho⟩

def Ints (w : World) (P : Int → Prop) (b len : Nat) : Prop := ∀ j, j < len → ∃ v, w.cell? ⟨b, j, none⟩ = some (.int .i64 v) ∧ P v
theorem Ints.on {B c b len : Nat} {w0 w : World} {P : Int → Prop} (h : Ints w0 P b len) (ho : On B c w0 w) (hb : b < w0.heap.size) (hbc : b ≠ c) : Ints w P b len := fun j hj => by
 obtain ⟨v, hc, hp⟩ := h j hj
 exact ⟨v, by rw [World.cell?_of_block (ho.2.block b hb (by simpa using hbc))]; exact hc, hp⟩

theorem l1Int_on {B c : Nat} {w0 w : World} {P : Int → Prop} (b len : Nat) (h1 : 1 ≤ len) (h2 : len ≤ 1000) (hP : Ints w P b len) (hb : b < w.heap.size) (hbc : b ≠ c) (h : On B c w0 w) :
  Calls Try.prog 162 #[.pointer (some ⟨c, 0, none⟩), .slice (some ⟨b, 0, none⟩) len len] w (Num B c w0 P) := by
 go_enter Try.func162, Try.ntmps162
 go_wp2_with (go_at_call 160; refine (l1Below_on _ (by omega) (by omega) (On.start h.1)).mono ?_; rintro e w' ⟨x, rfl, ⟨hx0, hx1⟩, ho⟩; obtain ⟨v, hcv, hpv⟩ := hP.on ho hb hbc x.toNat (by omega))
 go_ret
 exact ⟨v, rfl, hpv, ho.1, grownBy_step h.2 ho.2⟩

def Strs (w : World) (P : ByteArray → Prop) (b len : Nat) : Prop := ∀ j, j < len → ∃ v, w.cell? ⟨b, j, none⟩ = some (.string v) ∧ P v
theorem Strs.on {B c b len : Nat} {w0 w : World} {P : ByteArray → Prop} (h : Strs w0 P b len) (ho : On B c w0 w) (hb : b < w0.heap.size) (hbc : b ≠ c) : Strs w P b len := fun j hj => by
 obtain ⟨v, hc, hp⟩ := h j hj
 exact ⟨v, by rw [World.cell?_of_block (ho.2.block b hb (by simpa using hbc))]; exact hc, hp⟩
def Str (B c : Nat) (w0 : World) (P : ByteArray → Prop) (e : Ending) (w' : World) : Prop := ∃ s, e = .returned (.string s) ∧ P s ∧ On B c w0 w'

theorem l1Str_on {B c : Nat} {w0 w : World} {P : ByteArray → Prop} (b len : Nat) (h1 : 1 ≤ len) (h2 : len ≤ 1000) (hP : Strs w P b len) (hb : b < w.heap.size) (hbc : b ≠ c) (h : On B c w0 w) :
  Calls Try.prog 161 #[.pointer (some ⟨c, 0, none⟩), .slice (some ⟨b, 0, none⟩) len len] w (Str B c w0 P) := by
 go_enter Try.func161, Try.ntmps161
 go_wp2_with (go_at_call 160; refine (l1Below_on _ (by omega) (by omega) (On.start h.1)).mono ?_; rintro e w' ⟨x, rfl, ⟨hx0, hx1⟩, ho⟩; obtain ⟨v, hcv, hpv⟩ := hP.on ho hb hbc x.toNat (by omega))
 go_ret
 exact ⟨v, rfl, hpv, ho.1, grownBy_step h.2 ho.2⟩

theorem ints_lit (w : World) (t : TypeId) (l : List Int) (P : Int → Prop) (hP : ∀ v ∈ l, P v) : Ints (w.alloc (.cells (l.map (Value.int .i64)).toArray t)) P w.heap.size l.length := fun j hj => by
 refine ⟨l[j], ?_, hP _ (List.getElem_mem hj)⟩
 rw [(Row.made w t _).cell]
 simp [hj]
theorem strs_lit (w : World) (t : TypeId) (l : List ByteArray) (P : ByteArray → Prop) (hP : ∀ v ∈ l, P v) : Strs (w.alloc (.cells (l.map Value.string).toArray t)) P w.heap.size l.length := fun j hj => by
 refine ⟨l[j], ?_, hP _ (List.getElem_mem hj)⟩
 rw [(Row.made w t _).cell]
 simp [hj]
theorem On.lt {B c : Nat} {w0 w : World} (h : On B c w0 w) : c < w.heap.size := by
 obtain ⟨hc, a, len, cap, i, x, hr, _⟩ := h.1
 exact hr.inside


def Made (B : Nat) (w : World) (e : Ending) (w' : World) : Prop := ∃ c, e = .returned (.pointer (some ⟨c, 0, none⟩)) ∧ w.heap.size ≤ c ∧ Cur B w' c ∧ Below w.heap.size w w'

theorem l1New_on {B : Nat} {w : World} (a : Option Addr) (len cap : Nat) (hB : B ≤ w.heap.size) (hlen : len ≤ 4611686018427387904) (hby : Bytes w B a len) :
  Calls Try.prog 78 #[.slice a len cap] w (Made B w) := by
 go_enter Try.func78, Try.ntmps78
 go_wp2
 go_loop [3, 4] (fun h i => ∃ (k : Nat) (x : Int), k ≤ len ∧ i = .int .i64 k ∧ h = .int .i64 x) (fun _ i => len - (intOf i).toNat)
 case atStart => exact ⟨0, _, Nat.zero_le _, rfl, rfl⟩
 case round =>
  obtain ⟨k, x, hk, rfl, rfl⟩ := hrel
  by_cases hlt : k < len
  ·
   obtain ⟨ad, y, rfl, -, hcy, hy0, hy1⟩ := hby k hlt
   by_cases h4 : (k : Int) < 4000
   ·
    go_wp2
    go_round
    case rel => exact ⟨k + 1, _, by omega, by go_num, rfl⟩
    case measure => simp [intOf]; omega
   ·
    go_wp2
    go_ret
    refine ⟨_, rfl, Nat.le_refl _, ⟨hB, _, len, cap, 0, _, Row.made w _ _, Nat.zero_le _, hlen, hby.below ((Below.refl _ _).alloc hB _)⟩, (Below.refl _ _).alloc (Nat.le_refl _) _⟩
  ·
   go_wp2
   go_ret
   refine ⟨_, rfl, Nat.le_refl _, ⟨hB, _, len, cap, 0, _, Row.made w _ _, Nat.zero_le _, hlen, hby.below ((Below.refl _ _).alloc hB _)⟩, (Below.refl _ _).alloc (Nat.le_refl _) _⟩
end Go.Proofs.Ytojcdmgcbgpdmaa.Draw

namespace Go.Proofs.Ytojcdmgcbgpdmaa.Sd
open Go.ChangeShapes Go.WideShapes Go.ChangeAt Go.RowKit Mem Sl Ex Draw

theorem set_same {α : Type} : ∀ {l : List α} {i : Nat} {x : α}, l[i]? = some x → l.set i x = l
 | [], _, _, h => by simp at h
 | y :: l, 0, x, h => by simp at h; simp [h]
 | y :: l, i + 1, x, h => by simp at h; simp [set_same h]
theorem at_left {α : Type} {l m : List α} {i : Nat} {x : α} (h : l[i]? = some x) : (l ++ m)[i]? = some x := by
 rw [List.getElem?_append_left (List.getElem?_eq_some_iff.1 h).1]; exact h
theorem at_last {α : Type} (l : List α) (x : α) : (l ++ [x])[l.length]? = some x := by simp
theorem set_last {α : Type} (l : List α) (x y : α) : (l ++ [x]).set l.length y = l ++ [y] := by simp

section
variable {W w w' : World} {rs : List Res} {r r' : Res}
theorem put_new (h : Sep W w rs) (i : Nat) (hi : rs[i]? = some r) (ht : Turned r.fp w w') (hr : r'.is w') (hf : ∀ b ∈ r'.fp, b ∈ r.fp ∨ (w.heap.size ≤ b ∧ b < w'.heap.size)) : Sep W w' (rs.set i r') := by
 have hlt : i < rs.length := (List.getElem?_eq_some_iff.1 hi).1
 have hsz := h.old.size
 have hcase : ∀ (j : Nat) (s : Res), (rs.set i r')[j]? = some s → (j ≠ i ∧ rs[j]? = some s) ∨ (j = i ∧ s = r') := fun j s hj => by
  rw [List.getElem?_set] at hj
  by_cases e : i = j
  ·
   subst e
   rw [if_pos rfl, if_pos hlt] at hj
   exact .inr ⟨rfl, (Option.some.inj hj).symm⟩
  ·
   rw [if_neg e] at hj
   exact .inl ⟨fun e' => e e'.symm, hj⟩
 refine ⟨h.old.trans (ht.below h.old.size (fun b hm => (h.lies i r hi b hm).1)), fun j s hj => ?_, fun j s hj b hm => ?_, fun j k s t hj hk hne b hm hm2 => ?_⟩
 ·
  rcases hcase j s hj with ⟨hne, h1⟩ | ⟨rfl, rfl⟩
  ·
   exact s.loc (fun b hm => ht.block b (h.lies j s h1 b hm).2 (h.apart j i s r h1 hi hne b hm)) (h.is j s h1)
  ·
   exact hr
 ·
  rcases hcase j s hj with ⟨hne, h1⟩ | ⟨rfl, rfl⟩
  ·
   exact ⟨(h.lies j s h1 b hm).1, Nat.lt_of_lt_of_le (h.lies j s h1 b hm).2 ht.size⟩
  ·
   rcases hf b hm with h2 | h2
   ·
    exact ⟨(h.lies _ r hi b h2).1, Nat.lt_of_lt_of_le (h.lies _ r hi b h2).2 ht.size⟩
   ·
    exact ⟨by omega, h2.2⟩
 ·
  rcases hcase j s hj with ⟨hne1, h1⟩ | ⟨rfl, rfl⟩ <;> rcases hcase k t hk with ⟨hne2, h2⟩ | ⟨rfl, rfl⟩
  ·
   exact h.apart j k s t h1 h2 hne b hm hm2
  ·
   rcases hf b hm2 with h3 | h3
   ·
    exact h.apart j _ s r h1 hi hne1 b hm h3
   ·
    have := (h.lies j s h1 b hm).2; omega
  ·
   rcases hf b hm with h3 | h3
   ·
    exact h.apart k _ t r h2 hi hne2 b hm2 h3
   ·
    have := (h.lies k t h2 b hm2).2; omega
  ·
   exact hne rfl
end

def curR (W : World) (c : Nat) : Res where
 fp := [c]
 is w := ∃ (a : Option Addr) (len cap i : Nat) (h : Int), Row w c 177 #[.slice a len cap, .int .i64 i, .int .i64 h] ∧ i ≤ len ∧ len ≤ 4611686018427387904 ∧ Bytes W W.heap.size a len
 loc := fun hs ⟨a, len, cap, i, h, hr, r⟩ => ⟨a, len, cap, i, h, (hs c (by simp)).trans hr, r⟩

section
variable {W w w' : World} {rs : List Res} {c : Nat}
theorem cur_of (h : Sep W w rs) (i : Nat) (hi : rs[i]? = some (curR W c)) : Cur W.heap.size w c := by
 obtain ⟨a, len, cap, j, x, hr, h1, h2, h3⟩ := h.is i _ hi
 exact ⟨(h.lies i _ hi c (by simp [curR])).1, a, len, cap, j, x, hr, h1, h2, h3.below h.old⟩
theorem cur_on (h : Sep W w rs) (i : Nat) (hi : rs[i]? = some (curR W c)) : On W.heap.size c w w := On.start (cur_of h i hi)
theorem bytes_back {B : Nat} {a : Option Addr} {len : Nat} (h : Bytes w' B a len) (hb : Below B w w') : Bytes w B a len := fun j hj => by
 obtain ⟨ad, n, e, hB, hc, h0, h1⟩ := h j hj
 exact ⟨ad, n, e, hB, by rw [← hb.cell (by rw [add_block]; exact hB)]; exact hc, h0, h1⟩
theorem cur_is (hc : Cur W.heap.size w c) (hb : Below W.heap.size W w) : (curR W c).is w := by
 obtain ⟨_, a, len, cap, j, x, hr, h1, h2, h3⟩ := hc
 exact ⟨a, len, cap, j, x, hr, h1, h2, bytes_back h3 hb⟩
theorem moved (h : Sep W w rs) (i : Nat) (hi : rs[i]? = some (curR W c)) (ho : On W.heap.size c w w') : Sep W w' rs := by
 have ht : Turned (curR W c).fp w w' := Turned.of_grown ho.2
 have hb : Below W.heap.size W w' := h.old.trans (ht.below h.old.size (fun b hm => (h.lies i _ hi b hm).1))
 have := h.put i hi (r' := curR W c) ht (cur_is ho.1 hb) (fun b hb => hb)
 rwa [set_same hi] at this
theorem num {F : Nat} {args : Array Value} {Q : Int → Prop} (h : Sep W w rs) (i : Nat) (hi : rs[i]? = some (curR W c)) (hC : Calls Try.prog F args w (Num W.heap.size c w Q)) :
  Calls Try.prog F args w fun e w' => ∃ n, e = .returned (.int .i64 n) ∧ Q n ∧ Sep W w' rs :=
 hC.mono fun _ _ ⟨n, he, hq, ho⟩ => ⟨n, he, hq, moved h i hi ho⟩
end

section
variable {W w : World} {rs : List Res} {c : Nat}
theorem below_s (h : Sep W w rs) (i : Nat) (hi : rs[i]? = some (curR W c)) (n : Int) (h1 : 1 ≤ n) (h2 : n ≤ 9223372036854775807) :
  Calls Try.prog 160 #[.pointer (some ⟨c, 0, none⟩), .int .i64 n] w fun e w' => ∃ r, e = .returned (.int .i64 r) ∧ (0 ≤ r ∧ r < n) ∧ Sep W w' rs := num h i hi (l1Below_on n h1 h2 (cur_on h i hi))
theorem once_s (h : Sep W w rs) (i : Nat) (hi : rs[i]? = some (curR W c)) (n : Int) (h1 : 1 ≤ n) (h2 : n ≤ 9223372036854775807) :
  Calls Try.prog 156 #[.pointer (some ⟨c, 0, none⟩), .int .i64 n] w fun e w' => ∃ b : Bool, e = .returned (.bool b) ∧ Sep W w' rs :=
 (l1Once_on n h1 h2 (cur_on h i hi)).mono fun _ _ ⟨b, he, ho⟩ => ⟨b, he, moved h i hi ho⟩
theorem int_s (h : Sep W w rs) (i : Nat) (hi : rs[i]? = some (curR W c)) (l : List Int) (Q : Int → Prop) (hQ : ∀ v ∈ l, Q v) (h1 : 1 ≤ l.length) (h2 : l.length ≤ 1000) :
  Calls Try.prog 162 #[.pointer (some ⟨c, 0, none⟩), .slice (some ⟨w.heap.size, 0, none⟩) l.length l.length] (w.alloc (.cells (l.map (Value.int .i64)).toArray 3)) fun e w' => ∃ r, e = .returned (.int .i64 r) ∧ Q r ∧ Sep W w' rs :=
 num (h.alloc _) i hi (l1Int_on w.heap.size l.length h1 h2 (ints_lit w 3 l Q hQ) (by simp) (fun e => by have := (cur_on h i hi).lt; omega) (cur_on (h.alloc _) i hi))
theorem new_s (h : Sep W w rs) (a : Option Addr) (len cap : Nat) (hlen : len ≤ 4611686018427387904) (hby : Bytes W W.heap.size a len) :
  Calls Try.prog 78 #[.slice a len cap] w fun e w' => ∃ c, e = .returned (.pointer (some ⟨c, 0, none⟩)) ∧ Sep W w' (rs ++ [curR W c]) :=
 (l1New_on a len cap h.old.size hlen (hby.below h.old)).mono fun _ w' ⟨c, he, hc, hcur, hb⟩ => ⟨c, he, by
  have hlt : c < w'.heap.size := by
   obtain ⟨_, a, len, cap, j, x, hr, _⟩ := hcur
   exact hr.inside
  exact h.push hb (cur_is hcur (h.old.trans (hb.mono h.old.size))) (fun b hm => by simp [curR] at hm; subst hm; exact ⟨hc, hlt⟩)⟩
end

section
variable {P : Program} (w : World)
end

end Go.Proofs.Ytojcdmgcbgpdmaa.Sd

namespace Go.Proofs.Ytojcdmgcbgpdmaa.Sv
open Go.ChangeShapes Go.WideShapes Go.ChangeAt Go.RowKit Mem Sl

def OwnV (w : World) (B : Nat) (e : TypeId) (k : Nat) (a : Option Addr) (c n : Nat) (xs : List Value) : Prop := w.ownsRow B e k (.slice a n c) n xs

section
variable {w w' : World} {B B' : Nat} {e : TypeId} {k : Nat} {a : Option Addr} {c n : Nat} {xs : List Value}
theorem OwnV.len (h : OwnV w B e k a c n xs) : xs.length = n * k := h.1
theorem OwnV.form (h : OwnV w B e k a c n xs) : (a = none ∧ n = 0 ∧ xs = [] ∧ c = 0) ∨ ∃ g, a = some ⟨g, 0, none⟩ ∧ B ≤ g ∧ g < w.heap.size ∧ n ≤ c ∧ c ≤ maxLen := by
 rcases h.2 with ⟨hv, hn⟩ | ⟨g, cap, cur, hv, hb, hg, h1, h2, _⟩
 ·
  injection hv with h1 h2 h3
  exact .inl ⟨h1, hn, List.eq_nil_of_length_eq_zero (by rw [h.1, hn, Nat.zero_mul]), h3⟩
 ·
  injection hv with h3 h4 h5
  exact .inr ⟨g, h3, hb, (Array.getElem?_eq_some_iff.1 hg).1, by omega, by omega⟩
theorem OwnV.cap (h : OwnV w B e k a c n xs) : n ≤ c := by
 rcases h.form with ⟨_, rfl, _⟩ | ⟨g, rfl, hb, hg, h1, _⟩
 ·
  simp
 ·
  exact h1
theorem OwnV.reads (h : OwnV w B e k a c n xs) : Reads w w.heap.size a xs := fun j hj => by
 rcases h.form with ⟨_, _, rfl, _⟩ | ⟨g, rfl, hb, hg, _⟩
 ·
  simp at hj
 ·
  exact ⟨_, rfl, hg, World.ownsRow.cells (g := g) h rfl j _ (List.getElem?_eq_getElem hj)⟩
theorem OwnV.base (h : OwnV w B e k a c n xs) (hB : B' ≤ B) : OwnV w B' e k a c n xs := by
 refine ⟨h.1, ?_⟩
 rcases h.2 with hv | ⟨g, cap, cur, hv, hb, r⟩
 ·
  exact .inl hv
 ·
  exact .inr ⟨g, cap, cur, hv, by omega, r⟩
theorem OwnV.lift (h : OwnV w B e k a c n xs) (hB : ∀ b ∈ (Value.slice a n c).ownBlock.toList, B' ≤ b) : OwnV w B' e k a c n xs := by
 refine ⟨h.1, ?_⟩
 rcases h.2 with hv | ⟨g, cap, cur, hv, hb, r⟩
 ·
  exact .inl hv
 ·
  exact .inr ⟨g, cap, cur, hv, hB g (by rw [hv]; simp [Value.ownBlock]), r⟩
theorem OwnV.below (h : OwnV w B e k a c n xs) (hb : Below w.heap.size w w') : OwnV w' B e k a c n xs := by
 refine ⟨h.1, ?_⟩
 rcases h.2 with hv | ⟨g, cap, cur, hv, hB, hg, r⟩
 ·
  exact .inl hv
 ·
  exact .inr ⟨g, cap, cur, hv, hB, (hb.block g (Array.getElem?_eq_some_iff.1 hg).1).trans hg, r⟩
theorem OwnV.alloc (h : OwnV w B e k a c n xs) (o : Obj) : OwnV (w.alloc o) B e k a c n xs := h.below ((Below.refl _ _).alloc (Nat.le_refl _) o)
theorem OwnV.nil (w : World) (B : Nat) (e : TypeId) (k : Nat) : OwnV w B e k none 0 0 [] := ⟨(Nat.zero_mul k).symm, .inl ⟨rfl, rfl⟩⟩
theorem OwnV.empty (w : World) (e : TypeId) (k : Nat) (hB : B ≤ w.heap.size) : OwnV (w.alloc (.cells #[] e)) B e k (some ⟨w.heap.size, 0, none⟩) 0 0 [] := by
 have := World.ownsRow_made (base := B) (e := e) (size := k) w #[] 0 hB (Nat.zero_le _) (Nat.zero_mul k).symm
 exact this
theorem OwnV.emptyAt (w : World) (e : TypeId) (k g : Nat) (hg : g = w.heap.size) (hB : B ≤ w.heap.size) : OwnV (w.alloc (.cells #[] e)) B e k (some ⟨g, 0, none⟩) 0 0 [] := by
 subst hg
 exact OwnV.empty w e k hB
theorem OwnV.madeAt (w : World) (e : TypeId) (k n g : Nat) (cs : Array Value) (hg : g = w.heap.size) (hB : B ≤ w.heap.size) (hn : cs.size = n * k) (hm : n ≤ maxLen) : OwnV (w.alloc (.cells cs e)) B e k (some ⟨g, 0, none⟩) n n cs.toList := by
 subst hg
 exact ⟨by simpa using hn, .inr ⟨w.heap.size, n, cs, rfl, hB, heap_alloc_new w _, Nat.le_refl _, hm, hn, by rw [← hn, ← Array.length_toList, List.take_length]⟩⟩
theorem OwnV.made (w : World) (e : TypeId) (k n : Nat) (cs : Array Value) (hB : B ≤ w.heap.size) (hn : cs.size = n * k) (hm : n ≤ maxLen) : OwnV (w.alloc (.cells cs e)) B e k (some ⟨w.heap.size, 0, none⟩) n n cs.toList :=
 ⟨by simpa using hn, .inr ⟨w.heap.size, n, cs, rfl, hB, heap_alloc_new w _, Nat.le_refl _, hm, hn, by rw [← hn, ← Array.length_toList, List.take_length]⟩⟩
theorem OwnV.far (h : OwnV w B e k a c n xs) (g j : Nat) (v : Value) (hg : g < B) : OwnV (w.setCell ⟨g, j, none⟩ v) B e k a c n xs := by
 refine ⟨h.1, ?_⟩
 rcases h.2 with hv | ⟨g', cap, cur, hv, hB, hg', r⟩
 ·
  exact .inl hv
 ·
  exact .inr ⟨g', cap, cur, hv, hB, (Below.heap_setCell w ⟨g, j, none⟩ v g' (by show g' ≠ g; omega)).trans hg', r⟩
theorem OwnV.cell {g : Nat} (h : OwnV w B e k (some ⟨g, 0, none⟩) c n xs) (j : Nat) (hj : j < xs.length) : w.cell? ⟨g, j, none⟩ = some xs[j] := by
 have := World.ownsRow.cells (g := g) h rfl j _ (List.getElem?_eq_getElem hj)
 rwa [Addr.add_lit, Nat.zero_add] at this
theorem OwnV.free {g : Nat} (h : OwnV w B e k (some ⟨g, 0, none⟩) c n xs) (j : Nat) : w.frozen? ⟨g, j, none⟩ = false := by
 rcases h.2 with ⟨hv, hn⟩ | ⟨g', cap, cur, hv, hb, hg, _⟩
 ·
  injection hv with h1; cases h1
 ·
  injection hv with h1
  injection h1 with h1
  injection h1 with h1
  subst h1
  simp [World.frozen?, hg]
theorem OwnV.set {g : Nat} (h : OwnV w B e k (some ⟨g, 0, none⟩) c n xs) (j : Nat) (hj : j < xs.length) (v : Value) : OwnV (w.setCell ⟨g, j, none⟩ v) B e k (some ⟨g, 0, none⟩) c n (xs.set j v) := by
 refine ⟨by simpa using h.1, ?_⟩
 rcases h.2 with ⟨hv, hn⟩ | ⟨g', cap, cur, hv, hb, hg, h1, h2, h3, h4⟩
 ·
  injection hv with h1; cases h1
 ·
  injection hv with e1 e2 e3
  injection e1 with e1
  injection e1 with e1
  subst e1
  refine .inr ⟨g, cap, cur.setIfInBounds j v, by rw [e3], hb, Row.put (w := w) (t := e) (cs := cur) hg j v, h1, h2, by simpa using h3, ?_⟩
  rw [Array.toList_setIfInBounds, List.take_set, h4]
end

def ownV (e : TypeId) (k : Nat) (a : Option Addr) (c n : Nat) (xs : List Value) : Res where
 fp := (Value.slice a n c).ownBlock.toList
 is w := OwnV w 0 e k a c n xs
 loc := fun hs h => ⟨h.1, by
  rcases h.2 with hv | ⟨g, cap, cur, hv, hB, hg, r⟩
  ·
   exact .inl hv
  ·
   exact .inr ⟨g, cap, cur, hv, hB, (hs g (by rw [hv]; simp [Value.ownBlock])).trans hg, r⟩⟩
section
variable {W w w' : World} {rs : List Res} {e : TypeId} {k : Nat} {a : Option Addr} {c n : Nat} {xs : List Value}
theorem own_at (h : Sep W w rs) (i : Nat) (hi : rs[i]? = some (ownV e k a c n xs)) : OwnV w 0 e k a c n xs := h.is i _ hi
theorem own_from (h : Sep W w rs) (i : Nat) (hi : rs[i]? = some (ownV e k a c n xs)) : OwnV w W.heap.size e k a c n xs :=
 (own_at h i hi).lift fun b hm => (h.lies i _ hi b hm).1
theorem push_own (h : Sep W w rs) (hb : Below w.heap.size w w') (ho : OwnV w' w.heap.size e k a c n xs) : Sep W w' (rs ++ [ownV e k a c n xs]) :=
 h.push hb (ho.base (Nat.zero_le _)) fun b hm => by
  rcases ho.form with ⟨rfl, _⟩ | ⟨g, rfl, h1, h2, _⟩
  ·
   simp [ownV, Value.ownBlock] at hm
  ·
   simp [ownV, Value.ownBlock] at hm
   subst hm
   exact ⟨h1, h2⟩
theorem set_own {g : Nat} (h : Sep W w rs) (i : Nat) (hi : rs[i]? = some (ownV e k (some ⟨g, 0, none⟩) c n xs)) (j : Nat) (hj : j < xs.length) (v : Value) : Sep W (w.setCell ⟨g, j, none⟩ v) (rs.set i (ownV e k (some ⟨g, 0, none⟩) c n (xs.set j v))) :=
 h.put i hi (Turned.of_grown (grownBy_put w g j v)) ((own_at h i hi).set j hj v) (fun b hb => hb)
end

theorem sep_sub {W w : World} {rs ts : List Res} (h : Sep W w rs) (f : Nat → Nat) (hf : ∀ i r, ts[i]? = some r → rs[f i]? = some r) (hi : ∀ i j, i < ts.length → j < ts.length → f i = f j → i = j) : Sep W w ts :=
 ⟨h.old, fun i r hr => h.is (f i) r (hf i r hr), fun i r hr => h.lies (f i) r (hf i r hr), fun i j r s hr hs hne => h.apart (f i) (f j) r s (hf i r hr) (hf j s hs) (fun e => hne (hi i j (List.getElem?_eq_some_iff.1 hr).1 (List.getElem?_eq_some_iff.1 hs).1 e))⟩
theorem sep_pick {W w : World} {rs : List Res} {r0 r1 r2 r3 : Res} (h : Sep W w rs) (is : List Nat) (hl : is.length = 4) (hd : is.Nodup) (h0 : rs[is.getD 0 0]? = some r0) (h1 : rs[is.getD 1 0]? = some r1) (h2 : rs[is.getD 2 0]? = some r2) (h3 : rs[is.getD 3 0]? = some r3) : Sep W w [r0, r1, r2, r3] := by
 refine sep_sub h (fun i => is.getD i 0) (fun i r hr => ?_) (fun i j hi hj e => ?_)
 ·
  match i, hr with
  | 0, hr => simp at hr; subst hr; exact h0
  | 1, hr => simp at hr; subst hr; exact h1
  | 2, hr => simp at hr; subst hr; exact h2
  | 3, hr => simp at hr; subst hr; exact h3
  | i + 4, hr => simp at hr
 ·
  simp only [List.length_cons, List.length_nil] at hi hj
  have ei : i < is.length := by omega
  have ej : j < is.length := by omega
  simp only [List.getD_eq_getElem?_getD, List.getElem?_eq_getElem ei, List.getElem?_eq_getElem ej, Option.getD_some] at e
  have hp := List.pairwise_iff_getElem.1 hd
  rcases Nat.lt_trichotomy i j with h | h | h
  ·
   exact absurd e (hp i j ei ej h)
  ·
   exact h
  ·
   exact absurd e.symm (hp j i ej ei h)

section
variable {P : Program} (w : World)
theorem run_append_rows (B : Nat) (t ty e : TypeId) (i : TypeInfo) (z : Value) (k bytes : Nat) (ht : P.underlying t = some (.slice e)) (hi : P.info? e = some i) (hz : i.zero = some z)
  (hsize : i.size = k) (hby : i.bytes = bytes) (hzs : z.cells.size = k) (hk : 0 < k) (a : Option Addr) (c n : Nat) (xs : List Value) (hown : OwnV w B e k a c n xs)
  (B' : Nat) (A : Option Addr) (c' m : Nat) (ys : List Value) (hr : Reads w B' A ys) (hy : ys.length = m * k) (hone : ∀ u ∈ ys, u.oneCell' = true)
  (h63 : n + m ≤ maxLen) (hbytes : (n + m) * bytes ≤ 140737488355328) (hbase : B ≤ w.heap.size) :
  ∃ a1 c1 w', (Builtin.append_ #[t, t] ty #[.slice a n c, .slice A m c']).run P w = .ok (.slice a1 (n + m) c1) w' ∧ OwnV w' B e k a1 c1 (n + m) (xs ++ ys) ∧ w.grownBy w' (Value.slice a n c).ownBlock ∧ ∀ b, (Value.slice a1 (n + m) c1).ownBlock = some b → (Value.slice a n c).ownBlock = some b ∨ b = w.heap.size := by
 have fin : ∀ {v' : Value} {w' : World}, w'.ownsRow B e k v' (n + m) (xs ++ ys) → ∃ a1 c1, v' = .slice a1 (n + m) c1 ∧ OwnV w' B e k a1 c1 (n + m) (xs ++ ys) := by
  intro v' w' h
  rcases h.2 with ⟨rfl, hn⟩ | ⟨g, cap, cur, rfl, _⟩
  ·
   refine ⟨none, 0, by rw [hn], ?_⟩
   unfold OwnV
   rw [hn]
   rw [hn] at h
   exact h
  ·
   exact ⟨_, cap, rfl, h⟩
 rcases A with _ | ad
 ·
  have hm : ys = [] := by
   rcases ys with _ | ⟨x, ys⟩
   ·
    rfl
   ·
    obtain ⟨ad, h, _⟩ := hr 0 (by simp)
    cases h
  subst hm
  have hm0 : m = 0 := by
   rcases Nat.eq_zero_or_pos m with h | h
   ·
    exact h
   ·
    have := Nat.mul_pos h hk
    simp at hy
    omega
  subst hm0
  have hrun : (Builtin.append_ #[t, t] ty #[.slice a n c, .slice none 0 c']).run P w = .ok (.slice a n c) w := by
   rcases hown.form with ⟨rfl, rfl, _, rfl⟩ | ⟨g, rfl, _, _, h1, _⟩
   ·
    simp [Builtin.append_, run_underlying ht, sizeOf, typeInfo, hi, Builtin.lenOf, Builtin.firstCells]
   ·
    simp [Builtin.append_, run_underlying ht, sizeOf, typeInfo, hi, Builtin.lenOf, Builtin.firstCells, h1, storeCells]
  exact ⟨a, c, w, by simpa using hrun, by simpa using hown, grownBy_refl w _, fun b hb => .inl (by
   cases a with
   | none => simp [Value.ownBlock] at hb
   | some ad => simpa [Value.ownBlock] using hb)⟩
 ·
  have hcells : ∀ j u, ys[j]? = some u → w.cell? (ad.add j) = some u := by
   intro j u hu
   have hj := (List.getElem?_eq_some_iff.1 hu).1
   obtain ⟨ad', h, _, hc⟩ := hr j hj
   injection h with h
   subst h
   rw [hc, ← hu, List.getElem?_eq_getElem hj]
  obtain ⟨v', w', hrun, h2, h3, -, h5⟩ := run_append_own_at (P := P) w B t ty e i z k bytes ht hi hz hsize hby hzs hk _ n xs hown ad m c' ys hy hcells hone h63 hbytes hbase
  obtain ⟨a1, c1, rfl, ho⟩ := fin h2
  refine ⟨a1, c1, w', hrun, ho, h3, fun b hb => ?_⟩
  rcases h5 with h5 | h5
  ·
   exact .inl (by rw [← h5]; exact hb)
  ·
   rw [h5] at hb
   exact .inr (Option.some.inj hb).symm
theorem wpList_append_rows {ops : Array Oper} {rest : List Oper} {o : Oper} {act : Act} {Q : Exit → Act → World → Prop} (hgd : o.guard = none) (s x : Operand) (t : TypeId)
  (ho : o.op = .call { callee := .builtin .append, args := #[s, x], argTypes := #[t, t] })
  (B : Nat) (e : TypeId) (i : TypeInfo) (z : Value) (k bytes : Nat) (ht : P.underlying t = some (.slice e)) (hi : P.info? e = some i) (hz : i.zero = some z)
  (hsize : i.size = k) (hby : i.bytes = bytes) (hzs : z.cells.size = k) (hk : 0 < k) (a : Option Addr) (n n1 c : Nat) (xs : List Value) (hs : act.eval s = .slice a n1 c) (hn : n1 = n) (hown : OwnV w B e k a c n xs)
  (B' : Nat) (A : Option Addr) (m m1 c' : Nat) (ys : List Value) (hx : act.eval x = .slice A m1 c') (hm : m1 = m) (hr : Reads w B' A ys) (hy : ys.length = m * k) (hone : ∀ u ∈ ys, u.oneCell' = true)
  (h63 : n + m ≤ maxLen) (hbytes : (n + m) * bytes ≤ 140737488355328) (hbase : B ≤ w.heap.size)
  (h : ∀ a1 c1 w', OwnV w' B e k a1 c1 (n + m) (xs ++ ys) → w.grownBy w' (Value.slice a n c).ownBlock → wpList P ops Q rest (act.put o.dst (.slice a1 (n + m) c1)) w') : wpList P ops Q (o :: rest) act w := by
 subst hn
 subst hm
 refine wpList_plain hgd fun K hK => ?_
 obtain ⟨a1, c1, w', hrun, h2, h3, -⟩ := run_append_rows (P := P) w B t o.type e i z k bytes ht hi hz hsize hby hzs hk a c n1 xs hown B' A c' m1 ys hr hy hone h63 hbytes hbase
 unfold Oper.wp execOp
 simp only [ho, resolve, invoke, builtin, Sem.run_bind, Sem.run_pure, Result.andThen_ok, List.map_toArray, List.map_cons, List.map_nil, hs, hx, hrun]
 exact hK _ _ (h a1 c1 w' h2 h3)
end
theorem step_append_s {P : Program} {W w : World} {rs : List Res} {e : TypeId} {k : Nat} {a : Option Addr} {c n : Nat} {xs : List Value} (S : Sep W w rs) (j : Nat) (hj : rs[j]? = some (ownV e k a c n xs))
  {ops : Array Oper} {o : Oper} {act : Act} {K : Act → World → Prop} {Q : Exit → Act → World → Prop} {E : Prop} (hgd : o.guard = none) (s x : Operand) (t : TypeId)
  (ho : o.op = .call { callee := .builtin .append, args := #[s, x], argTypes := #[t, t] })
  (i : TypeInfo) (z : Value) (bytes : Nat) (ht : P.underlying t = some (.slice e)) (hi : P.info? e = some i) (hz : i.zero = some z)
  (hsize : i.size = k) (hby : i.bytes = bytes) (hzs : z.cells.size = k) (hk : 0 < k) (n1 : Nat) (hs : act.eval s = .slice a n1 c) (hn : n1 = n)
  (B' : Nat) (A : Option Addr) (m m1 c' : Nat) (ys : List Value) (hx : act.eval x = .slice A m1 c') (hm : m1 = m) (hr : Reads w B' A ys) (hy : ys.length = m * k) (hone : ∀ u ∈ ys, u.oneCell' = true)
  (h63 : n + m ≤ maxLen) (hbytes : (n + m) * bytes ≤ 140737488355328)
  (h : ∀ a1 c1 w', Sep W w' (rs.set j (ownV e k a1 c1 (n + m) (xs ++ ys))) → K (act.put o.dst (.slice a1 (n + m) c1)) w') : if Region.wanted o (yielded ops act.tmps) = true then Oper.wp P o act w K Q else E := by
 have hw : Region.wanted o (yielded ops act.tmps) = true := by simp [Region.wanted, hgd]
 rw [if_pos hw]
 subst hn
 subst hm
 obtain ⟨a1, c1, w', hrun, h2, h3, h4⟩ := run_append_rows (P := P) w 0 t o.type e i z k bytes ht hi hz hsize hby hzs hk a c n1 xs (own_at S j hj) B' A c' m1 ys hr hy hone h63 hbytes (Nat.zero_le _)
 unfold Oper.wp execOp
 simp only [ho, resolve, invoke, builtin, Sem.run_bind, Sem.run_pure, Result.andThen_ok, List.map_toArray, List.map_cons, List.map_nil, hs, hx, hrun]
 refine h a1 c1 w' (Sd.put_new S j hj (Turned.of_grown h3) h2 fun b hb => ?_)
 have hb' : (Value.slice a1 (n1 + m1) c1).ownBlock = some b := by simpa [ownV] using hb
 rcases h4 b hb' with h5 | rfl
 ·
  exact .inl (by simp [ownV, h5])
 ·
  have := World.ownsRow.lt h2 _ hb'
  exact .inr ⟨Nat.le_refl _, this.2⟩
theorem own_zero {w : World} {B : Nat} {e : TypeId} {k : Nat} {a : Option Addr} {c n : Nat} {xs : List Value} (h : OwnV w B e k a c n xs) : a = none → c = 0 := fun he => by
 rcases h.form with ⟨_, _, _, h0⟩ | ⟨g, hg, _⟩
 ·
  exact h0
 ·
  rw [he] at hg; cases hg
end Go.Proofs.Ytojcdmgcbgpdmaa.Sv

namespace Go.Proofs.Ytojcdmgcbgpdmaa.L4
open Go.Op (bytesLess)

theorem less_irrefl : ∀ (a : List UInt8), bytesLess a a = false
 | [] => rfl
 | x :: r => by simp [bytesLess, less_irrefl r]
theorem less_total : ∀ (a b : List UInt8), a ≠ b → bytesLess a b = false → bytesLess b a = true
 | [], [], h, _ => absurd rfl h
 | _ :: _, [], _, _ => rfl
 | [], _ :: _, _, h => by simp [bytesLess] at h
 | a :: x, b :: y, hne, h => by
  simp only [bytesLess, Bool.or_eq_false_iff, decide_eq_false_iff_not, UInt8.not_lt] at h
  obtain ⟨h1, h2⟩ := h
  by_cases e : a = b
  ·
   subst e
   simp at h2
   have := less_total x y (fun e2 => hne (by rw [e2])) h2
   simp [bytesLess, this]
  ·
   have : b < a := by
    rcases UInt8.lt_or_eq_of_le h1 with h3 | h3
    ·
     exact h3
    ·
     exact absurd h3.symm e
   simp [bytesLess, this]
theorem less_asymm : ∀ (a b : List UInt8), bytesLess a b = true → bytesLess b a = false
 | [], [], h => by simp [bytesLess] at h
 | _ :: _, [], h => by simp [bytesLess] at h
 | [], _ :: _, _ => rfl
 | a :: x, b :: y, h => by
  simp only [bytesLess, Bool.or_eq_true, decide_eq_true_eq, Bool.and_eq_true, beq_iff_eq] at h
  simp only [bytesLess, Bool.or_eq_false_iff, decide_eq_false_iff_not, UInt8.not_lt, Bool.and_eq_false_imp, beq_iff_eq]
  rcases h with h | ⟨rfl, h⟩
  ·
   exact ⟨UInt8.le_of_lt h, fun e => by subst e; exact absurd h (UInt8.lt_irrefl _)⟩
  ·
   exact ⟨UInt8.le_refl _, fun _ => less_asymm x y h⟩
theorem less_trans : ∀ (a b c : List UInt8), bytesLess a b = true → bytesLess b c = true → bytesLess a c = true
 | [], [], _, h1, _ => by simp [bytesLess] at h1
 | _ :: _, [], _, h1, _ => by simp [bytesLess] at h1
 | _, _ :: _, [], _, h2 => by simp [bytesLess] at h2
 | [], _ :: _, _ :: _, _, _ => by simp [bytesLess]
 | a :: x, b :: y, c :: z, h1, h2 => by
  simp only [bytesLess, Bool.or_eq_true, decide_eq_true_eq, Bool.and_eq_true, beq_iff_eq] at h1 h2 ⊢
  rcases h1 with h1 | ⟨rfl, h1⟩ <;> rcases h2 with h2 | ⟨rfl, h2⟩
  ·
   exact .inl (UInt8.lt_trans h1 h2)
  ·
   exact .inl h1
  ·
   exact .inl h2
  ·
   exact .inr ⟨rfl, less_trans x y z h1 h2⟩
theorem less_append : ∀ (x y u v : List UInt8), x.length = y.length → bytesLess (x ++ u) (y ++ v) = (bytesLess x y || (x == y && bytesLess u v))
 | [], [], u, v, _ => by simp [bytesLess]
 | _ :: _, [], _, _, h => by simp at h
 | [], _ :: _, _, _, h => by simp at h
 | a :: x, b :: y, u, v, h => by
  have ih := less_append x y u v (by simpa using h)
  simp only [List.cons_append, bytesLess, ih, List.cons_beq_cons]
  cases decide (a < b) <;> cases hab : (a == b) <;> simp

def sgn (a b : Bool) : Int := if a then -1 else if b then 1 else 0
def cmpL (x y : List UInt8) : Int := sgn (bytesLess x y) (!(bytesLess x y || x == y))
theorem cmpL_less {x y : List UInt8} (h : bytesLess x y = true) : cmpL x y = -1 := by simp [cmpL, sgn, h]
theorem cmpL_refl (x : List UInt8) : cmpL x x = 0 := by simp [cmpL, sgn, less_irrefl]
theorem cmpL_more {x y : List UInt8} (h : bytesLess y x = true) : cmpL x y = 1 := by
 have h1 := less_asymm y x h
 have h2 : x ≠ y := fun e => by subst e; rw [less_irrefl] at h; cases h
 simp [cmpL, sgn, h1, h2]
theorem cmpL_cases (x y : List UInt8) : (bytesLess x y = true ∧ cmpL x y = -1) ∨ (x = y ∧ cmpL x y = 0) ∨ (bytesLess y x = true ∧ cmpL x y = 1) := by
 cases h : bytesLess x y with
 | true => exact .inl ⟨rfl, cmpL_less h⟩
 | false =>
  by_cases e : x = y
  ·
   subst e; exact .inr (.inl ⟨rfl, cmpL_refl x⟩)
  ·
   have := less_total x y e h
   exact .inr (.inr ⟨this, cmpL_more this⟩)
theorem cmpL_swap (x y : List UInt8) : cmpL y x = -cmpL x y := by
 rcases cmpL_cases x y with ⟨h, e⟩ | ⟨rfl, e⟩ | ⟨h, e⟩
 ·
  rw [e, cmpL_more h]; rfl
 ·
  rw [e]; rfl
 ·
  rw [e, cmpL_less h]
theorem cmpL_zero {x y : List UInt8} : cmpL x y = 0 ↔ x = y := by
 rcases cmpL_cases x y with ⟨h, e⟩ | ⟨rfl, e⟩ | ⟨h, e⟩
 ·
  rw [e]; exact ⟨fun h => by omega, fun e => by subst e; rw [less_irrefl] at h; cases h⟩
 ·
  exact ⟨fun _ => rfl, fun _ => e⟩
 ·
  rw [e]; exact ⟨fun h => by omega, fun e => by subst e; rw [less_irrefl] at h; cases h⟩
theorem cmpL_append (x y u v : List UInt8) (h : x.length = y.length) : cmpL (x ++ u) (y ++ v) = if x = y then cmpL u v else cmpL x y := by
 by_cases e : x = y
 ·
  subst e
  rw [if_pos rfl]
  have e2 : (x ++ u == x ++ v) = (u == v) := by rw [Bool.eq_iff_iff, beq_iff_eq, beq_iff_eq, List.append_cancel_left_eq]
  simp [cmpL, less_append, less_irrefl, e2]
 ·
  rw [if_neg e]
  have e2 : (x ++ u == y ++ v) = false := by
   rw [beq_eq_false_iff_ne]
   exact fun h2 => e (List.append_inj h2 h).1
  have e3 : (x == y) = false := by simpa using e
  simp only [cmpL, less_append x y u v h, e2, e3, Bool.false_and, Bool.or_false]

def be : Nat → Nat → List UInt8
 | 0, _ => []
 | k + 1, m => UInt8.ofNat (m / 256 ^ k % 256) :: be k m
@[simp] theorem be_length : ∀ (k m : Nat), (be k m).length = k
 | 0, _ => rfl
 | k + 1, m => by simp [be, be_length k m]
theorem be_mod : ∀ (k m : Nat), be k m = be k (m % 256 ^ k)
 | 0, _ => rfl
 | k + 1, m => by
  have e1 : m % 256 ^ (k + 1) / 256 ^ k % 256 = m / 256 ^ k % 256 := by
   rw [Nat.pow_succ, Nat.mod_mul_right_div_self, Nat.mod_mod]
  have e2 : m % 256 ^ (k + 1) % 256 ^ k = m % 256 ^ k := Nat.mod_mod_of_dvd m ⟨256, by rw [Nat.pow_succ]⟩
  simp only [be, e1]
  rw [be_mod k m, be_mod k (m % 256 ^ (k + 1)), e2]
theorem ofNat_lt {a b : Nat} (ha : a < 256) (hb : b < 256) : (UInt8.ofNat a < UInt8.ofNat b) ↔ a < b := by
 rw [UInt8.lt_iff_toNat_lt, UInt8.toNat_ofNat', UInt8.toNat_ofNat', Nat.mod_eq_of_lt ha, Nat.mod_eq_of_lt hb]
theorem ofNat_inj {a b : Nat} (ha : a < 256) (hb : b < 256) (h : UInt8.ofNat a = UInt8.ofNat b) : a = b := by
 have := congrArg UInt8.toNat h
 rwa [UInt8.toNat_ofNat', UInt8.toNat_ofNat', Nat.mod_eq_of_lt ha, Nat.mod_eq_of_lt hb] at this
theorem be_less : ∀ (k m n : Nat), m < 256 ^ k → n < 256 ^ k → bytesLess (be k m) (be k n) = decide (m < n)
 | 0, m, n, hm, hn => by
  simp at hm hn
  subst hm; subst hn
  rfl
 | k + 1, m, n, hm, hn => by
  have hp : 0 < 256 ^ k := Nat.pow_pos (by decide)
  have qm : m / 256 ^ k < 256 := Nat.div_lt_of_lt_mul (by rw [Nat.pow_succ] at hm; exact hm)
  have qn : n / 256 ^ k < 256 := Nat.div_lt_of_lt_mul (by rw [Nat.pow_succ] at hn; exact hn)
  have ih := be_less k (m % 256 ^ k) (n % 256 ^ k) (Nat.mod_lt _ hp) (Nat.mod_lt _ hp)
  rw [← be_mod, ← be_mod] at ih
  simp only [be, bytesLess, ih, Nat.mod_eq_of_lt qm, Nat.mod_eq_of_lt qn]
  have dm := Nat.div_add_mod m (256 ^ k)
  have dn := Nat.div_add_mod n (256 ^ k)
  rcases Nat.lt_trichotomy (m / 256 ^ k) (n / 256 ^ k) with h | h | h
  ·
   rw [decide_eq_true ((ofNat_lt qm qn).2 h), Bool.true_or]
   symm
   rw [decide_eq_true_iff]
   exact Nat.lt_of_div_lt_div h
  ·
   have e1 : (UInt8.ofNat (m / 256 ^ k) < UInt8.ofNat (n / 256 ^ k)) = False := by rw [h]; simp [UInt8.lt_irrefl]
   have e2 : (UInt8.ofNat (m / 256 ^ k) == UInt8.ofNat (n / 256 ^ k)) = true := by rw [h]; simp
   rw [decide_eq_false (by rw [e1]; exact id), e2, Bool.false_or, Bool.true_and]
   rw [h] at dm
   rw [decide_eq_decide]
   omega
  ·
   rw [decide_eq_false (fun h2 => by rw [ofNat_lt qm qn] at h2; omega)]
   have e2 : (UInt8.ofNat (m / 256 ^ k) == UInt8.ofNat (n / 256 ^ k)) = false := by
    rw [beq_eq_false_iff_ne]
    exact fun e => by have := ofNat_inj qm qn e; omega
   rw [e2, Bool.false_and, Bool.or_false]
   symm
   rw [decide_eq_false_iff_not]
   have := Nat.lt_of_div_lt_div h
   omega
theorem be_inj (k m n : Nat) (hm : m < 256 ^ k) (hn : n < 256 ^ k) (h : be k m = be k n) : m = n := by
 have h1 := be_less k m n hm hn
 have h2 := be_less k n m hn hm
 rw [h, less_irrefl] at h1
 rw [h, less_irrefl] at h2
 have a := of_decide_eq_false h1.symm
 have b := of_decide_eq_false h2.symm
 omega

structure K where
 kind : Int
 n : Int
 text : ByteArray
def K.t (k : K) : List UInt8 := k.text.data.toList
theorem K.ext' {a b : K} (h1 : a.kind = b.kind) (h2 : a.n = b.n) (h3 : a.t = b.t) : a = b := by
 obtain ⟨k1, n1, ⟨⟨t1⟩⟩⟩ := a
 obtain ⟨k2, n2, ⟨⟨t2⟩⟩⟩ := b
 simp only [K.t] at h1 h2 h3
 subst h1; subst h2; subst h3
 rfl
def K.zero : K := ⟨0, 0, ⟨#[]⟩⟩
def chr (b : UInt8) : Bool := (decide (97 ≤ b.toNat) && decide (b.toNat ≤ 122)) || (decide (48 ≤ b.toNat) && decide (b.toNat ≤ 57))
def isT (l : List UInt8) : Bool := l.all chr && decide (l.length ≤ 12)
def isK (k : K) : Bool := L1.inB k.kind 1 3 && L1.inB k.n (-1000000000000) 1000000000000 && (k.kind != 2 || k.n == 0) && isT k.t && (k.kind != 1 || k.t == [])
structure Good (k : K) : Prop where
 k0 : 1 ≤ k.kind
 k1 : k.kind ≤ 3
 n0 : -1000000000000 ≤ k.n
 n1 : k.n ≤ 1000000000000
 n2 : k.kind = 2 → k.n = 0
 t : isT k.t = true
 t1 : k.kind = 1 → k.t = []
theorem isK_iff {k : K} : isK k = true ↔ Good k := by
 unfold isK
 simp only [Bool.and_eq_true, Bool.or_eq_true, bne_iff_ne, beq_iff_eq, L1.inB_true]
 constructor
 ·
  rintro ⟨⟨⟨⟨⟨a, b⟩, c, d⟩, e⟩, f⟩, g⟩
  exact ⟨a, b, c, d, fun h => e.resolve_left (fun h2 => h2 h), f, fun h => g.resolve_left (fun h2 => h2 h)⟩
 ·
  rintro ⟨a, b, c, d, e, f, g⟩
  refine ⟨⟨⟨⟨⟨a, b⟩, c, d⟩, ?_⟩, f⟩, ?_⟩
  ·
   by_cases h : k.kind = 2
   ·
    exact .inr (e h)
   ·
    exact .inl h
  ·
   by_cases h : k.kind = 1
   ·
    exact .inr (g h)
   ·
    exact .inl h
def cmpK (a b : K) : Int :=
 if !(isK a) || !(isK b) then 0 else if a.kind ≠ b.kind then sgn (decide (a.kind < b.kind)) true else if a.n ≠ b.n then sgn (decide (a.n < b.n)) true else cmpL a.t b.t
def num6 (k : K) : List UInt8 := if k.kind = 2 then [] else be 6 (k.n + 1000000000000).toNat
def encU (k : K) : List UInt8 := if isK k then UInt8.ofNat k.kind.toNat :: (num6 k ++ k.t) else []
theorem encU_good {k : K} (h : isK k = true) : encU k = UInt8.ofNat k.kind.toNat :: (num6 k ++ k.t) := by unfold encU; rw [if_pos h]
theorem cmpL_cons (a b : UInt8) (x y : List UInt8) : cmpL (a :: x) (b :: y) = if a = b then cmpL x y else cmpL [a] [b] := by
 have := cmpL_append [a] [b] x y rfl
 simpa using this
theorem cmpL_one {a b : Nat} (ha : a < 256) (hb : b < 256) (h : a ≠ b) : cmpL [UInt8.ofNat a] [UInt8.ofNat b] = sgn (decide (a < b)) true := by
 rcases Nat.lt_or_gt_of_ne h with h | h
 ·
  rw [cmpL_less (by simp [bytesLess, ofNat_lt ha hb, h])]
  simp [sgn, h]
 ·
  rw [cmpL_more (by simp [bytesLess, ofNat_lt hb ha, h])]
  have : ¬ a < b := by omega
  simp [sgn, this]
theorem cmp_enc {a b : K} (ha : isK a = true) (hb : isK b = true) : cmpL (encU a) (encU b) = cmpK a b := by
 have ga := isK_iff.1 ha
 have gb := isK_iff.1 hb
 have k1 := ga.k0; have k2 := ga.k1; have k3 := gb.k0; have k4 := gb.k1
 rw [encU_good ha, encU_good hb, cmpL_cons]
 unfold cmpK
 rw [ha, hb]
 simp only [Bool.not_true, Bool.or_self, Bool.false_eq_true, if_false]
 by_cases hk : a.kind = b.kind
 ·
  rw [if_pos (by rw [hk]), if_neg (fun h => h hk)]
  by_cases h2 : a.kind = 2
  ·
   have e1 : num6 a = [] := by unfold num6; rw [if_pos h2]
   have e2 : num6 b = [] := by unfold num6; rw [if_pos (by omega)]
   rw [e1, e2, if_neg (fun h => h (by rw [ga.n2 h2, gb.n2 (by omega)]))]
   rfl
  ·
   have e1 : num6 a = be 6 (a.n + 1000000000000).toNat := by unfold num6; rw [if_neg h2]
   have e2 : num6 b = be 6 (b.n + 1000000000000).toNat := by unfold num6; rw [if_neg (by omega)]
   have a0 := ga.n0; have a1 := ga.n1; have b0 := gb.n0; have b1 := gb.n1
   have p6 : (256 : Nat) ^ 6 = 281474976710656 := by decide
   rw [e1, e2, cmpL_append _ _ _ _ (by simp)]
   by_cases hn : a.n = b.n
   ·
    rw [if_pos (by rw [hn]), if_neg (fun h => h hn)]
   ·
    have hne : (a.n + 1000000000000).toNat ≠ (b.n + 1000000000000).toNat := by omega
    have hbn : be 6 (a.n + 1000000000000).toNat ≠ be 6 (b.n + 1000000000000).toNat := fun h => hne (be_inj 6 _ _ (by rw [p6]; omega) (by rw [p6]; omega) h)
    rw [if_neg hbn, if_pos hn]
    have e3 : (be 6 (a.n + 1000000000000).toNat == be 6 (b.n + 1000000000000).toNat) = false := by simpa using hbn
    unfold cmpL
    rw [e3, be_less 6 _ _ (by rw [p6]; omega) (by rw [p6]; omega), Bool.or_false]
    rw [show decide ((a.n + 1000000000000).toNat < (b.n + 1000000000000).toNat) = decide (a.n < b.n) by rw [decide_eq_decide]; omega]
    cases decide (a.n < b.n) <;> rfl
 ·
  have hne : a.kind.toNat ≠ b.kind.toNat := by omega
  have hbn : UInt8.ofNat a.kind.toNat ≠ UInt8.ofNat b.kind.toNat := fun h => hne (ofNat_inj (by omega) (by omega) h)
  rw [if_neg hbn, if_pos hk, cmpL_one (by omega) (by omega) hne]
  rw [show decide (a.kind.toNat < b.kind.toNat) = decide (a.kind < b.kind) by rw [decide_eq_decide]; omega]
theorem enc_inj {a b : K} (ha : isK a = true) (hb : isK b = true) (h : encU a = encU b) : a = b := by
 have ga := isK_iff.1 ha
 have gb := isK_iff.1 hb
 have k1 := ga.k0; have k2 := ga.k1; have k3 := gb.k0; have k4 := gb.k1
 have hc := cmp_enc ha hb
 rw [h, cmpL_refl] at hc
 unfold cmpK at hc
 rw [ha, hb] at hc
 simp only [Bool.not_true, Bool.or_self, Bool.false_eq_true, if_false] at hc
 by_cases hk : a.kind = b.kind
 ·
  rw [if_neg (fun h => h hk)] at hc
  by_cases hn : a.n = b.n
  ·
   rw [if_neg (fun h => h hn)] at hc
   exact K.ext' hk hn (cmpL_zero.1 hc.symm)
  ·
   rw [if_pos hn] at hc
   unfold sgn at hc
   split at hc <;> simp at hc
 ·
  rw [if_pos hk] at hc
  unfold sgn at hc
  split at hc <;> simp at hc
theorem cmpK_zero {a b : K} (ha : isK a = true) (hb : isK b = true) : cmpK a b = 0 ↔ a = b := by
 rw [← cmp_enc ha hb, cmpL_zero]
 exact ⟨enc_inj ha hb, fun h => by rw [h]⟩
theorem cmpK_swap (a b : K) : cmpK b a = -cmpK a b := by
 cases ha : isK a with
 | false => simp [cmpK, ha]
 | true => cases hb : isK b with
  | false => simp [cmpK, hb]
  | true => rw [← cmp_enc ha hb, ← cmp_enc hb ha, cmpL_swap]
end Go.Proofs.Ytojcdmgcbgpdmaa.L4

namespace Go.Proofs.Ytojcdmgcbgpdmaa.L1

def digs (u : Nat) : List UInt8 :=
 if _h : u = 0 then [] else digs (u / 10) ++ [UInt8.ofNat (48 + u % 10)]
termination_by u
decreasing_by omega

theorem decFrom_snoc (l : List UInt8) (b : UInt8) : ∀ acc, Lib.decFrom acc (l ++ [b]) = (Lib.decFrom acc l).bind fun n => (Lib.digitVal b).map fun d => n * 10 + d := by
 induction l with
 | nil =>
  intro acc
  simp only [List.nil_append, Lib.decFrom]
  cases Lib.digitVal b <;> rfl
 | cons a t ih =>
  intro acc
  simp only [List.cons_append, Lib.decFrom]
  cases Lib.digitVal a with
  | none => rfl
  | some d => exact ih _

theorem digitVal_dig (d : Nat) (h : d < 10) : Lib.digitVal (UInt8.ofNat (48 + d)) = some d := by
 have e : (UInt8.ofNat (48 + d)).toNat = 48 + d := by
  rw [UInt8.toNat_ofNat']; omega
 unfold Lib.digitVal
 rw [if_pos (by rw [e]; omega), e]
 congr 1; omega

theorem decFrom_dec (u : Nat) : Lib.decFrom 0 (Lib.decDigits u) = some u := by
 induction u using Nat.strongRecOn with
 | _ u ih =>
  by_cases h10 : u < 10
  ·
   rw [Lib.decDigits_one h10]
   simp only [Lib.decFrom, digitVal_dig u h10]
   simp
  ·
   rw [Lib.decDigits, dif_neg h10, decFrom_snoc, ih (u / 10) (by omega), digitVal_dig _ (by omega)]
   simp only [Option.bind_some, Option.map_some]
   congr 1; omega

theorem nDigits_pow (k u : Nat) (h : u < 10 ^ (k + 1)) : Lib.nDigits u ≤ k + 1 := by
 induction k generalizing u with
 | zero => rw [Lib.nDigits_small (by simpa using h)]; exact Nat.le_refl _
 | succ k ih =>
  by_cases h10 : u < 10
  ·
   rw [Lib.nDigits_small h10]; omega
  ·
   rw [Lib.nDigits_big h10]
   have := ih (u / 10) (by rw [Nat.pow_succ] at h; omega)
   omega

def Num (l : List UInt8) (n : Int) : Prop := 0 ≤ n ∧ n ≤ 1000000000000 ∧ Lib.itoa n = l

theorem itoa_nonneg {n : Int} (h : 0 ≤ n) : Lib.itoa n = Lib.decDigits n.toNat := by
 unfold Lib.itoa; rw [if_neg (by omega)]
theorem Num.length {l : List UInt8} {n : Int} (h : Num l n) : 1 ≤ l.length ∧ l.length ≤ 13 := by
 obtain ⟨h0, h1, h2⟩ := h
 rw [← h2, itoa_nonneg h0, Lib.decDigits_length]
 exact ⟨Lib.nDigits_pos _, nDigits_pow 12 _ (by show _ < 10000000000000; omega)⟩
theorem Num.dec {l : List UInt8} {n : Int} (h : Num l n) : Lib.decFrom 0 l = some n.toNat := by
 obtain ⟨h0, h1, h2⟩ := h
 rw [← h2, itoa_nonneg h0]; exact decFrom_dec _
theorem Num.digit {l : List UInt8} {n : Int} (h : Num l n) (k : Nat) (b : UInt8) (hb : l[k]? = some b) : 48 ≤ b.toNat ∧ b.toNat ≤ 57 := by
 obtain ⟨d, hd⟩ := Lib.digit_of_decFrom l 0 _ h.dec k b hb
 unfold Lib.digitVal at hd
 split at hd
 ·
  assumption
 ·
  cases hd
theorem Num.atoi {l : List UInt8} {n : Int} (h : Num l n) : Lib.atoiAll l = .ok n := by
 have hl := h.length
 have hd := h.dec
 rw [Lib.atoiAll_short l (by omega)]
 have ha : Lib.atoi l = some n := by
  cases l with
  | nil => simp at hl
  | cons b r =>
   have hb := h.digit 0 b rfl
   have e1 : (b == 45) = false := by
    rw [beq_eq_false_iff_ne]; intro e; subst e; revert hb; decide
   have e2 : (b == 43) = false := by
    rw [beq_eq_false_iff_ne]; intro e; subst e; revert hb; decide
   simp only [Lib.atoi, e1, e2, Lib.decNat, List.isEmpty_cons, Bool.false_eq_true, if_false, hd, Option.map_some]
   congr 1
   have := h.1
   omega
 rw [ha]; rfl
def pOk (l : List UInt8) : Bool := match Lib.atoiAll l with
 | .ok v => decide (0 ≤ v) && decide (v ≤ 1000000000000) && (Lib.itoa v == l)
 | _ => false
def pVal (l : List UInt8) : Int := if pOk l then (match Lib.atoiAll l with | .ok v => v | _ => 0) else 0

theorem Num.ok {l : List UInt8} {n : Int} (h : Num l n) : pOk l = true := by
 unfold pOk; rw [h.atoi]; simp [h.1, h.2.1, h.2.2]
theorem Num.val {l : List UInt8} {n : Int} (h : Num l n) : pVal l = n := by
 unfold pVal; rw [h.ok, h.atoi]; rfl
end Go.Proofs.Ytojcdmgcbgpdmaa.L1

namespace Go.Proofs.Ytojcdmgcbgpdmaa.L4
open L1

def val (l : List UInt8) : Nat := l.foldl (fun n b => n * 256 + b.toNat) 0
def cand : List UInt8 → Option K
 | [] => none
 | b :: r => if b.toNat = 2 then some ⟨2, 0, ⟨r.toArray⟩⟩ else if r.length < 6 then none else some ⟨b.toNat, (val (r.take 6) : Int) - 1000000000000, ⟨(r.drop 6).toArray⟩⟩
def decO (l : List UInt8) : Option K := (cand l).filter isK
def hd (s : List UInt8) : List UInt8 := s.takeWhile (· != 39)
end Go.Proofs.Ytojcdmgcbgpdmaa.L4

namespace Go.Proofs.Ytojcdmgcbgpdmaa.L2
open Go.ChangeShapes Go.WideShapes Go.ChangeAt Go.RowKit Mem Sl Ex

def Byt (l : List Int) : Prop := ∀ x ∈ l, 0 ≤ x ∧ x ≤ 255
def RdE (l : List Int) (off : Int) : Ending := .returned (.tuple #[.int .i64 (rdN l off), .int .i64 (rdE l off), .bool (rdB l off)])
theorem RdE.none {l : List Int} {off : Int} (h : rd l off = none) : RdE l off = .returned (.tuple #[.int .i64 0, .int .i64 0, .bool false]) := by
 unfold RdE rdN rdE rdB
 rw [h]; rfl
theorem RdE.some {l : List Int} {off v e : Int} {m : Nat} (h : rd l off = some (v, m)) (he : off + m = e) : RdE l off = .returned (.tuple #[.int .i64 v, .int .i64 e, .bool true]) := by
 unfold RdE
 rw [rdN_of h, rdE_of h, rdB_of h, he]
def Mid (l : List Int) (o k : Nat) (v : Int) : Prop := 0 ≤ v ∧ v < 128 ^ k ∧ rd l o = rdAux k v (l.drop (o + k))
theorem Mid.start (l : List Int) (o : Nat) : Mid l o 0 0 := ⟨by omega, by decide, by
 unfold rd
 rw [if_pos (by omega)]
 simp⟩
theorem Mid.cons {l : List Int} {o k : Nat} {v : Int} (h : Mid l o k v) (hk : o + k < l.length) (h6 : k < 6) :
  rd l o = if l[o + k] < 128 then (if (l[o + k] = 0 ∧ 0 < k) ∨ 1000000000000 < v + l[o + k] % 128 * 128 ^ k then none else some (v + l[o + k] % 128 * 128 ^ k, k + 1)) else rdAux (k + 1) (v + l[o + k] % 128 * 128 ^ k) (l.drop (o + (k + 1))) := by
 rw [h.2.2, List.drop_eq_getElem_cons hk, rdAux, if_neg (by omega)]
 rfl
theorem Mid.next {l : List Int} {o k : Nat} {v : Int} (h : Mid l o k v) (hk : o + k < l.length) (h6 : k < 6) (hc : ¬ l[o + k] < 128) : Mid l o (k + 1) (v + l[o + k] % 128 * 128 ^ k) := by
 have hp : (0 : Int) < 128 ^ k := Int.pow_pos (by decide)
 have h1 := Int.mul_nonneg (show 0 ≤ l[o + k] % 128 by omega) (Int.le_of_lt hp)
 have h2 : l[o + k] % 128 * 128 ^ k ≤ 127 * 128 ^ k := Int.mul_le_mul_of_nonneg_right (by omega) (Int.le_of_lt hp)
 obtain ⟨h3, h4, _⟩ := h
 refine ⟨by omega, ?_, ?_⟩
 ·
  rw [Int.pow_succ]
  generalize (128 : Int) ^ k = p at *
  omega
 ·
  rw [Mid.cons ⟨h3, h4, by assumption⟩ hk h6, if_neg hc]

end Go.Proofs.Ytojcdmgcbgpdmaa.L2

namespace Go.Proofs.Ytojcdmgcbgpdmaa.L2
open Go.ChangeShapes Go.WideShapes Go.ChangeAt Go.RowKit Mem Sl Ex

def rbB (l : List Int) (off most : Int) : Bool := rdB l off && decide (rdN l off ≤ most) && decide (rdN l off ≤ (l.length : Int) - rdE l off)
def rbL (l : List Int) (off most : Int) : List Int := if rbB l off most = true then (l.drop (rdE l off).toNat).take (rdN l off).toNat else []
def rbE (l : List Int) (off most : Int) : Int := if rbB l off most = true then rdE l off + rdN l off else 0
def GaveT (w : World) (B : Nat) (e : TypeId) (k : IntKind) (l : List Int) (v : Int) (b : Bool) (en : Ending) (w' : World) : Prop := ∃ a c, en = .returned (.tuple #[.slice a l.length c, .int .i64 v, .bool b]) ∧ Own w' B e k a c l ∧ Below B w w'
theorem GaveT.mk {w w' : World} {B : Nat} {e : TypeId} {k : IntKind} {l : List Int} {v v' : Int} {b b' : Bool} {a : Option Addr} {c n : Nat} (hn : n = l.length) (hv : v' = v) (hb : b' = b) (ho : Own w' B e k a c l) (hw : Below B w w') :
  GaveT w B e k l v b (.returned (.tuple #[.slice a n c, .int .i64 v', .bool b'])) w' := ⟨a, c, by rw [hn, hv, hb], ho, hw⟩



def dc (l : List Int) : Int → Nat → Option (List Int × Int)
 | off, 0 => some ([], off)
 | off, n + 1 => match rd l off with
  | none => none
  | some (v, m) => (dc l (off + m) n).map fun p => (v :: p.1, p.2)
def DcMid (l : List Int) (off : Int) (n k : Nat) (acc : List Int) (o : Int) : Prop := acc.length = k ∧ dc l off n = (dc l o (n - k)).map fun p => (acc ++ p.1, p.2)
theorem DcMid.start (l : List Int) (off : Int) (n : Nat) : DcMid l off n 0 [] off := ⟨rfl, by simp⟩
theorem DcMid.none {l : List Int} {off : Int} {n k : Nat} {acc : List Int} {o : Int} (h : DcMid l off n k acc o) (hk : k < n) (hr : rdB l o = false) : dc l off n = none := by
 rw [h.2, show n - k = (n - (k + 1)) + 1 by omega, dc]
 have e : rd l o = Option.none := by
  unfold rdB at hr
  cases hh : rd l o with
  | none => rfl
  | some p => rw [hh] at hr; cases hr
 rw [e]
 rfl
theorem DcMid.next {l : List Int} {off : Int} {n k : Nat} {acc : List Int} {o : Int} (h : DcMid l off n k acc o) (hk : k < n) (hr : rdB l o = true) : DcMid l off n (k + 1) (acc ++ [rdN l o]) (rdE l o) := by
 obtain ⟨h1, h2⟩ := rd_some hr
 refine ⟨by simp [h.1], ?_⟩
 rw [h.2, show n - k = (n - (k + 1)) + 1 by omega, dc, h1]
 simp only [Option.map_map]
 rw [show o + ((rdE l o - o).toNat : Int) = rdE l o by omega]
 congr 1
 funext p
 simp
end Go.Proofs.Ytojcdmgcbgpdmaa.L2

namespace Go.Proofs.Ytojcdmgcbgpdmaa.L4
open Go.ChangeShapes Go.WideShapes Go.ChangeAt Go.RowKit Mem Sl Ex L2

def K.v (k : K) : Value := .agg #[.int .i64 k.kind, .int .i64 k.n, .string k.text]
def K.cells (k : K) : Array Value := #[.int .i64 k.kind, .int .i64 k.n, .string k.text]

theorem isT_no {s : List UInt8} (j : Nat) (b : UInt8) (hb : s[j]? = some b) (h : chr b = false) : isT s = false := by
  unfold isT
  rw [Bool.and_eq_false_iff]
  left
  rw [List.all_eq_false]
  exact ⟨b, List.mem_of_getElem? hb, by simp [h]⟩
theorem isT_all {s : List UInt8} (h : ∀ j (hj : j < s.length), chr s[j] = true) : isT s = decide (s.length ≤ 12) := by
  unfold isT
  rw [show s.all chr = true by rw [List.all_eq_true]; intro x hx; obtain ⟨i, hi, rfl⟩ := List.getElem_of_mem hx; exact h i hi, Bool.true_and]

theorem l4Text_any (s : ByteArray) (hs : s.size ≤ 281474976710656) (w : World) :
    Calls Try.prog 168 #[.string s] w fun e w' => e = .returned (.bool (isT s.data.toList)) ∧ w = w' := by
  have hsz : s.data.toList.length = s.size := by rw [Array.length_toList]; rfl
  have HZ := Lib.hid hsz
  clear hsz
  go_enter Try.func168, Try.ntmps168
  go_wp2
  go_loop [3] (fun i => ∃ k : Nat, k ≤ s.size ∧ i = .int .i64 k ∧ Hid (∀ j (hj : j < s.data.toList.length), j < k → chr s.data.toList[j] = true)) (fun i => s.size - (intOf i).toNat)
  case atStart => exact ⟨0, Nat.zero_le _, rfl, fun j hj h => by omega⟩
  case round =>
    obtain ⟨k, hk, rfl, hrel⟩ := hrel
    by_cases hlt : k < s.size
    · have hb : s.data.toList[k]? = some s[k] := by
        rw [List.getElem?_eq_getElem (by rw [HZ.out]; exact hlt)]
        rfl
      have HB := Lib.hid hb
      clear hb
      have hT : ∀ b : Bool, chr s[k] = b → Hid (chr s[k] = b) := fun b h => h
      rcases (show ((s[k].toNat : Int) < 48 ∧ chr s[k] = false) ∨ ((48 ≤ (s[k].toNat : Int) ∧ (s[k].toNat : Int) ≤ 57) ∧ chr s[k] = true) ∨ ((58 ≤ (s[k].toNat : Int) ∧ (s[k].toNat : Int) ≤ 96) ∧ chr s[k] = false) ∨ ((97 ≤ (s[k].toNat : Int) ∧ (s[k].toNat : Int) ≤ 122) ∧ chr s[k] = true) ∨ ((122 < (s[k].toNat : Int)) ∧ chr s[k] = false) by
        unfold chr
        simp only [Bool.or_eq_true, Bool.and_eq_true, Bool.or_eq_false_iff, Bool.and_eq_false_iff, decide_eq_true_eq, decide_eq_false_iff_not]
        omega) with ⟨h1, h2⟩ | ⟨⟨h1, h3⟩, h2⟩ | ⟨⟨h1, h3⟩, h2⟩ | ⟨⟨h1, h3⟩, h2⟩ | ⟨h1, h2⟩
      all_goals
        have H2 := hT _ h2
        clear h2 hT
        go_wp2
        first
        | (go_round
           case rel => exact ⟨k + 1, by omega, by go_num, fun j hj h => by
              by_cases e : j < k
              · exact hrel.out j hj e
              · obtain rfl : j = k := by omega
                have := HB.out
                rw [List.getElem?_eq_getElem hj] at this
                rw [Option.some.inj this]
                exact H2.out⟩
           case measure => simp [intOf]; omega)
        | (go_ret
           exact ⟨by rw [isT_no k _ HB.out H2.out]; rfl, rfl⟩)
    · by_cases h12 : (s.size : Int) ≤ 12
      all_goals
        go_wp2
        go_ret
        obtain rfl : k = s.size := by omega
        have e1 := isT_all (fun j hj => hrel.out j hj (by rw [HZ.out] at hj; exact hj))
        rw [HZ.out] at e1
        refine ⟨?_, rfl⟩
        rw [e1]
        first
        | (rw [decide_eq_true (show s.size ≤ 12 by omega)]; rfl)
        | (rw [decide_eq_false (show ¬ s.size ≤ 12 by omega)]; rfl)
set_option maxHeartbeats 2000000 in
theorem specIsKey_any (k : K) (hs : k.text.size ≤ 281474976710656) (w : World) :
    Calls Try.prog 85 #[k.v] w fun e w' => e = .returned (.bool (isK k)) ∧ Below w.heap.size w w' := by
  obtain ⟨kd, n, s⟩ := k
  unfold K.v
  obtain ⟨b1, hb1⟩ : ∃ b, L1.inB kd 1 3 = b := ⟨_, rfl⟩
  obtain ⟨b2, hb2⟩ : ∃ b, L1.inB n (-1000000000000) 1000000000000 = b := ⟨_, rfl⟩
  obtain ⟨b4, hb4⟩ : ∃ b, isT s.data.toList = b := ⟨_, rfl⟩
  have H1 := Lib.hid (fun w => L1.l1In_any kd 1 3 w)
  have H2 := Lib.hid (fun w => L1.l1In_any n (-1000000000000) 1000000000000 w)
  have H4 := Lib.hid (fun w => l4Text_any s hs w)
  rw [hb1] at H1
  rw [hb2] at H2
  rw [hb4] at H4
  obtain ⟨c0, hc0⟩ : ∃ b, (n == 0) = b := ⟨_, rfl⟩
  obtain ⟨ct, hct⟩ : ∃ b, (s.toList == []) = b := ⟨_, rfl⟩
  have HE := show isK ⟨kd, n, s⟩ = (b1 && b2 && (kd != 2 || c0) && b4 && (kd != 1 || ct)) by unfold isK; rw [hb1, hb2, show K.t ⟨kd, n, s⟩ = s.data.toList from rfl, hb4, ← hct, ByteArray.toList_eq, ← hc0]
  have HB := Lib.hid (fun o => below_alloc (Below.refl w.heap.size w) o (Nat.le_refl _))
  clear hb1 hb2 hb4
  rcases (show kd = 1 ∨ kd = 2 ∨ (kd ≠ 1 ∧ kd ≠ 2) by omega) with rfl | rfl | ⟨hk1, hk2⟩
  · rw [show isK ⟨1, n, s⟩ = (b1 && (b2 && (b4 && ct))) by rw [HE]; cases b1 <;> cases b2 <;> cases b4 <;> cases ct <;> rfl]
    clear HE hc0
    rcases (show b1 = false ∨ (b1 = true ∧ b2 = false) ∨ (b1 = true ∧ b2 = true ∧ b4 = false) ∨ (b1 = true ∧ b2 = true ∧ b4 = true) by cases b1 <;> cases b2 <;> cases b4 <;> simp) with rfl | ⟨rfl, rfl⟩ | ⟨rfl, rfl, rfl⟩ | ⟨rfl, rfl, rfl⟩
    all_goals
      go_enter Try.func85, Try.ntmps85
      go_wp2_with (first
        | (go_at_call 91; with_reducible refine (H1.out _).mono ?_; rintro e w1 ⟨rfl, rfl⟩)
        | (go_at_call 91; with_reducible refine (H2.out _).mono ?_; rintro e w1 ⟨rfl, rfl⟩)
        | (go_at_call 168; refine (H4.out _).mono ?_; rintro e w1 ⟨rfl, rfl⟩))
      go_ret
      exact ⟨rfl, HB.out _⟩
  · rw [show isK ⟨2, n, s⟩ = (b1 && (b2 && (c0 && b4))) by rw [HE]; cases b1 <;> cases b2 <;> cases b4 <;> cases c0 <;> rfl]
    clear HE hct
    rcases (show b1 = false ∨ (b1 = true ∧ b2 = false) ∨ (b1 = true ∧ b2 = true ∧ c0 = false) ∨ (b1 = true ∧ b2 = true ∧ c0 = true ∧ b4 = false) ∨ (b1 = true ∧ b2 = true ∧ c0 = true ∧ b4 = true) by cases b1 <;> cases b2 <;> cases c0 <;> cases b4 <;> simp) with rfl | ⟨rfl, rfl⟩ | ⟨rfl, rfl, rfl⟩ | ⟨rfl, rfl, rfl, rfl⟩ | ⟨rfl, rfl, rfl, rfl⟩
    all_goals
      go_enter Try.func85, Try.ntmps85
      go_wp2_with (first
        | (go_at_call 91; with_reducible refine (H1.out _).mono ?_; rintro e w1 ⟨rfl, rfl⟩)
        | (go_at_call 91; with_reducible refine (H2.out _).mono ?_; rintro e w1 ⟨rfl, rfl⟩)
        | (go_at_call 168; refine (H4.out _).mono ?_; rintro e w1 ⟨rfl, rfl⟩))
      go_ret
      exact ⟨rfl, HB.out _⟩
  · have hk1' : (kd == 1) = false := by simpa using hk1
    have hk2' : (kd == 2) = false := by simpa using hk2
    rw [show isK ⟨kd, n, s⟩ = (b1 && (b2 && b4)) by rw [HE]; unfold bne; rw [hk1', hk2']; cases b1 <;> cases b2 <;> cases b4 <;> rfl]
    clear HE hct hc0
    replace hk1 : ¬ kd = 1 := hk1
    replace hk2 : ¬ kd = 2 := hk2
    rcases (show b1 = false ∨ (b1 = true ∧ b2 = false) ∨ (b1 = true ∧ b2 = true ∧ b4 = false) ∨ (b1 = true ∧ b2 = true ∧ b4 = true) by cases b1 <;> cases b2 <;> cases b4 <;> simp) with rfl | ⟨rfl, rfl⟩ | ⟨rfl, rfl, rfl⟩ | ⟨rfl, rfl, rfl⟩
    all_goals
      go_enter Try.func85, Try.ntmps85
      go_wp2_with (first
        | (go_at_call 91; with_reducible refine (H1.out _).mono ?_; rintro e w1 ⟨rfl, rfl⟩)
        | (go_at_call 91; with_reducible refine (H2.out _).mono ?_; rintro e w1 ⟨rfl, rfl⟩)
        | (go_at_call 168; refine (H4.out _).mono ?_; rintro e w1 ⟨rfl, rfl⟩))
      go_ret
      exact ⟨rfl, HB.out _⟩
end Go.Proofs.Ytojcdmgcbgpdmaa.L4

namespace Go.Proofs.Ytojcdmgcbgpdmaa.L4
open Go.Op (bytesLess)
open Go.ChangeShapes Go.WideShapes Go.ChangeAt Go.RowKit Mem Sl Ex L2

theorem l4Sign_any (a b : Bool) (w : World) :
    Calls Try.prog 169 #[.bool a, .bool b] w fun e w' => e = .returned (.int .i64 (sgn a b)) ∧ w = w' := by
  cases a <;> cases b <;>
    (go_enter Try.func169, Try.ntmps169
     go_wp2
     go_ret
     exact ⟨rfl, rfl⟩)

def Box (w : World) (g : Nat) (t : TypeId) (k : K) : Prop := Row w g t k.cells
theorem Box.facts {w : World} {g : Nat} {t : TypeId} {kd n : Int} {s : ByteArray} (h : Box w g t ⟨kd, n, s⟩) : w.cell? ⟨g, 0, none⟩ = some (.int .i64 kd) ∧ w.cell? ⟨g, 1, none⟩ = some (.int .i64 n) ∧ w.cell? ⟨g, 2, none⟩ = some (.string s) := by
  have h' : Row w g t #[.int .i64 kd, .int .i64 n, .string s] := h
  have c0 := h'.cell 0
  have c1 := h'.cell 1
  have c2 := h'.cell 2
  simp at c0 c1 c2
  exact ⟨c0, c1, c2⟩
theorem Box.below {w w' : World} {g : Nat} {t : TypeId} {k : K} (h : Box w g t k) (hb : Below w.heap.size w w') : Box w' g t k := Row.below h hb (Row.inside h)
theorem Box.made (w : World) (t : TypeId) (k : K) : Box (w.alloc (.cells k.cells t)) w.heap.size t k := Row.made w t k.cells
theorem Box.more {w : World} {g : Nat} {t : TypeId} {k : K} (h : Box w g t k) (o : Obj) : Box (w.alloc o) g t k := Row.more h o

theorem string_gtr (t : TypeId) (a b : ByteArray) : binOp .gtr t (.string a) (.string b) = pure (.bool (!(bytesLess a.toList b.toList) && !(a.toList == b.toList))) := by simp [binOp, Op.stringOp]
theorem cmpK_bad1 {a b : K} (h : isK a = false) : cmpK a b = 0 := by simp [cmpK, h]
theorem cmpK_bad2 {a b : K} (h : isK b = false) : cmpK a b = 0 := by simp [cmpK, h]
theorem cmpK_kind {a b : K} (ha : isK a = true) (hb : isK b = true) (h : ¬ a.kind = b.kind) : cmpK a b = sgn (decide (a.kind < b.kind)) true := by simp [cmpK, ha, hb, h]
theorem cmpK_n {a b : K} (ha : isK a = true) (hb : isK b = true) (h : a.kind = b.kind) (h2 : ¬ a.n = b.n) : cmpK a b = sgn (decide (a.n < b.n)) true := by simp [cmpK, ha, hb, h, h2]
theorem cmpK_t {a b : K} (ha : isK a = true) (hb : isK b = true) (h : a.kind = b.kind) (h2 : a.n = b.n) : cmpK a b = sgn (bytesLess a.text.toList b.text.toList) (!(bytesLess a.text.toList b.text.toList) && !(a.text.toList == b.text.toList)) := by
  rw [ByteArray.toList_eq, ByteArray.toList_eq]
  simp [cmpK, ha, hb, h, h2, cmpL, K.t]
set_option maxHeartbeats 2000000 in
theorem specCompareKeys_any (a b : K) (ha : a.text.size ≤ 281474976710656) (hb : b.text.size ≤ 281474976710656) (w : World) :
    Calls Try.prog 90 #[a.v, b.v] w fun e w' => e = .returned (.int .i64 (cmpK a b)) ∧ Below w.heap.size w w' := by
  obtain ⟨w2, hw2⟩ : ∃ w2, w2 = (w.alloc (.cells a.cells 28)).alloc (.cells b.cells 28) := ⟨_, rfl⟩
  have ba : Box w2 w.heap.size 28 a := by rw [hw2]; exact (Box.made w _ a).more _
  have bb : Box w2 (w.heap.size + 1) 28 b := by
    rw [hw2, show w.heap.size + 1 = (w.alloc (.cells a.cells 28)).heap.size by simp]
    exact Box.made _ _ b
  have hbl : Below w.heap.size w w2 := by rw [hw2]; exact below_alloc (below_alloc (Below.refl _ _) _ (Nat.le_refl _)) _ (Nat.le_refl _)
  obtain ⟨ka, na, sa⟩ := a
  obtain ⟨kb, nb, sb⟩ := b
  have H1 := Lib.hid (fun w => specIsKey_any ⟨ka, na, sa⟩ ha w)
  have H2 := Lib.hid (fun w => specIsKey_any ⟨kb, nb, sb⟩ hb w)
  obtain ⟨ia, hia⟩ : ∃ x, isK ⟨ka, na, sa⟩ = x := ⟨_, rfl⟩
  obtain ⟨ib, hib⟩ : ∃ x, isK ⟨kb, nb, sb⟩ = x := ⟨_, rfl⟩
  rw [hia] at H1
  rw [hib] at H2
  have HS := Lib.hid l4Sign_any
  unfold K.v at H1 H2 ⊢
  unfold K.cells at hw2
  obtain ⟨a0, a1, a2⟩ := ba.facts
  obtain ⟨b0, b1, b2⟩ := bb.facts
  have BA := Lib.hid (And.intro ba (And.intro bb hbl))
  go_enter Try.func90, Try.ntmps90
  go_wp2_with fail
  go_at_call 85
  rw [← hw2]
  clear hw2 a0 a1 a2 b0 b1 b2 ba bb hbl
  refine (H1.out w2).mono ?_
  rintro e w3 ⟨rfl, h3⟩
  have BA3 := Lib.hid (And.intro (BA.out.1.below h3) (And.intro (BA.out.2.1.below h3) (BA.out.2.2.trans (h3.mono BA.out.2.2.size))))
  clear h3
  cases ia with
  | false =>
    go_wp2_with fail
    go_ret
    exact ⟨by rw [cmpK_bad1 hia]; rfl, BA3.out.2.2⟩
  | true =>
    obtain ⟨b0, b1, b2⟩ := BA3.out.2.1.facts
    go_wp2_with fail
    go_at_call 85
    refine (H2.out w3).mono ?_
    rintro e w4 ⟨rfl, h4⟩
    have BA4 := Lib.hid (And.intro (BA3.out.1.below h4) (And.intro (BA3.out.2.1.below h4) (BA3.out.2.2.trans (h4.mono BA3.out.2.2.size))))
    clear h4 b0 b1 b2
    cases ib with
    | false =>
      go_wp2_with fail
      go_ret
      exact ⟨by rw [cmpK_bad2 hib]; rfl, BA4.out.2.2⟩
    | true =>
      obtain ⟨a0, a1, a2⟩ := BA4.out.1.facts
      obtain ⟨b0, b1, b2⟩ := BA4.out.2.1.facts
      by_cases hk : ka = kb
      · by_cases hn : na = nb
        · have HE := Lib.hid (cmpK_t hia hib hk hn)
          subst hk
          subst hn
          have hgt := string_gtr
          go_wp2_with fail
          go_at_call 169
          refine (HS.out _ _ _).mono ?_
          rintro e w5 ⟨rfl, rfl⟩
          go_wp2_with fail
          go_ret
          exact ⟨by rw [HE.out]; rfl, BA4.out.2.2⟩
        · have HE := Lib.hid (cmpK_n hia hib hk hn)
          subst hk
          go_wp2_with fail
          go_at_call 169
          refine (HS.out _ _ _).mono ?_
          rintro e w5 ⟨rfl, rfl⟩
          go_wp2_with fail
          go_ret
          exact ⟨by rw [HE.out]; rfl, BA4.out.2.2⟩
      · have HE := Lib.hid (cmpK_kind hia hib hk)
        go_wp2_with fail
        go_at_call 169
        refine (HS.out _ _ _).mono ?_
        rintro e w5 ⟨rfl, rfl⟩
        go_wp2_with fail
        go_ret
        exact ⟨by rw [HE.out]; rfl, BA4.out.2.2⟩

def toU (l : List Int) : List UInt8 := l.map fun n => UInt8.ofNat n.toNat
structure R where
  hl : Bool
  hh : Bool
  lo : K
  hi : K
def R.v (r : R) : Value := .agg #[.bool r.hl, .bool r.hh, .int .i64 r.lo.kind, .int .i64 r.lo.n, .string r.lo.text, .int .i64 r.hi.kind, .int .i64 r.hi.n, .string r.hi.text]
def R.cells (r : R) : Array Value := #[.bool r.hl, .bool r.hh, .int .i64 r.lo.kind, .int .i64 r.lo.n, .string r.lo.text, .int .i64 r.hi.kind, .int .i64 r.hi.n, .string r.hi.text]
def inR (k : K) (r : R) : Bool := isK k && ((!r.hl || isK r.lo) && ((!r.hh || isK r.hi) && ((!r.hl || decide (cmpK r.lo k ≤ 0)) && (!r.hh || decide (cmpK k r.hi ≤ 0)))))
structure St (w wr : World) (kt rt : TypeId) (k : K) (r : R) : Prop where
  k : Row wr w.heap.size kt k.cells
  r : Row wr (w.heap.size + 1) rt r.cells
  b : Below w.heap.size w wr
theorem St.next {w wr w' : World} {kt rt : TypeId} {k : K} {r : R} (h : Hid (St w wr kt rt k r)) (hb : Below wr.heap.size wr w') : Hid (St w w' kt rt k r) :=
  ⟨h.out.k.below hb h.out.k.inside, h.out.r.below hb h.out.r.inside, h.out.b.trans (hb.mono h.out.b.size)⟩
theorem St.facts {w wr : World} {kt rt : TypeId} {kd n : Int} {s : ByteArray} {hl hh : Bool} {ka na : Int} {sa : ByteArray} {kb nb : Int} {sb : ByteArray} (h : Hid (St w wr kt rt ⟨kd, n, s⟩ ⟨hl, hh, ⟨ka, na, sa⟩, ⟨kb, nb, sb⟩⟩)) :
    (wr.cell? ⟨w.heap.size, 0, none⟩ = some (.int .i64 kd) ∧ wr.cell? ⟨w.heap.size, 1, none⟩ = some (.int .i64 n) ∧ wr.cell? ⟨w.heap.size, 2, none⟩ = some (.string s)) ∧
    wr.cell? ⟨w.heap.size + 1, 0, none⟩ = some (.bool hl) ∧ wr.cell? ⟨w.heap.size + 1, 1, none⟩ = some (.bool hh) ∧ wr.cell? ⟨w.heap.size + 1, 2, none⟩ = some (.int .i64 ka) ∧ wr.cell? ⟨w.heap.size + 1, 3, none⟩ = some (.int .i64 na) ∧ wr.cell? ⟨w.heap.size + 1, 4, none⟩ = some (.string sa) ∧ wr.cell? ⟨w.heap.size + 1, 5, none⟩ = some (.int .i64 kb) ∧ wr.cell? ⟨w.heap.size + 1, 6, none⟩ = some (.int .i64 nb) ∧ wr.cell? ⟨w.heap.size + 1, 7, none⟩ = some (.string sb) := by
  have h1 : Row wr w.heap.size kt #[.int .i64 kd, .int .i64 n, .string s] := h.out.k
  have h2 : Row wr (w.heap.size + 1) rt #[.bool hl, .bool hh, .int .i64 ka, .int .i64 na, .string sa, .int .i64 kb, .int .i64 nb, .string sb] := h.out.r
  refine ⟨⟨?_, ?_, ?_⟩, ?_, ?_, ?_, ?_, ?_, ?_, ?_, ?_⟩
  all_goals first | (rw [h1.cell]; rfl) | (rw [h2.cell]; rfl)

set_option maxHeartbeats 2000000 in
theorem specInRangeOf_any (k : K) (r : R) (h0 : k.text.size ≤ 281474976710656) (h1 : r.lo.text.size ≤ 281474976710656) (h2 : r.hi.text.size ≤ 281474976710656) (w : World) :
    Calls Try.prog 30 #[k.v, r.v] w fun e w' => e = .returned (.bool (inR k r)) ∧ Below w.heap.size w w' := by
  obtain ⟨w2, hw2⟩ : ∃ w2, w2 = (w.alloc (.cells k.cells 28)).alloc (.cells r.cells 45) := ⟨_, rfl⟩
  have st0 : Hid (St w w2 28 45 k r) := by
    rw [hw2]
    refine ⟨(Row.made w _ _).more _, ?_, below_alloc (below_alloc (Below.refl _ _) _ (Nat.le_refl _)) _ (Nat.le_refl _)⟩
    rw [show w.heap.size + 1 = (w.alloc (.cells k.cells 28)).heap.size by simp]
    exact Row.made _ _ _
  have HK := Lib.hid (fun w => specIsKey_any k h0 w)
  have HL := Lib.hid (fun w => specIsKey_any r.lo h1 w)
  have HH := Lib.hid (fun w => specIsKey_any r.hi h2 w)
  have HCL := Lib.hid (fun w => specCompareKeys_any r.lo k h1 h0 w)
  have HCH := Lib.hid (fun w => specCompareKeys_any k r.hi h0 h2 w)
  obtain ⟨ik, hik⟩ : ∃ x, isK k = x := ⟨_, rfl⟩
  obtain ⟨il, hil⟩ : ∃ x, isK r.lo = x := ⟨_, rfl⟩
  obtain ⟨ih, hih⟩ : ∃ x, isK r.hi = x := ⟨_, rfl⟩
  obtain ⟨cl, hcl⟩ : ∃ x, cmpK r.lo k = x := ⟨_, rfl⟩
  obtain ⟨ch, hch⟩ : ∃ x, cmpK k r.hi = x := ⟨_, rfl⟩
  have HE := show inR k r = (ik && ((!r.hl || il) && ((!r.hh || ih) && ((!r.hl || decide (cl ≤ 0)) && (!r.hh || decide (ch ≤ 0)))))) by unfold inR; rw [hik, hil, hih, hcl, hch]
  rw [HE]
  rw [hik] at HK
  rw [hil] at HL
  rw [hih] at HH
  rw [hcl] at HCL
  rw [hch] at HCH
  clear HE hik hil hih hcl hch
  obtain ⟨kd, n, s⟩ := k
  obtain ⟨hl, hh, ⟨ka, na, sa⟩, ⟨kb, nb, sb⟩⟩ := r
  obtain ⟨dl, hdl⟩ : ∃ b, decide (cl ≤ 0) = b := ⟨_, rfl⟩
  obtain ⟨dh, hdh⟩ : ∃ b, decide (ch ≤ 0) = b := ⟨_, rfl⟩
  rw [hdl, hdh]
  simp only [K.v, R.v, K.cells, R.cells] at HK HL HH HCL HCH hw2 ⊢
  clear h0 h1 h2
  rcases (show ik = false ∨ (ik = true ∧ hl = true ∧ il = false) ∨ (ik = true ∧ hl = true ∧ il = true ∧ hh = true ∧ ih = false) ∨ (ik = true ∧ hl = false ∧ hh = true ∧ ih = false) ∨ (ik = true ∧ hl = true ∧ il = true ∧ hh = true ∧ ih = true ∧ dl = false) ∨ (ik = true ∧ hl = true ∧ il = true ∧ hh = true ∧ ih = true ∧ dl = true) ∨ (ik = true ∧ hl = true ∧ il = true ∧ hh = false ∧ dl = false) ∨ (ik = true ∧ hl = true ∧ il = true ∧ hh = false ∧ dl = true) ∨ (ik = true ∧ hl = false ∧ hh = true ∧ ih = true) ∨ (ik = true ∧ hl = false ∧ hh = false) by
    cases ik <;> cases hl <;> cases il <;> cases hh <;> cases ih <;> cases dl <;> simp) with rfl | ⟨rfl, rfl, rfl⟩ | ⟨rfl, rfl, rfl, rfl, rfl⟩ | ⟨rfl, rfl, rfl, rfl⟩ | ⟨rfl, rfl, rfl, rfl, rfl, rfl⟩ | ⟨rfl, rfl, rfl, rfl, rfl, rfl⟩ | ⟨rfl, rfl, rfl, rfl, rfl⟩ | ⟨rfl, rfl, rfl, rfl, rfl⟩ | ⟨rfl, rfl, rfl, rfl⟩ | ⟨rfl, rfl, rfl⟩
  all_goals
    go_enter Try.func30, Try.ntmps30
    go_wp2_with fail
    go_at_call 85
    rw [← hw2]
    clear hw2
    with_reducible refine (HK.out w2).mono ?_
    rintro e w3 ⟨rfl, hb⟩
    have st := St.next st0 hb
    clear hb
    obtain ⟨⟨x0, x1, x2⟩, y0, y1, y2, y3, y4, y5, y6, y7⟩ := St.facts st
    go_wp2_with (first
      | (go_at_call 85; with_reducible refine (HL.out _).mono ?_; rintro e wn ⟨rfl, hb⟩; have st := St.next (by assumption) hb; clear hb; obtain ⟨⟨x0, x1, x2⟩, y0, y1, y2, y3, y4, y5, y6, y7⟩ := St.facts st)
      | (go_at_call 85; with_reducible refine (HH.out _).mono ?_; rintro e wn ⟨rfl, hb⟩; have st := St.next (by assumption) hb; clear hb; obtain ⟨⟨x0, x1, x2⟩, y0, y1, y2, y3, y4, y5, y6, y7⟩ := St.facts st)
      | (go_at_call 90; with_reducible refine (HCL.out _).mono ?_; rintro e wn ⟨rfl, hb⟩; have st := St.next (by assumption) hb; clear hb; obtain ⟨⟨x0, x1, x2⟩, y0, y1, y2, y3, y4, y5, y6, y7⟩ := St.facts st)
      | (go_at_call 90; with_reducible refine (HCH.out _).mono ?_; rintro e wn ⟨rfl, hb⟩; have st := St.next (by assumption) hb; clear hb; obtain ⟨⟨x0, x1, x2⟩, y0, y1, y2, y3, y4, y5, y6, y7⟩ := St.facts st))
    go_ret
    exact ⟨rfl, st.out.b⟩
end Go.Proofs.Ytojcdmgcbgpdmaa.L4

namespace Go.Proofs.Ytojcdmgcbgpdmaa.L4
open Go.ChangeShapes Go.WideShapes Go.ChangeAt Go.RowKit Mem Sl Ex L2

def left (n : Int) (s : ByteArray) : Int := if n - s.size < 0 then -1 else n - s.size
def R.left (n : Int) (r : R) : Int := if L4.left n r.lo.text < 0 then -1 else L4.left (L4.left n r.lo.text) r.hi.text
theorem Row.cells8 {w : World} {g : Nat} {t : TypeId} {a0 a1 a2 a3 a4 a5 a6 a7 : Value} (h : Row w g t #[a0, a1, a2, a3, a4, a5, a6, a7]) : w.cell? ⟨g, 0, none⟩ = some a0 ∧ w.cell? ⟨g, 1, none⟩ = some a1 ∧ w.cell? ⟨g, 2, none⟩ = some a2 ∧ w.cell? ⟨g, 3, none⟩ = some a3 ∧ w.cell? ⟨g, 4, none⟩ = some a4 ∧ w.cell? ⟨g, 5, none⟩ = some a5 ∧ w.cell? ⟨g, 6, none⟩ = some a6 ∧ w.cell? ⟨g, 7, none⟩ = some a7 := by
 refine ⟨?_, ?_, ?_, ?_, ?_, ?_, ?_, ?_⟩ <;> (rw [h.cell]; rfl)
structure Tri (w wr : World) (t u : TypeId) (r : R) (x : Array Value) : Prop where
 r : Row wr w.heap.size t r.cells
 z : Row wr (w.heap.size + 1) u #[.bool false, .bool false, .int .i64 0, .int .i64 0, .string ⟨#[]⟩, .int .i64 0, .int .i64 0, .string ⟨#[]⟩]
 x : Row wr (w.heap.size + 1 + 1) u x
 b : Below w.heap.size w wr
theorem Tri.next {w wr w' : World} {t u : TypeId} {r : R} {x : Array Value} (h : Hid (Tri w wr t u r x)) (hb : Below wr.heap.size wr w') : Hid (Tri w w' t u r x) :=
 ⟨h.out.r.below hb h.out.r.inside, h.out.z.below hb h.out.z.inside, h.out.x.below hb h.out.x.inside, h.out.b.trans (hb.mono h.out.b.size)⟩
theorem Row.apart {w : World} {g g' : Nat} {t : TypeId} {cs : Array Value} (h : Row w g t cs) (i : Nat) (v : Value) (hne : g ≠ g') : Row (w.setCell ⟨g', i, none⟩ v) g t cs := (Below.heap_setCell w ⟨g', i, none⟩ v g hne).trans h
theorem Tri.put {w wr : World} {t u : TypeId} {r : R} {x : Array Value} (h : Hid (Tri w wr t u r x)) (i : Nat) (v : Value) : Hid (Tri w (wr.setCell ⟨w.heap.size + 1 + 1, i, none⟩ v) t u r (x.setIfInBounds i v)) :=
 ⟨Row.apart h.out.r i v (by omega), Row.apart h.out.z i v (by omega), h.out.x.put i v, h.out.b.setCell (by show w.heap.size ≤ w.heap.size + 1 + 1; omega) v⟩
end Go.Proofs.Ytojcdmgcbgpdmaa.L4

namespace Go.Proofs.Ytojcdmgcbgpdmaa.L4
open Go.ChangeShapes Go.WideShapes Go.ChangeAt Go.RowKit Mem Sl Ex L2

section
variable {H : Type} {enc : TypeId × Value → H} {W : World} {b : Nat} {sp : Nat → Bool} {hd : Bool}
end

def boxR (g : Nat) (t : TypeId) (cs : Array Value) : Res where
 fp := [g]
 is w := Row w g t cs
 loc := fun hs h => (hs g (by simp)).trans h
theorem push_box {W w : World} {rs : List Res} (h : Sep W w rs) (t : TypeId) (cs : Array Value) (g : Nat) (hg : g = w.heap.size) : Sep W (w.alloc (.cells cs t)) (rs ++ [boxR g t cs]) := by
 subst hg
 exact h.push ((Below.refl _ _).alloc (Nat.le_refl _) _) (Row.made w t cs) (fun b hb => by simp [boxR] at hb; subst hb; exact ⟨Nat.le_refl _, by simp⟩)
theorem box_at {W w : World} {rs : List Res} {g : Nat} {t : TypeId} {cs : Array Value} (h : Sep W w rs) (i : Nat) (hi : rs[i]? = some (boxR g t cs)) : Row w g t cs := h.is i _ hi
theorem box3 {W w : World} {rs : List Res} {g : Nat} {t : TypeId} {x y z : Value} (h : Sep W w rs) (i : Nat) (hi : rs[i]? = some (boxR g t #[x, y, z])) : w.cell? ⟨g, 0, none⟩ = some x ∧ w.cell? ⟨g, 1, none⟩ = some y ∧ w.cell? ⟨g, 2, none⟩ = some z := by
 have h' := box_at h i hi
 refine ⟨?_, ?_, ?_⟩ <;> (rw [h'.cell]; rfl)
end Go.Proofs.Ytojcdmgcbgpdmaa.L4

namespace Go.Proofs.Ytojcdmgcbgpdmaa.Bag
open Go.ChangeShapes Go.WideShapes Go.ChangeAt Go.RowKit Mem Sl Sv

structure RowS where
 e : TypeId
 k : Nat
 a : Option Addr
 c : Nat
 n : Nat
 xs : List Value
def RowS.fp (r : RowS) : List Nat := (Value.slice r.a r.n r.c).ownBlock.toList
def RowS.Own (w : World) (B : Nat) (r : RowS) : Prop := OwnV w B r.e r.k r.a r.c r.n r.xs
def RowS.res (r : RowS) : Res := ownV r.e r.k r.a r.c r.n r.xs
structure RowS.Rd (w : World) (B : Nat) (r : RowS) : Prop where
 reads : Reads w B r.a r.xs
 cap : r.n ≤ r.c
 zero : r.a = none → r.c = 0
def Apart (r s : RowS) : Prop := ∀ b ∈ r.fp, b ∉ s.fp
theorem Apart.symm {r s : RowS} (h : Apart r s) : Apart s r := fun b hs hr => h b hr hs
structure BagOwn (w : World) (B : Nat) (rows : List RowS) : Prop where
 own : ∀ r ∈ rows, r.Own w B
 apart : rows.Pairwise Apart
def RowsRd (w : World) (B : Nat) (rows : List RowS) : Prop := ∀ r ∈ rows, r.Rd w B

section
variable {w w' : World} {B B' : Nat} {rows ys : List RowS} {r : RowS}
theorem RowS.Own.lt (h : r.Own w B) : ∀ b ∈ r.fp, B ≤ b ∧ b < w.heap.size := fun b hb => by
 rcases h.form with ⟨e, _⟩ | ⟨g, e, h1, h2, _⟩
 ·
  simp [RowS.fp, e, Value.ownBlock] at hb
 ·
  simp [RowS.fp, e, Value.ownBlock] at hb
  subst hb
  exact ⟨h1, h2⟩
theorem RowS.Own.rd (h : r.Own w B) : r.Rd w w.heap.size := ⟨h.reads, h.cap, fun e => by
 rcases h.form with ⟨_, _, _, h1⟩ | ⟨g, e2, _⟩
 ·
  exact h1
 ·
  rw [e] at e2; cases e2⟩
theorem RowS.Rd.below (h : r.Rd w B) (hb : Below B w w') : r.Rd w' B := ⟨h.reads.below hb, h.cap, h.zero⟩
theorem RowS.Rd.more (h : r.Rd w B) (hB : B ≤ B') : r.Rd w B' := ⟨h.reads.more hB, h.cap, h.zero⟩
theorem RowsRd.below (h : RowsRd w B rows) (hb : Below B w w') : RowsRd w' B rows := fun r hr => (h r hr).below hb
theorem RowsRd.more (h : RowsRd w B rows) (hB : B ≤ B') : RowsRd w B' rows := fun r hr => (h r hr).more hB
theorem RowsRd.sub (h : RowsRd w B rows) (hs : ∀ r ∈ ys, r ∈ rows) : RowsRd w B ys := fun r hr => h r (hs r hr)
theorem RowsRd.at_ (h : RowsRd w B rows) (hr : r ∈ rows) : r.Rd w B := h r hr
theorem BagOwn.rd (h : BagOwn w B rows) : RowsRd w w.heap.size rows := fun r hr => (h.own r hr).rd
theorem BagOwn.nil (w : World) (B : Nat) : BagOwn w B [] := ⟨fun r hr => (by cases hr), List.Pairwise.nil⟩
theorem BagOwn.base (h : BagOwn w B rows) (hB : B' ≤ B) : BagOwn w B' rows := ⟨fun r hr => OwnV.base (h.own r hr) hB, h.apart⟩
theorem BagOwn.lt (h : BagOwn w B rows) : ∀ b ∈ rows.flatMap RowS.fp, B ≤ b ∧ b < w.heap.size := fun b hb => by
 obtain ⟨r, hr, hm⟩ := List.mem_flatMap.1 hb
 exact (h.own r hr).lt b hm
theorem BagOwn.one (h : r.Own w B) : BagOwn w B [r] := ⟨fun s hs => by rw [List.mem_singleton] at hs; rw [hs]; exact h, List.pairwise_singleton ..⟩
theorem BagOwn.lift (h : BagOwn w B rows) (hB : ∀ b ∈ rows.flatMap RowS.fp, B' ≤ b) : BagOwn w B' rows := ⟨fun r hr => OwnV.lift (h.own r hr) fun b hb => hB b (List.mem_flatMap.2 ⟨r, hr, hb⟩), h.apart⟩
theorem BagOwn.app (h : BagOwn w B rows) (k : BagOwn w B ys) (ha : ∀ b ∈ rows.flatMap RowS.fp, b ∉ ys.flatMap RowS.fp) : BagOwn w B (rows ++ ys) :=
 ⟨fun r hr => by
  rcases List.mem_append.1 hr with h1 | h1
  ·
   exact h.own r h1
  ·
   exact k.own r h1, List.pairwise_append.2 ⟨h.apart, k.apart, fun r hr s hs b hb hb2 => ha b (List.mem_flatMap.2 ⟨r, hr, hb⟩) (List.mem_flatMap.2 ⟨s, hs, hb2⟩)⟩⟩
theorem BagOwn.perm (h : BagOwn w B rows) (hp : rows.Perm ys) : BagOwn w B ys := ⟨fun r hr => h.own r (hp.mem_iff.2 hr), (hp.pairwise_iff (fun h => Apart.symm h)).1 h.apart⟩
theorem BagOwn.sub (h : BagOwn w B rows) (hs : ys.Sublist rows) : BagOwn w B ys := ⟨fun r hr => h.own r (hs.subset hr), h.apart.sublist hs⟩
end

def bag (rows : List RowS) : Res where
 fp := rows.flatMap RowS.fp
 is w := BagOwn w 0 rows
 loc := fun hs h => ⟨fun r hr => r.res.loc (fun b hb => hs b (List.mem_flatMap.2 ⟨r, hr, hb⟩)) (h.own r hr), h.apart⟩

section
variable {W w w' : World} {rs : List Res} {rows xs ys : List RowS} {r : RowS}
theorem turn {r r' : Res} (h : Sep W w rs) (i : Nat) (hi : rs[i]? = some r) (hr : r.is w → r'.is w) (hf : ∀ b ∈ r'.fp, b ∈ r.fp) : Sep W w (rs.set i r') := h.put i hi (Turned.refl _ _) (hr (h.is i r hi)) hf
theorem bag_at (h : Sep W w rs) (i : Nat) (hi : rs[i]? = some (bag rows)) : BagOwn w 0 rows := h.is i _ hi
theorem bag_rd (h : Sep W w rs) (i : Nat) (hi : rs[i]? = some (bag rows)) : RowsRd w w.heap.size rows := (bag_at h i hi).rd
theorem bag_from (h : Sep W w rs) (i : Nat) (hi : rs[i]? = some (bag rows)) : BagOwn w W.heap.size rows := (bag_at h i hi).lift fun b hb => (h.lies i _ hi b hb).1
theorem push_bag (h : Sep W w rs) (hb : Below w.heap.size w w') (ho : BagOwn w' w.heap.size rows) : Sep W w' (rs ++ [bag rows]) :=
 h.push hb (ho.base (Nat.zero_le _)) fun b hm => ho.lt b hm
theorem bag_of_one (h : Sep W w rs) (i : Nat) (hi : rs[i]? = some r.res) : Sep W w (rs.set i (bag [r])) :=
 turn h i hi (fun ho => BagOwn.one ho) (fun b hb => by simpa [bag, RowS.res, RowS.fp, ownV] using hb)
theorem one_of_bag (h : Sep W w rs) (i : Nat) (hi : rs[i]? = some (bag [r])) : Sep W w (rs.set i r.res) :=
 turn h i hi (fun ho => ho.own r (List.mem_singleton_self r)) (fun b hb => by simpa [bag, RowS.res, RowS.fp, ownV] using hb)
theorem bag_perm (h : Sep W w rs) (i : Nat) (hi : rs[i]? = some (bag xs)) (hp : xs.Perm ys) : Sep W w (rs.set i (bag ys)) :=
 turn h i hi (fun ho => BagOwn.perm ho hp) (fun b hb => by
  obtain ⟨r, hr, hm⟩ := List.mem_flatMap.1 hb
  exact List.mem_flatMap.2 ⟨r, hp.mem_iff.2 hr, hm⟩)
theorem bag_sub (h : Sep W w rs) (i : Nat) (hi : rs[i]? = some (bag xs)) (hs : ys.Sublist xs) : Sep W w (rs.set i (bag ys)) :=
 turn h i hi (fun ho => BagOwn.sub ho hs) (fun b hb => by
  obtain ⟨r, hr, hm⟩ := List.mem_flatMap.1 hb
  exact List.mem_flatMap.2 ⟨r, hs.subset hr, hm⟩)
theorem bag_join (h : Sep W w rs) (i j : Nat) (hij : i ≠ j) (hi : rs[i]? = some (bag xs)) (hj : rs[j]? = some (bag ys)) : Sep W w ((rs.set j (bag [])).set i (bag (xs ++ ys))) := by
 have hli : i < rs.length := (List.getElem?_eq_some_iff.1 hi).1
 have hlj : j < rs.length := (List.getElem?_eq_some_iff.1 hj).1
 have key : ∀ (q : Nat) (s : Res), ((rs.set j (bag [])).set i (bag (xs ++ ys)))[q]? = some s → (q = i ∧ s = bag (xs ++ ys)) ∨ (q = j ∧ s = bag []) ∨ (q ≠ i ∧ q ≠ j ∧ rs[q]? = some s) := fun q s hq => by
  by_cases e : i = q
  ·
   subst e
   rw [List.getElem?_set_self (by simpa using hli)] at hq
   exact .inl ⟨rfl, (Option.some.inj hq).symm⟩
  ·
   rw [List.getElem?_set_ne e] at hq
   by_cases e2 : j = q
   ·
    subst e2
    rw [List.getElem?_set_self hlj] at hq
    exact .inr (.inl ⟨rfl, (Option.some.inj hq).symm⟩)
   ·
    rw [List.getElem?_set_ne e2] at hq
    exact .inr (.inr ⟨fun h => e h.symm, fun h => e2 h.symm, hq⟩)
 have hfp : ∀ b, b ∈ (bag (xs ++ ys)).fp → b ∈ (bag xs).fp ∨ b ∈ (bag ys).fp := fun b hb => by
  have : b ∈ (xs ++ ys).flatMap RowS.fp := hb
  rw [List.flatMap_append] at this
  exact List.mem_append.1 this
 refine ⟨h.old, fun q s hq => ?_, fun q s hq b hb => ?_, fun p q s t hp hq hne b hb hb2 => ?_⟩
 ·
  rcases key q s hq with ⟨_, rfl⟩ | ⟨_, rfl⟩ | ⟨_, _, h1⟩
  ·
   exact BagOwn.app (h.is i _ hi) (h.is j _ hj) (fun b hb => h.apart i j _ _ hi hj hij b hb)
  ·
   exact BagOwn.nil _ _
  ·
   exact h.is q s h1
 ·
  rcases key q s hq with ⟨_, rfl⟩ | ⟨_, rfl⟩ | ⟨_, _, h1⟩
  ·
   rcases hfp b hb with h2 | h2
   ·
    exact h.lies i _ hi b h2
   ·
    exact h.lies j _ hj b h2
  ·
   simp [bag] at hb
  ·
   exact h.lies q s h1 b hb
 ·
  rcases key p s hp with ⟨e1, rfl⟩ | ⟨e1, rfl⟩ | ⟨n1, n2, h1⟩ <;> rcases key q t hq with ⟨e2, rfl⟩ | ⟨e2, rfl⟩ | ⟨n3, n4, h2⟩
  ·
   exact hne (e1.trans e2.symm)
  ·
   simp [bag] at hb2
  ·
   rcases hfp b hb with h3 | h3
   ·
    exact h.apart i q _ t hi h2 (fun e => n3 e.symm) b h3 hb2
   ·
    exact h.apart j q _ t hj h2 (fun e => n4 e.symm) b h3 hb2
  ·
   simp [bag] at hb
  ·
   simp [bag] at hb
  ·
   simp [bag] at hb
  ·
   rcases hfp b hb2 with h3 | h3
   ·
    exact h.apart p i s _ h1 hi n1 b hb h3
   ·
    exact h.apart p j s _ h1 hj n2 b hb h3
  ·
   simp [bag] at hb2
  ·
   exact h.apart p q s t h1 h2 hne b hb hb2
theorem bag_split (h : Sep W w rs) (i : Nat) (hi : rs[i]? = some (bag (xs ++ ys))) : Sep W w (rs.set i (bag xs) ++ [bag ys]) := by
 have hli : i < rs.length := (List.getElem?_eq_some_iff.1 hi).1
 have ho : BagOwn w 0 (xs ++ ys) := h.is i _ hi
 have hap := List.pairwise_append.1 ho.apart
 have hfp : ∀ b, b ∈ (bag xs).fp ∨ b ∈ (bag ys).fp → b ∈ (bag (xs ++ ys)).fp := fun b hb => by
  show b ∈ (xs ++ ys).flatMap RowS.fp
  rw [List.flatMap_append]
  exact List.mem_append.2 hb
 have hno : ∀ b, b ∈ (bag xs).fp → b ∉ (bag ys).fp := fun b hb hb2 => by
  obtain ⟨r, hr, hm⟩ := List.mem_flatMap.1 (show b ∈ xs.flatMap RowS.fp from hb)
  obtain ⟨s, hs, hm2⟩ := List.mem_flatMap.1 (show b ∈ ys.flatMap RowS.fp from hb2)
  exact hap.2.2 r hr s hs b hm hm2
 have key : ∀ (q : Nat) (s : Res), (rs.set i (bag xs) ++ [bag ys])[q]? = some s → (q = i ∧ s = bag xs) ∨ (q = rs.length ∧ s = bag ys) ∨ (q ≠ i ∧ q ≠ rs.length ∧ rs[q]? = some s) := fun q s hq => by
  rcases Nat.lt_trichotomy q rs.length with hl | hl | hl
  ·
   rw [List.getElem?_append_left (by simpa using hl)] at hq
   by_cases e : i = q
   ·
    subst e
    rw [List.getElem?_set_self hli] at hq
    exact .inl ⟨rfl, (Option.some.inj hq).symm⟩
   ·
    rw [List.getElem?_set_ne e] at hq
    exact .inr (.inr ⟨fun h => e h.symm, by omega, hq⟩)
  ·
   subst hl
   rw [List.getElem?_append_right (by simp)] at hq
   simp at hq
   exact .inr (.inl ⟨rfl, hq.symm⟩)
  ·
   rw [List.getElem?_eq_none (by simp; omega)] at hq
   cases hq
 refine ⟨h.old, fun q s hq => ?_, fun q s hq b hb => ?_, fun p q s t hp hq hne b hb hb2 => ?_⟩
 ·
  rcases key q s hq with ⟨_, rfl⟩ | ⟨_, rfl⟩ | ⟨_, _, h1⟩
  ·
   exact ho.sub (List.sublist_append_left ..)
  ·
   exact ho.sub (List.sublist_append_right ..)
  ·
   exact h.is q s h1
 ·
  rcases key q s hq with ⟨_, rfl⟩ | ⟨_, rfl⟩ | ⟨_, _, h1⟩
  ·
   exact h.lies i _ hi b (hfp b (.inl hb))
  ·
   exact h.lies i _ hi b (hfp b (.inr hb))
  ·
   exact h.lies q s h1 b hb
 ·
  rcases key p s hp with ⟨e1, rfl⟩ | ⟨e1, rfl⟩ | ⟨n1, n2, h1⟩ <;> rcases key q t hq with ⟨e2, rfl⟩ | ⟨e2, rfl⟩ | ⟨n3, n4, h2⟩
  ·
   exact hne (e1.trans e2.symm)
  ·
   exact hno b hb hb2
  ·
   exact h.apart i q _ t hi h2 (fun e => n3 e.symm) b (hfp b (.inl hb)) hb2
  ·
   exact hno b hb2 hb
  ·
   exact hne (e1.trans e2.symm)
  ·
   exact h.apart i q _ t hi h2 (fun e => n3 e.symm) b (hfp b (.inr hb)) hb2
  ·
   exact h.apart p i s _ h1 hi n1 b hb (hfp b (.inl hb2))
  ·
   exact h.apart p i s _ h1 hi n1 b hb (hfp b (.inr hb2))
  ·
   exact h.apart p q s t h1 h2 hne b hb hb2
end
section
variable {W w : World} {rs ts : List Res} {g : Nat} {t : TypeId} {cs : Array Value} {v : Value}
theorem cell_at (h : Sep W w rs) (i : Nat) (hi : rs[i]? = some (L4.boxR g t cs)) (j : Nat) (hj : cs[j]? = some v) : w.cell? ⟨g, j, none⟩ = some v := by rw [(L4.box_at h i hi).cell, hj]
theorem cs1 {a0 : Value} (h : Sep W w rs) (i : Nat) (hi : rs[i]? = some (L4.boxR g t #[a0])) : w.cell? ⟨g, 0, none⟩ = some a0 := cell_at h i hi 0 rfl
theorem cs2 {a0 a1 : Value} (h : Sep W w rs) (i : Nat) (hi : rs[i]? = some (L4.boxR g t #[a0, a1])) : w.cell? ⟨g, 0, none⟩ = some a0 ∧ w.cell? ⟨g, 1, none⟩ = some a1 := ⟨cell_at h i hi 0 rfl, cell_at h i hi 1 rfl⟩
theorem cs3 {a0 a1 a2 : Value} (h : Sep W w rs) (i : Nat) (hi : rs[i]? = some (L4.boxR g t #[a0, a1, a2])) : w.cell? ⟨g, 0, none⟩ = some a0 ∧ w.cell? ⟨g, 1, none⟩ = some a1 ∧ w.cell? ⟨g, 2, none⟩ = some a2 := ⟨cell_at h i hi 0 rfl, cell_at h i hi 1 rfl, cell_at h i hi 2 rfl⟩
theorem cs4 {a0 a1 a2 a3 : Value} (h : Sep W w rs) (i : Nat) (hi : rs[i]? = some (L4.boxR g t #[a0, a1, a2, a3])) : w.cell? ⟨g, 0, none⟩ = some a0 ∧ w.cell? ⟨g, 1, none⟩ = some a1 ∧ w.cell? ⟨g, 2, none⟩ = some a2 ∧ w.cell? ⟨g, 3, none⟩ = some a3 := ⟨cell_at h i hi 0 rfl, cell_at h i hi 1 rfl, cell_at h i hi 2 rfl, cell_at h i hi 3 rfl⟩
theorem cs8 {a0 a1 a2 a3 a4 a5 a6 a7 : Value} (h : Sep W w rs) (i : Nat) (hi : rs[i]? = some (L4.boxR g t #[a0, a1, a2, a3, a4, a5, a6, a7])) : w.cell? ⟨g, 0, none⟩ = some a0 ∧ w.cell? ⟨g, 1, none⟩ = some a1 ∧ w.cell? ⟨g, 2, none⟩ = some a2 ∧ w.cell? ⟨g, 3, none⟩ = some a3 ∧ w.cell? ⟨g, 4, none⟩ = some a4 ∧ w.cell? ⟨g, 5, none⟩ = some a5 ∧ w.cell? ⟨g, 6, none⟩ = some a6 ∧ w.cell? ⟨g, 7, none⟩ = some a7 := ⟨cell_at h i hi 0 rfl, cell_at h i hi 1 rfl, cell_at h i hi 2 rfl, cell_at h i hi 3 rfl, cell_at h i hi 4 rfl, cell_at h i hi 5 rfl, cell_at h i hi 6 rfl, cell_at h i hi 7 rfl⟩
theorem free_at (h : Sep W w rs) (i : Nat) (hi : rs[i]? = some (L4.boxR g t cs)) (j : Nat) : w.frozen? ⟨g, j, none⟩ = false := (L4.box_at h i hi).free j
theorem fs3 {a0 a1 a2 : Value} (h : Sep W w rs) (i : Nat) (hi : rs[i]? = some (L4.boxR g t #[a0, a1, a2])) : w.frozen? ⟨g, 0, none⟩ = false ∧ w.frozen? ⟨g, 1, none⟩ = false ∧ w.frozen? ⟨g, 2, none⟩ = false := ⟨free_at h i hi 0, free_at h i hi 1, free_at h i hi 2⟩
theorem fs4 {a0 a1 a2 a3 : Value} (h : Sep W w rs) (i : Nat) (hi : rs[i]? = some (L4.boxR g t #[a0, a1, a2, a3])) : w.frozen? ⟨g, 0, none⟩ = false ∧ w.frozen? ⟨g, 1, none⟩ = false ∧ w.frozen? ⟨g, 2, none⟩ = false ∧ w.frozen? ⟨g, 3, none⟩ = false := ⟨free_at h i hi 0, free_at h i hi 1, free_at h i hi 2, free_at h i hi 3⟩
theorem drew1 (h : Sep W w rs) : Sep W w.drew rs := h.drews 1
theorem take (h : Sep W w rs) (is : List Nat) (he : is.map (fun i => rs[i]?) = ts.map some) (hd : is.Nodup) : Sep W w ts := by
 have hl : is.length = ts.length := by simpa using congrArg List.length he
 refine sep_sub h (fun i => is.getD i 0) (fun i r hr => ?_) (fun i j hi hj e => ?_)
 ·
  have hi : i < ts.length := (List.getElem?_eq_some_iff.1 hr).1
  have h2 := congrArg (fun l => l[i]?) he
  simp only [List.getElem?_map, List.getElem?_eq_getElem (show i < is.length by omega), hr, Option.map_some] at h2
  rw [List.getD_eq_getElem?_getD, List.getElem?_eq_getElem (show i < is.length by omega)]
  simpa using h2
 ·
  simp only [List.getD_eq_getElem?_getD, List.getElem?_eq_getElem (show i < is.length by omega), List.getElem?_eq_getElem (show j < is.length by omega), Option.getD_some] at e
  exact (List.getElem_inj hd).1 e
end
end Go.Proofs.Ytojcdmgcbgpdmaa.Bag

namespace Go.Proofs.Ytojcdmgcbgpdmaa.L5
open Go.Op (bytesLess)
open L4 (less_irrefl less_total less_asymm less_trans)

structure F where
 name : ByteArray
 n : Int
def F.t (f : F) : List UInt8 := f.name.data.toList
theorem F.ext' {a b : F} (h1 : a.t = b.t) (h2 : a.n = b.n) : a = b := by
 obtain ⟨⟨⟨t1⟩⟩, n1⟩ := a
 obtain ⟨⟨⟨t2⟩⟩, n2⟩ := b
 simp only [F.t] at h1 h2
 subst h1; subst h2
 rfl
def low (b : UInt8) : Bool := decide (97 ≤ b.toNat) && decide (b.toNat ≤ 122)
def isN (l : List UInt8) : Bool := l.all low && (decide (1 ≤ l.length) && decide (l.length ≤ 8))
def okF (f : F) : Bool := isN f.t && L1.inB f.n 0 1000000000
def asc : List F → Bool
 | [] => true
 | [_] => true
 | x :: y :: r => bytesLess x.t y.t && asc (y :: r)
def isR (l : List F) : Bool := l.all okF && asc l && decide (l.length ≤ 6)
def getO (l : List F) (name : List UInt8) : Option Int := (l.find? fun f => f.t == name).map F.n

def okTo (l : List F) (k : Nat) : Prop := ∀ j (h : j < l.length), j < k → okF l[j] = true ∧ (0 < j → bytesLess (l[j - 1]'(by omega)).t l[j].t = true)
theorem asc_at : ∀ (l : List F), asc l = true ↔ ∀ j (h : j < l.length), 0 < j → bytesLess (l[j - 1]'(by omega)).t l[j].t = true
 | [] => by simp [asc]
 | [x] => by
  simp only [asc, true_iff]
  intro j h h0
  simp at h
  omega
 | x :: y :: r => by
  have ih := asc_at (y :: r)
  simp only [asc, Bool.and_eq_true, ih]
  constructor
  ·
   rintro ⟨h1, h2⟩ j hj h0
   rcases j with _ | _ | j
   ·
    omega
   ·
    simpa using h1
   ·
    have := h2 (j + 1) (by simp at hj ⊢; omega) (by omega)
    simpa using this
  ·
   intro h
   refine ⟨h 1 (by simp) (by omega), fun j hj h0 => ?_⟩
   have := h (j + 1) (by simp at hj ⊢; omega) (by omega)
   rcases j with _ | j
   ·
    omega
   ·
    simpa using this
theorem isR_iff {l : List F} : isR l = true ↔ okTo l l.length ∧ l.length ≤ 6 := by
 unfold isR okTo
 simp only [Bool.and_eq_true, decide_eq_true_eq, asc_at, List.all_eq_true]
 constructor
 ·
  rintro ⟨⟨h1, h2⟩, h3⟩
  exact ⟨fun j hj _ => ⟨h1 _ (List.getElem_mem hj), fun h0 => h2 j hj h0⟩, h3⟩
 ·
  rintro ⟨h1, h3⟩
  refine ⟨⟨fun x hx => ?_, fun j hj h0 => (h1 j hj hj).2 h0⟩, h3⟩
  obtain ⟨i, hi, rfl⟩ := List.getElem_of_mem hx
  exact (h1 i hi hi).1
theorem isR_no {l : List F} (j : Nat) (h : j < l.length) (hb : okF l[j] = false ∨ (0 < j ∧ bytesLess (l[j - 1]'(by omega)).t l[j].t = false)) : isR l = false := by
 cases hr : isR l with
 | false => rfl
 | true =>
  have := (isR_iff.1 hr).1 j h h
  rcases hb with hb | ⟨h0, hb⟩
  ·
   rw [this.1] at hb; cases hb
  ·
   rw [this.2 h0] at hb; cases hb
theorem isN_no {s : List UInt8} (j : Nat) (b : UInt8) (hb : s[j]? = some b) (h : low b = false) : isN s = false := by
 unfold isN
 rw [Bool.and_eq_false_iff]
 left
 rw [List.all_eq_false]
 exact ⟨b, List.mem_of_getElem? hb, by simp [h]⟩
theorem isN_all {s : List UInt8} (h : ∀ j (hj : j < s.length), low s[j] = true) : isN s = L1.inB (s.length : Int) 1 8 := by
 unfold isN L1.inB
 rw [show s.all low = true by rw [List.all_eq_true]; intro x hx; obtain ⟨i, hi, rfl⟩ := List.getElem_of_mem hx; exact h i hi, Bool.true_and]
 congr 1 <;> (rw [decide_eq_decide]; omega)
end Go.Proofs.Ytojcdmgcbgpdmaa.L5

namespace Go.Proofs.Ytojcdmgcbgpdmaa.L5
open Go.Op (bytesLess)
open Go.ChangeShapes Go.WideShapes Go.ChangeAt Go.RowKit Mem Sl Ex L2 Sv

def F.cells (f : F) : List Value := [.string f.name, .int .i64 f.n]
def cellsF (l : List F) : List Value := l.flatMap F.cells
theorem cellsF_nil : cellsF [] = [] := rfl
theorem cellsF_cons (f : F) (l : List F) : cellsF (f :: l) = .string f.name :: .int .i64 f.n :: cellsF l := rfl
theorem cellsF_append (l m : List F) : cellsF (l ++ m) = cellsF l ++ cellsF m := by unfold cellsF; rw [List.flatMap_append]
@[simp] theorem cellsF_length : ∀ (l : List F), (cellsF l).length = l.length * 2
  | [] => rfl
  | f :: l => by rw [cellsF_cons, List.length_cons, List.length_cons, cellsF_length l, List.length_cons]; omega
theorem cellsF_at : ∀ (l : List F) (j : Nat) (h : j < l.length), (cellsF l)[j * 2]? = some (.string l[j].name) ∧ (cellsF l)[j * 2 + 1]? = some (.int .i64 l[j].n)
  | f :: l, 0, _ => ⟨rfl, rfl⟩
  | f :: l, j + 1, h => by
    have := cellsF_at l j (by simpa using h)
    rw [cellsF_cons, show (j + 1) * 2 = j * 2 + 1 + 1 by omega]
    exact this
theorem cellsF_one (l : List F) : ∀ u ∈ cellsF l, u.oneCell' = true := by
  intro u hu
  obtain ⟨f, _, hf⟩ := List.mem_flatMap.1 hu
  simp [F.cells] at hf
  rcases hf with rfl | rfl <;> rfl
theorem add_next (ad : Addr) (j : Nat) : ad.add (j + 1) = ⟨(ad.add j).block, (ad.add j).off + 1, none⟩ := by
  unfold Addr.add
  by_cases h : j = 0 <;> simp [h, Nat.add_assoc]
theorem readsF {w : World} {B : Nat} {a : Option Addr} {l : List F} (h : Reads w B a (cellsF l)) (j : Nat) (hj : j < l.length) :
    ∃ ad, a = some ad ∧ ad.block < B ∧ w.cell? (ad.add (j * 2)) = some (.string l[j].name) ∧ w.cell? ⟨(ad.add (j * 2)).block, (ad.add (j * 2)).off + 1, none⟩ = some (.int .i64 l[j].n) := by
  obtain ⟨ad, e, hb, h1⟩ := h (j * 2) (by simp; omega)
  obtain ⟨ad', e', _, h2⟩ := h (j * 2 + 1) (by simp; omega)
  rw [e] at e'
  injection e' with e'
  subst e'
  obtain ⟨c1, c2⟩ := cellsF_at l j hj
  refine ⟨ad, e, hb, by rw [h1, ← c1, List.getElem?_eq_getElem], by rw [← add_next, h2, ← c2, List.getElem?_eq_getElem]⟩

theorem specIsName_any (s : ByteArray) (hs : s.size ≤ 281474976710656) (w : World) :
    Calls Try.prog 109 #[.string s] w fun e w' => e = .returned (.bool (isN s.data.toList)) ∧ w = w' := by
  have hsz : s.data.toList.length = s.size := by rw [Array.length_toList]; rfl
  have HZ := Lib.hid hsz
  clear hsz
  have HI := Lib.hid (fun w => L1.l1In_any (s.size : Int) 1 8 w)
  obtain ⟨bi, hbi⟩ : ∃ b, L1.inB (s.size : Int) 1 8 = b := ⟨_, rfl⟩
  rw [hbi] at HI
  go_enter Try.func109, Try.ntmps109
  go_wp2
  go_loop [3] (fun i => ∃ k : Nat, k ≤ s.size ∧ i = .int .i64 k ∧ Hid (∀ j (hj : j < s.data.toList.length), j < k → low s.data.toList[j] = true)) (fun i => s.size - (intOf i).toNat)
  case atStart => exact ⟨0, Nat.zero_le _, rfl, fun j hj h => by omega⟩
  case round =>
    obtain ⟨k, hk, rfl, hrel⟩ := hrel
    by_cases hlt : k < s.size
    · have hb : s.data.toList[k]? = some s[k] := by
        rw [List.getElem?_eq_getElem (by rw [HZ.out]; exact hlt)]
        rfl
      have HB := Lib.hid hb
      clear hb
      have hT : ∀ b : Bool, low s[k] = b → Hid (low s[k] = b) := fun b h => h
      rcases (show ((s[k].toNat : Int) < 97 ∧ low s[k] = false) ∨ ((¬ (s[k].toNat : Int) < 97 ∧ (s[k].toNat : Int) ≤ 122) ∧ low s[k] = true) ∨ ((¬ (s[k].toNat : Int) < 97 ∧ 122 < (s[k].toNat : Int)) ∧ low s[k] = false) by
        unfold low
        simp only [Bool.and_eq_true, Bool.and_eq_false_iff, decide_eq_true_eq, decide_eq_false_iff_not]
        omega) with ⟨h1, h2⟩ | ⟨⟨h1, h3⟩, h2⟩ | ⟨⟨h1, h3⟩, h2⟩
      all_goals
        have H2 := hT _ h2
        clear h2 hT
        go_wp2
        first
        | (go_round
           case rel => exact ⟨k + 1, by omega, by go_num, fun j hj h => by
              by_cases e : j < k
              · exact hrel.out j hj e
              · obtain rfl : j = k := by omega
                have := HB.out
                rw [List.getElem?_eq_getElem hj] at this
                rw [Option.some.inj this]
                exact H2.out⟩
           case measure => simp [intOf]; omega)
        | (go_ret
           exact ⟨by rw [isN_no k _ HB.out H2.out]; rfl, rfl⟩)
    · go_wp2_with (go_at_call 91; refine (HI.out _).mono ?_; rintro e w1 ⟨rfl, rfl⟩)
      go_ret
      obtain rfl : k = s.size := by omega
      have e1 := isN_all (fun j hj => hrel.out j hj (by rw [HZ.out] at hj; exact hj))
      rw [HZ.out, hbi] at e1
      exact ⟨by rw [e1]; rfl, rfl⟩

def getN (l : List F) (name : List UInt8) : Int := (getO l name).getD 0
def getB (l : List F) (name : List UInt8) : Bool := (getO l name).isSome
end Go.Proofs.Ytojcdmgcbgpdmaa.L5

set_option linter.unusedSimpArgs false
namespace Go.Proofs.Ytojcdmgcbgpdmaa.L5
open Go.Op (bytesLess)
open Go.ChangeShapes Go.WideShapes Go.ChangeAt Go.RowKit Mem Sl Ex L2 Sv

theorem string_geq (t : TypeId) (a b : ByteArray) : binOp .geq t (.string a) (.string b) = pure (.bool (!(bytesLess a.toList b.toList))) := by simp [binOp, Op.stringOp]
def Small (l : List F) : Prop := ∀ f ∈ l, f.name.size ≤ 281474976710656
set_option maxHeartbeats 8000000 in
theorem specIsRecord_any (a : Option Addr) (c : Nat) (l : List F) (hl : l.length ≤ 1099511627776) (hsm : Small l) (w : World) (hr : Reads w w.heap.size a (cellsF l)) :
  Calls Try.prog 86 #[.agg #[.slice a l.length c]] w fun e w' => e = .returned (.bool (isR l)) ∧ Below w.heap.size w w' := by
 obtain ⟨W1, hW1⟩ : ∃ u, u = w.alloc (.cells #[.slice a l.length c] 31) := ⟨_, rfl⟩
 have HBL := Lib.hid (show Below w.heap.size w W1 by rw [hW1]; exact below_alloc (Below.refl w.heap.size w) _ (Nat.le_refl _))
 have HR := Lib.hid (hr.below HBL.out)
 have HX0 := Lib.hid (show Row W1 w.heap.size 31 #[.slice a l.length c] by rw [hW1]; exact Row.made w _ _)
 obtain ⟨n, hn⟩ : ∃ n, n = l.length := ⟨_, rfl⟩
 rw [← hn] at HX0 hW1 ⊢
 rw [← hn] at hl
 have HN0 := Lib.hid hn
 have HS := Lib.hid hsm
 clear hn hr hsm
 have hl' : (n : Int) ≤ 1099511627776 := by omega
 go_enter Try.func86, Try.ntmps86
 go_upto_region 1 with fail
 rw [← hW1]
 clear hW1
 go_wp2
 go_loopw [3] (fun i wr => ∃ k : Nat, k ≤ n ∧ i = .int .i64 k ∧ Hid (okTo l k ∧ Drew W1 wr)) (fun i _ => n - (intOf i).toNat)
 case atStart => exact ⟨0, Nat.zero_le _, rfl, fun j hj h => by omega, Drew.refl _⟩
 case round =>
  obtain ⟨k, hk, rfl, hrel⟩ := hrel
  have hb0 : wr.cell? ⟨w.heap.size, 0, none⟩ = some (.slice a n c) := by
   have := ((HX0.out.below (hrel.out.2.below _) HX0.out.inside) : Row wr w.heap.size 31 #[.slice a n c]).cell 0
   simpa using this
  by_cases hlt : (k : Int) < (n : Int)
  ·
   have hkl : k < l.length := by have := HN0.out; omega
   have HRr := Lib.hid (HR.out.below ((hrel.out.2.below _).mono HBL.out.size))
   obtain ⟨ad, rfl, had, h1, h2⟩ := readsF HRr.out k hkl
   have HN := Lib.hid (fun w => specIsName_any l[k].name (HS.out _ (List.getElem_mem hkl)) w)
   have HI := Lib.hid (fun w => L1.l1In_any l[k].n 0 1000000000 w)
   obtain ⟨bn, hbn⟩ : ∃ b, isN l[k].name.data.toList = b := ⟨_, rfl⟩
   obtain ⟨bi, hbi⟩ : ∃ b, L1.inB l[k].n 0 1000000000 = b := ⟨_, rfl⟩
   have HO := Lib.hid (show okF l[k] = (bn && bi) by unfold okF; rw [hbi]; unfold F.t; rw [hbn])
   rw [hbn] at HN
   rw [hbi] at HI
   obtain ⟨t, ht⟩ : ∃ t, t = l[k].name := ⟨_, rfl⟩
   obtain ⟨m, hm⟩ : ∃ m, m = l[k].n := ⟨_, rfl⟩
   rw [← ht] at h1 HN
   rw [← hm] at h2 HI
   clear hbn hbi
   cases bn with
   | false =>
    have HX := Lib.hid (isR_no k hkl (.inl (by rw [HO.out]; rfl)))
    clear ht hm HO
    go_wp2_with fail
    refine wp_region_held_drew (S := (fun w' => w'.cell? ⟨w.heap.size, 0, none⟩ = some (.slice (some ad) n c) ∧ w'.cell? (ad.add (k * 2)) = some (.string t) ∧ w'.cell? ⟨(ad.add (k * 2)).block, (ad.add (k * 2)).off + 1, none⟩ = some (.int .i64 m))) (by kernel_rfl) ⟨hb0, h1, h2⟩ (fun hS => ?_)
    refine tk 0 rfl ?_
    try simp only [zp0, zp1, zp2, zp3, zp4]
    refine tk 1 rfl ?_
    try simp only [zp0, zp1, zp2, zp3, zp4]
    refine tk 2 rfl ?_
    try simp only [zp0, zp1, zp2, zp3, zp4]
    refine tk 3 rfl ?_
    try simp only [zp0, zp1, zp2, zp3, zp4]
    refine tk 4 rfl ?_
    try simp only [zp0, zp1, zp2, zp3, zp4]
    refine tk 5 rfl ?_
    try simp only [zp0, zp1, zp2, zp3, zp4]
    refine Reg.one_op (i := 6) rfl (by kernel_rfl) (fun K hK => ?_)
    go_simp
    go_at_call 109
    refine (HN.out _).mono ?_
    rintro e w1 ⟨rfl, rfl⟩
    go_wp2_with fail
    refine hK.out _ _ hS (fun hS => ?_)
    clear hK K
    try simp only [zp0, zp1, zp2, zp3, zp4]
    refine tk 7 rfl ?_
    try simp only [zp0, zp1, zp2, zp3, zp4]
    refine tk 8 rfl ?_
    try simp only [zp0, zp1, zp2, zp3, zp4]
    refine sk 9 rfl ?_
    try simp only [zp0, zp1, zp2, zp3, zp4]
    refine sk 10 rfl ?_
    try simp only [zp0, zp1, zp2, zp3, zp4]
    refine sk 11 rfl ?_
    try simp only [zp0, zp1, zp2, zp3, zp4]
    refine sk 12 rfl ?_
    try simp only [zp0, zp1, zp2, zp3, zp4]
    refine sk 13 rfl ?_
    try simp only [zp0, zp1, zp2, zp3, zp4]
    refine sk 14 rfl ?_
    try simp only [zp0, zp1, zp2, zp3, zp4]
    refine Reg.skip_one (i := 15) rfl (by kernel_rfl) (by rfl) (by assumption) ?_
    try simp only [zp0, zp1, zp2, zp3, zp4]
    refine sk 16 rfl ?_
    try simp only [zp0, zp1, zp2, zp3, zp4]
    refine tk 17 rfl ?_
    try simp only [zp0, zp1, zp2, zp3, zp4]
    refine tk 18 rfl ?_
    try simp only [zp0, zp1, zp2, zp3, zp4]
    refine sk 19 rfl ?_
    try simp only [zp0, zp1, zp2, zp3, zp4]
    refine sk 20 rfl ?_
    try simp only [zp0, zp1, zp2, zp3, zp4]
    refine sk 21 rfl ?_
    try simp only [zp0, zp1, zp2, zp3, zp4]
    refine sk 22 rfl ?_
    try simp only [zp0, zp1, zp2, zp3, zp4]
    refine sk 23 rfl ?_
    try simp only [zp0, zp1, zp2, zp3, zp4]
    refine sk 24 rfl ?_
    try simp only [zp0, zp1, zp2, zp3, zp4]
    refine sk 25 rfl ?_
    try simp only [zp0, zp1, zp2, zp3, zp4]
    refine sk 26 rfl ?_
    try simp only [zp0, zp1, zp2, zp3, zp4]
    refine sk 27 rfl ?_
    try simp only [zp0, zp1, zp2, zp3, zp4]
    refine sk 28 rfl ?_
    try simp only [zp0, zp1, zp2, zp3, zp4]
    refine sk 29 rfl ?_
    try simp only [zp0, zp1, zp2, zp3, zp4]
    refine sk 30 rfl ?_
    try simp only [zp0, zp1, zp2, zp3, zp4]
    refine sk 31 rfl ?_
    try simp only [zp0, zp1, zp2, zp3, zp4]
    refine sk 32 rfl ?_
    try simp only [zp0, zp1, zp2, zp3, zp4]
    refine sk 33 rfl ?_
    try simp only [zp0, zp1, zp2, zp3, zp4]
    refine sk 34 rfl ?_
    try simp only [zp0, zp1, zp2, zp3, zp4]
    refine sk 35 rfl ?_
    try simp only [zp0, zp1, zp2, zp3, zp4]
    refine sk 36 rfl ?_
    try simp only [zp0, zp1, zp2, zp3, zp4]
    refine tk 37 rfl ?_
    try simp only [zp0, zp1, zp2, zp3, zp4]
    refine wpAnyH_done (by kernel_rfl) ?_ _
    go_wp2_with fail
    go_ret
    exact ⟨by rw [HX.out]; rfl, HBL.out.trans (((hrel.out.2.below _).drew).mono HBL.out.size)⟩
   | true =>
    cases bi with
    | false =>
     have HX := Lib.hid (isR_no k hkl (.inl (by rw [HO.out]; rfl)))
     clear ht hm HO
     go_wp2_with fail
     refine wp_region_held_drew (S := (fun w' => w'.cell? ⟨w.heap.size, 0, none⟩ = some (.slice (some ad) n c) ∧ w'.cell? (ad.add (k * 2)) = some (.string t) ∧ w'.cell? ⟨(ad.add (k * 2)).block, (ad.add (k * 2)).off + 1, none⟩ = some (.int .i64 m))) (by kernel_rfl) ⟨hb0, h1, h2⟩ (fun hS => ?_)
     refine tk 0 rfl ?_
     try simp only [zp0, zp1, zp2, zp3, zp4]
     refine tk 1 rfl ?_
     try simp only [zp0, zp1, zp2, zp3, zp4]
     refine tk 2 rfl ?_
     try simp only [zp0, zp1, zp2, zp3, zp4]
     refine tk 3 rfl ?_
     try simp only [zp0, zp1, zp2, zp3, zp4]
     refine tk 4 rfl ?_
     try simp only [zp0, zp1, zp2, zp3, zp4]
     refine tk 5 rfl ?_
     try simp only [zp0, zp1, zp2, zp3, zp4]
     refine Reg.one_op (i := 6) rfl (by kernel_rfl) (fun K hK => ?_)
     go_simp
     go_at_call 109
     refine (HN.out _).mono ?_
     rintro e w1 ⟨rfl, rfl⟩
     go_wp2_with fail
     refine hK.out _ _ hS (fun hS => ?_)
     clear hK K
     try simp only [zp0, zp1, zp2, zp3, zp4]
     refine tk 7 rfl ?_
     try simp only [zp0, zp1, zp2, zp3, zp4]
     refine tk 8 rfl ?_
     try simp only [zp0, zp1, zp2, zp3, zp4]
     refine tk 9 rfl ?_
     try simp only [zp0, zp1, zp2, zp3, zp4]
     refine tk 10 rfl ?_
     try simp only [zp0, zp1, zp2, zp3, zp4]
     refine tk 11 rfl ?_
     try simp only [zp0, zp1, zp2, zp3, zp4]
     refine tk 12 rfl ?_
     try simp only [zp0, zp1, zp2, zp3, zp4]
     refine tk 13 rfl ?_
     try simp only [zp0, zp1, zp2, zp3, zp4]
     refine tk 14 rfl ?_
     try simp only [zp0, zp1, zp2, zp3, zp4]
     refine Reg.one_op (i := 15) rfl (by kernel_rfl) (fun K hK => ?_)
     go_simp
     go_at_call 91
     refine (HI.out _).mono ?_
     rintro e w1 ⟨rfl, rfl⟩
     go_wp2_with fail
     refine hK.out _ _ hS (fun hS => ?_)
     clear hK K
     try simp only [zp0, zp1, zp2, zp3, zp4]
     refine tk 16 rfl ?_
     try simp only [zp0, zp1, zp2, zp3, zp4]
     refine tk 17 rfl ?_
     try simp only [zp0, zp1, zp2, zp3, zp4]
     refine tk 18 rfl ?_
     try simp only [zp0, zp1, zp2, zp3, zp4]
     refine sk 19 rfl ?_
     try simp only [zp0, zp1, zp2, zp3, zp4]
     refine sk 20 rfl ?_
     try simp only [zp0, zp1, zp2, zp3, zp4]
     refine sk 21 rfl ?_
     try simp only [zp0, zp1, zp2, zp3, zp4]
     refine sk 22 rfl ?_
     try simp only [zp0, zp1, zp2, zp3, zp4]
     refine sk 23 rfl ?_
     try simp only [zp0, zp1, zp2, zp3, zp4]
     refine sk 24 rfl ?_
     try simp only [zp0, zp1, zp2, zp3, zp4]
     refine sk 25 rfl ?_
     try simp only [zp0, zp1, zp2, zp3, zp4]
     refine sk 26 rfl ?_
     try simp only [zp0, zp1, zp2, zp3, zp4]
     refine sk 27 rfl ?_
     try simp only [zp0, zp1, zp2, zp3, zp4]
     refine sk 28 rfl ?_
     try simp only [zp0, zp1, zp2, zp3, zp4]
     refine sk 29 rfl ?_
     try simp only [zp0, zp1, zp2, zp3, zp4]
     refine sk 30 rfl ?_
     try simp only [zp0, zp1, zp2, zp3, zp4]
     refine sk 31 rfl ?_
     try simp only [zp0, zp1, zp2, zp3, zp4]
     refine sk 32 rfl ?_
     try simp only [zp0, zp1, zp2, zp3, zp4]
     refine sk 33 rfl ?_
     try simp only [zp0, zp1, zp2, zp3, zp4]
     refine sk 34 rfl ?_
     try simp only [zp0, zp1, zp2, zp3, zp4]
     refine sk 35 rfl ?_
     try simp only [zp0, zp1, zp2, zp3, zp4]
     refine sk 36 rfl ?_
     try simp only [zp0, zp1, zp2, zp3, zp4]
     refine tk 37 rfl ?_
     try simp only [zp0, zp1, zp2, zp3, zp4]
     refine wpAnyH_done (by kernel_rfl) ?_ _
     go_wp2_with fail
     go_ret
     exact ⟨by rw [HX.out]; rfl, HBL.out.trans (((hrel.out.2.below _).drew).mono HBL.out.size)⟩
    | true =>
     rcases Nat.eq_zero_or_pos k with rfl | hk0
     ·
      clear ht hm
      rw [Nat.zero_mul, show ad.add 0 = ad by simp [Addr.add]] at h1 h2
      go_wp2_with fail
      refine wp_region_held_drew (S := (fun w' => w'.cell? ⟨w.heap.size, 0, none⟩ = some (.slice (some ad) n c) ∧ w'.cell? ad = some (.string t) ∧ w'.cell? ⟨ad.block, ad.off + 1, none⟩ = some (.int .i64 m))) (by kernel_rfl) ⟨hb0, h1, h2⟩ (fun hS => ?_)
      refine tk 0 rfl ?_
      try simp only [zp0, zp1, zp2, zp3, zp4]
      refine tk 1 rfl ?_
      try simp only [zp0, zp1, zp2, zp3, zp4]
      refine tk 2 rfl ?_
      try simp only [zp0, zp1, zp2, zp3, zp4]
      refine tk 3 rfl ?_
      try simp only [zp0, zp1, zp2, zp3, zp4]
      refine tk 4 rfl ?_
      try simp only [zp0, zp1, zp2, zp3, zp4]
      refine tk 5 rfl ?_
      try simp only [zp0, zp1, zp2, zp3, zp4]
      refine Reg.one_op (i := 6) rfl (by kernel_rfl) (fun K hK => ?_)
      go_simp
      go_at_call 109
      refine (HN.out _).mono ?_
      rintro e w1 ⟨rfl, rfl⟩
      go_wp2_with fail
      refine hK.out _ _ hS (fun hS => ?_)
      clear hK K
      try simp only [zp0, zp1, zp2, zp3, zp4]
      refine tk 7 rfl ?_
      try simp only [zp0, zp1, zp2, zp3, zp4]
      refine tk 8 rfl ?_
      try simp only [zp0, zp1, zp2, zp3, zp4]
      refine tk 9 rfl ?_
      try simp only [zp0, zp1, zp2, zp3, zp4]
      refine tk 10 rfl ?_
      try simp only [zp0, zp1, zp2, zp3, zp4]
      refine tk 11 rfl ?_
      try simp only [zp0, zp1, zp2, zp3, zp4]
      refine tk 12 rfl ?_
      try simp only [zp0, zp1, zp2, zp3, zp4]
      refine tk 13 rfl ?_
      try simp only [zp0, zp1, zp2, zp3, zp4]
      refine tk 14 rfl ?_
      try simp only [zp0, zp1, zp2, zp3, zp4]
      refine Reg.one_op (i := 15) rfl (by kernel_rfl) (fun K hK => ?_)
      go_simp
      go_at_call 91
      refine (HI.out _).mono ?_
      rintro e w1 ⟨rfl, rfl⟩
      go_wp2_with fail
      refine hK.out _ _ hS (fun hS => ?_)
      clear hK K
      try simp only [zp0, zp1, zp2, zp3, zp4]
      refine tk 16 rfl ?_
      try simp only [zp0, zp1, zp2, zp3, zp4]
      refine tk 17 rfl ?_
      try simp only [zp0, zp1, zp2, zp3, zp4]
      refine tk 18 rfl ?_
      try simp only [zp0, zp1, zp2, zp3, zp4]
      refine tk 19 rfl ?_
      try simp only [zp0, zp1, zp2, zp3, zp4]
      refine tk 20 rfl ?_
      try simp only [zp0, zp1, zp2, zp3, zp4]
      refine tk 21 rfl ?_
      try simp only [zp0, zp1, zp2, zp3, zp4]
      refine sk 22 rfl ?_
      try simp only [zp0, zp1, zp2, zp3, zp4]
      refine sk 23 rfl ?_
      try simp only [zp0, zp1, zp2, zp3, zp4]
      refine sk 24 rfl ?_
      try simp only [zp0, zp1, zp2, zp3, zp4]
      refine sk 25 rfl ?_
      try simp only [zp0, zp1, zp2, zp3, zp4]
      refine sk 26 rfl ?_
      try simp only [zp0, zp1, zp2, zp3, zp4]
      refine sk 27 rfl ?_
      try simp only [zp0, zp1, zp2, zp3, zp4]
      refine sk 28 rfl ?_
      try simp only [zp0, zp1, zp2, zp3, zp4]
      refine sk 29 rfl ?_
      try simp only [zp0, zp1, zp2, zp3, zp4]
      refine sk 30 rfl ?_
      try simp only [zp0, zp1, zp2, zp3, zp4]
      refine sk 31 rfl ?_
      try simp only [zp0, zp1, zp2, zp3, zp4]
      refine sk 32 rfl ?_
      try simp only [zp0, zp1, zp2, zp3, zp4]
      refine sk 33 rfl ?_
      try simp only [zp0, zp1, zp2, zp3, zp4]
      refine sk 34 rfl ?_
      try simp only [zp0, zp1, zp2, zp3, zp4]
      refine sk 35 rfl ?_
      try simp only [zp0, zp1, zp2, zp3, zp4]
      refine tk 36 rfl ?_
      try simp only [zp0, zp1, zp2, zp3, zp4]
      refine tk 37 rfl ?_
      try simp only [zp0, zp1, zp2, zp3, zp4]
      refine wpAnyH_done (by kernel_rfl) ?_ _
      go_wp2_with fail
      go_roundw
      case rel => exact ⟨1, by omega, by go_num, And.intro (fun j hj h => by
       obtain rfl : j = 0 := by omega
       exact ⟨by rw [HO.out]; rfl, fun h0 => by omega⟩) (Drew.more hrel.out.2 1)⟩
      case measure => simp [intOf]; omega
     ·
      obtain ⟨j, rfl⟩ : ∃ j, k = j + 1 := ⟨k - 1, by omega⟩
      obtain ⟨ad', e', -, h3, -⟩ := readsF HRr.out j (by omega)
      injection e' with e'
      subst e'
      obtain ⟨p, hp⟩ : ∃ p, p = (l[j]'(by omega)).name := ⟨_, rfl⟩
      rw [← hp] at h3
      have hwj : IntKind.i64.wrap (j : Int) = (j : Int) := IntWalk.i64_in _ ⟨by omega, by omega⟩
      have k1 : (0 : Int) ≤ (j : Int) + 1 := by omega
      have k2 : (j : Int) + 1 < (n : Int) := by omega
      have k3 : (0 : Int) ≤ (j : Int) := by omega
      have k4 : (j : Int) < (n : Int) := by omega
      have hge := string_geq
      obtain ⟨bo, hbo⟩ : ∃ b, bytesLess p.toList t.toList = b := ⟨_, rfl⟩
      have HB := Lib.hid (show bytesLess (l[j]'(by omega)).t l[j + 1].t = bo by unfold F.t; rw [← hp, ← ht, ← hbo, ByteArray.toList_eq, ByteArray.toList_eq])
      clear ht hm hp
      cases bo with
      | false =>
       have HX := Lib.hid (isR_no (j + 1) hkl (.inr ⟨Nat.succ_pos j, HB.out⟩))
       go_wp2_with fail
       refine wp_region_held_drew (S := (fun w' => w'.cell? ⟨w.heap.size, 0, none⟩ = some (.slice (some ad) n c) ∧ w'.cell? (ad.add ((j + 1) * 2)) = some (.string t) ∧ w'.cell? ⟨(ad.add ((j + 1) * 2)).block, (ad.add ((j + 1) * 2)).off + 1, none⟩ = some (.int .i64 m) ∧ w'.cell? (ad.add (j * 2)) = some (.string p))) (by kernel_rfl) ⟨hb0, h1, h2, h3⟩ (fun hS => ?_)
       refine tk 0 rfl ?_
       try simp only [zp0, zp1, zp2, zp3, zp4]
       refine tk 1 rfl ?_
       try simp only [zp0, zp1, zp2, zp3, zp4]
       refine tk 2 rfl ?_
       try simp only [zp0, zp1, zp2, zp3, zp4]
       refine tk 3 rfl ?_
       try simp only [zp0, zp1, zp2, zp3, zp4]
       refine tk 4 rfl ?_
       try simp only [zp0, zp1, zp2, zp3, zp4]
       refine tk 5 rfl ?_
       try simp only [zp0, zp1, zp2, zp3, zp4]
       refine Reg.one_op (i := 6) rfl (by kernel_rfl) (fun K hK => ?_)
       go_simp
       go_at_call 109
       refine (HN.out _).mono ?_
       rintro e w1 ⟨rfl, rfl⟩
       go_wp2_with fail
       refine hK.out _ _ hS (fun hS => ?_)
       clear hK K
       try simp only [zp0, zp1, zp2, zp3, zp4]
       refine tk 7 rfl ?_
       try simp only [zp0, zp1, zp2, zp3, zp4]
       refine tk 8 rfl ?_
       try simp only [zp0, zp1, zp2, zp3, zp4]
       refine tk 9 rfl ?_
       try simp only [zp0, zp1, zp2, zp3, zp4]
       refine tk 10 rfl ?_
       try simp only [zp0, zp1, zp2, zp3, zp4]
       refine tk 11 rfl ?_
       try simp only [zp0, zp1, zp2, zp3, zp4]
       refine tk 12 rfl ?_
       try simp only [zp0, zp1, zp2, zp3, zp4]
       refine tk 13 rfl ?_
       try simp only [zp0, zp1, zp2, zp3, zp4]
       refine tk 14 rfl ?_
       try simp only [zp0, zp1, zp2, zp3, zp4]
       refine Reg.one_op (i := 15) rfl (by kernel_rfl) (fun K hK => ?_)
       go_simp
       go_at_call 91
       refine (HI.out _).mono ?_
       rintro e w1 ⟨rfl, rfl⟩
       go_wp2_with fail
       refine hK.out _ _ hS (fun hS => ?_)
       clear hK K
       try simp only [zp0, zp1, zp2, zp3, zp4]
       refine tk 16 rfl ?_
       try simp only [zp0, zp1, zp2, zp3, zp4]
       refine tk 17 rfl ?_
       try simp only [zp0, zp1, zp2, zp3, zp4]
       refine tk 18 rfl ?_
       try simp only [zp0, zp1, zp2, zp3, zp4]
       refine tk 19 rfl ?_
       try simp only [zp0, zp1, zp2, zp3, zp4]
       refine tk 20 rfl ?_
       try simp only [zp0, zp1, zp2, zp3, zp4]
       refine tk 21 rfl ?_
       try simp only [zp0, zp1, zp2, zp3, zp4]
       refine tk 22 rfl ?_
       try simp only [zp0, zp1, zp2, zp3, zp4]
       refine tk 23 rfl ?_
       try simp only [zp0, zp1, zp2, zp3, zp4]
       refine tk 24 rfl ?_
       try simp only [zp0, zp1, zp2, zp3, zp4]
       refine tk 25 rfl ?_
       try simp only [zp0, zp1, zp2, zp3, zp4]
       refine tk 26 rfl ?_
       try simp only [zp0, zp1, zp2, zp3, zp4]
       refine tk 27 rfl ?_
       try simp only [zp0, zp1, zp2, zp3, zp4]
       refine tk 28 rfl ?_
       try simp only [zp0, zp1, zp2, zp3, zp4]
       refine tk 29 rfl ?_
       try simp only [zp0, zp1, zp2, zp3, zp4]
       refine tk 30 rfl ?_
       try simp only [zp0, zp1, zp2, zp3, zp4]
       refine tk 31 rfl ?_
       try simp only [zp0, zp1, zp2, zp3, zp4]
       refine tk 32 rfl ?_
       try simp only [zp0, zp1, zp2, zp3, zp4]
       refine tk 33 rfl ?_
       try simp only [zp0, zp1, zp2, zp3, zp4]
       refine tk 34 rfl ?_
       try simp only [zp0, zp1, zp2, zp3, zp4]
       refine tk 35 rfl ?_
       try simp only [zp0, zp1, zp2, zp3, zp4]
       refine tk 36 rfl ?_
       try simp only [zp0, zp1, zp2, zp3, zp4]
       refine tk 37 rfl ?_
       try simp only [zp0, zp1, zp2, zp3, zp4]
       refine wpAnyH_done (by kernel_rfl) ?_ _
       go_wp2_with fail
       go_ret
       exact ⟨by rw [HX.out]; rfl, HBL.out.trans (((hrel.out.2.below _).drew).mono HBL.out.size)⟩
      | true =>
       go_wp2_with fail
       refine wp_region_held_drew (S := (fun w' => w'.cell? ⟨w.heap.size, 0, none⟩ = some (.slice (some ad) n c) ∧ w'.cell? (ad.add ((j + 1) * 2)) = some (.string t) ∧ w'.cell? ⟨(ad.add ((j + 1) * 2)).block, (ad.add ((j + 1) * 2)).off + 1, none⟩ = some (.int .i64 m) ∧ w'.cell? (ad.add (j * 2)) = some (.string p))) (by kernel_rfl) ⟨hb0, h1, h2, h3⟩ (fun hS => ?_)
       refine tk 0 rfl ?_
       try simp only [zp0, zp1, zp2, zp3, zp4]
       refine tk 1 rfl ?_
       try simp only [zp0, zp1, zp2, zp3, zp4]
       refine tk 2 rfl ?_
       try simp only [zp0, zp1, zp2, zp3, zp4]
       refine tk 3 rfl ?_
       try simp only [zp0, zp1, zp2, zp3, zp4]
       refine tk 4 rfl ?_
       try simp only [zp0, zp1, zp2, zp3, zp4]
       refine tk 5 rfl ?_
       try simp only [zp0, zp1, zp2, zp3, zp4]
       refine Reg.one_op (i := 6) rfl (by kernel_rfl) (fun K hK => ?_)
       go_simp
       go_at_call 109
       refine (HN.out _).mono ?_
       rintro e w1 ⟨rfl, rfl⟩
       go_wp2_with fail
       refine hK.out _ _ hS (fun hS => ?_)
       clear hK K
       try simp only [zp0, zp1, zp2, zp3, zp4]
       refine tk 7 rfl ?_
       try simp only [zp0, zp1, zp2, zp3, zp4]
       refine tk 8 rfl ?_
       try simp only [zp0, zp1, zp2, zp3, zp4]
       refine tk 9 rfl ?_
       try simp only [zp0, zp1, zp2, zp3, zp4]
       refine tk 10 rfl ?_
       try simp only [zp0, zp1, zp2, zp3, zp4]
       refine tk 11 rfl ?_
       try simp only [zp0, zp1, zp2, zp3, zp4]
       refine tk 12 rfl ?_
       try simp only [zp0, zp1, zp2, zp3, zp4]
       refine tk 13 rfl ?_
       try simp only [zp0, zp1, zp2, zp3, zp4]
       refine tk 14 rfl ?_
       try simp only [zp0, zp1, zp2, zp3, zp4]
       refine Reg.one_op (i := 15) rfl (by kernel_rfl) (fun K hK => ?_)
       go_simp
       go_at_call 91
       refine (HI.out _).mono ?_
       rintro e w1 ⟨rfl, rfl⟩
       go_wp2_with fail
       refine hK.out _ _ hS (fun hS => ?_)
       clear hK K
       try simp only [zp0, zp1, zp2, zp3, zp4]
       refine tk 16 rfl ?_
       try simp only [zp0, zp1, zp2, zp3, zp4]
       refine tk 17 rfl ?_
       try simp only [zp0, zp1, zp2, zp3, zp4]
       refine tk 18 rfl ?_
       try simp only [zp0, zp1, zp2, zp3, zp4]
       refine tk 19 rfl ?_
       try simp only [zp0, zp1, zp2, zp3, zp4]
       refine tk 20 rfl ?_
       try simp only [zp0, zp1, zp2, zp3, zp4]
       refine tk 21 rfl ?_
       try simp only [zp0, zp1, zp2, zp3, zp4]
       refine tk 22 rfl ?_
       try simp only [zp0, zp1, zp2, zp3, zp4]
       refine tk 23 rfl ?_
       try simp only [zp0, zp1, zp2, zp3, zp4]
       refine tk 24 rfl ?_
       try simp only [zp0, zp1, zp2, zp3, zp4]
       refine tk 25 rfl ?_
       try simp only [zp0, zp1, zp2, zp3, zp4]
       refine tk 26 rfl ?_
       try simp only [zp0, zp1, zp2, zp3, zp4]
       refine tk 27 rfl ?_
       try simp only [zp0, zp1, zp2, zp3, zp4]
       refine tk 28 rfl ?_
       try simp only [zp0, zp1, zp2, zp3, zp4]
       refine tk 29 rfl ?_
       try simp only [zp0, zp1, zp2, zp3, zp4]
       refine tk 30 rfl ?_
       try simp only [zp0, zp1, zp2, zp3, zp4]
       refine tk 31 rfl ?_
       try simp only [zp0, zp1, zp2, zp3, zp4]
       refine tk 32 rfl ?_
       try simp only [zp0, zp1, zp2, zp3, zp4]
       refine tk 33 rfl ?_
       try simp only [zp0, zp1, zp2, zp3, zp4]
       refine tk 34 rfl ?_
       try simp only [zp0, zp1, zp2, zp3, zp4]
       refine tk 35 rfl ?_
       try simp only [zp0, zp1, zp2, zp3, zp4]
       refine tk 36 rfl ?_
       try simp only [zp0, zp1, zp2, zp3, zp4]
       refine tk 37 rfl ?_
       try simp only [zp0, zp1, zp2, zp3, zp4]
       refine wpAnyH_done (by kernel_rfl) ?_ _
       go_wp2_with fail
       go_roundw
       case rel => exact ⟨j + 1 + 1, by omega, by go_num, And.intro (fun q hq h => by
        by_cases e : q < j + 1
        ·
         exact hrel.out.1 q hq e
        ·
         obtain rfl : q = j + 1 := by omega
         exact ⟨by rw [HO.out]; rfl, fun _ => HB.out⟩) (Drew.more hrel.out.2 1)⟩
       case measure => simp [intOf]; omega
  ·
   obtain rfl : k = n := by omega
   have HX := Lib.hid (show isR l = decide ((k : Int) ≤ 6) by
    have e := HN0.out
    by_cases h6 : (k : Int) ≤ 6
    ·
     rw [decide_eq_true h6, isR_iff]
     exact ⟨by rw [← e]; exact hrel.out.1, by omega⟩
    ·
     rw [decide_eq_false h6]
     cases hr : isR l with
     | false => rfl
     | true => have := (isR_iff.1 hr).2; omega)
   go_wp2
   go_ret
   exact ⟨by rw [HX.out]; rfl, HBL.out.trans ((hrel.out.2.below _).mono HBL.out.size)⟩
end Go.Proofs.Ytojcdmgcbgpdmaa.L5

namespace Go.Proofs.Ytojcdmgcbgpdmaa.L5
open Go.ChangeShapes Go.WideShapes Go.ChangeAt Go.RowKit Mem Sl Ex L2 Sv

theorem infoField : (Try.prog.info? 128).map (fun i => (i.zero, i.size, i.bytes)) = some (some (.agg #[.string ⟨#[]⟩, .int .i64 0]), 2, 24) := by kernel_rfl
theorem below_rows {B : Nat} {w w' : World} {e : TypeId} {k : Nat} {a : Option Addr} {c n : Nat} {xs : List Value} (ho : OwnV w B e k a c n xs) (hg : w.grownBy w' (Value.slice a n c).ownBlock) (hB : B ≤ w.heap.size) : Below B w w' :=
 (Below.refl _ _).grown hg hB (fun k hk => (World.ownsRow.lt ho k hk).1)
theorem Row.madeAt (w : World) (t : TypeId) (cs : Array Value) (g : Nat) (hg : g = w.heap.size) : Row (w.alloc (.cells cs t)) g t cs := by
 subst hg
 exact Row.made w t cs
set_option maxHeartbeats 1000000 in
theorem l5Copy_any (a : Option Addr) (c : Nat) (l : List F) (hl : l.length ≤ 1099511627776) (w : World) (hr : Reads w w.heap.size a (cellsF l)) :
  Calls Try.prog 89 #[.agg #[.slice a l.length c]] w fun e w' => ∃ a' c', e = .returned (.agg #[.slice a' l.length c']) ∧ OwnV w' w.heap.size 128 2 a' c' l.length (cellsF l) ∧ Below w.heap.size w w' := by
 obtain ⟨i0, hi, hz0, hz1, hz2⟩ : ∃ i, Try.prog.info? 128 = some i ∧ i.zero = some (.agg #[.string ⟨#[]⟩, .int .i64 0]) ∧ i.size = 2 ∧ i.bytes = 24 := by
  have h := infoField
  rw [Option.map_eq_some_iff] at h
  obtain ⟨i, h1, h2⟩ := h
  simp only [Prod.mk.injEq] at h2
  exact ⟨i, h1, h2⟩
 obtain ⟨n, hn⟩ : ∃ n, n = l.length := ⟨_, rfl⟩
 rw [← hn] at hl ⊢
 have W0 := Lib.hid (fun (b1 b2 b3 : Obj) => below_alloc (below_alloc (below_alloc (Below.refl w.heap.size w) b1 (Nat.le_refl _)) b2 (Nat.le_refl _)) b3 (Nat.le_refl _))
 have HR := Lib.hid (fun w' (h : Below w.heap.size w w') => hr.below h)
 have HC := Lib.hid (show (cellsF l).length = n * 2 by rw [cellsF_length, hn])
 have HI := Lib.hid (And.intro hi (And.intro hz0 (And.intro hz1 hz2)))
 clear hn hr
 go_enter Try.func89, Try.ntmps89
 go_wp2_with (at_builtin; refine wpList_append_rows _ rfl _ _ 29 rfl (w.heap.size + 1 + 1) 128 i0 (.agg #[.string ⟨#[]⟩, .int .i64 0]) 2 24 Try.underlying29 HI.out.1 HI.out.2.1 HI.out.2.2.1 HI.out.2.2.2 rfl (by omega) _ 0 0 _ [] rfl rfl (OwnV.emptyAt _ _ _ _ (by simp) (by simp)) w.heap.size _ n n _ (cellsF l) rfl rfl (HR.out _ (W0.out _ _ _)) HC.out (cellsF_one l) (by unfold maxLen; omega) (by omega) (by simp) ?_; intro a9 c9 w9 ho9 hg9; have q9 := below_rows (OwnV.emptyAt (B := w.heap.size + 1 + 1) _ 128 2 _ (by simp) (by simp)) hg9 (by simp); have r9 := Row.below ((Row.madeAt (w.alloc (.cells #[.slice a n c] 31)) 31 #[.slice none 0 0] (w.heap.size + 1) (by simp)).more (.cells #[] 128)) q9 (by omega); have r0 := r9.cell 0; have r1 := r9.free 0; simp at r0)
 refine bodyPost_ret (v := .agg #[.slice a9 n c9]) (by simp [results, Try.results89, go_sem, r0]) rfl ?_
 have q0 := (W0.out (.cells #[.slice a n c] 31) (.cells #[.slice none 0 0] 31) (.cells #[] 128)).trans (q9.mono (by omega))
 refine ⟨a9, c9, rfl, (OwnV.far (by simpa using ho9) (w.heap.size + 1) 0 _ (by omega)).base (by omega), q0.setCell (p := ⟨w.heap.size + 1, 0, none⟩) (by show w.heap.size ≤ w.heap.size + 1; omega) _⟩
end Go.Proofs.Ytojcdmgcbgpdmaa.L5

namespace Go.Proofs.Ytojcdmgcbgpdmaa.L5
open Go.ChangeShapes Go.WideShapes Go.ChangeAt Go.RowKit Mem Sl Ex L2 Sv

theorem fieldInfo : ∃ i, Try.prog.info? 128 = some i ∧ i.zero = some (.agg #[.string ⟨#[]⟩, .int .i64 0]) ∧ i.size = 2 ∧ i.bytes = 24 := by
 have h := infoField
 rw [Option.map_eq_some_iff] at h
 obtain ⟨i, h1, h2⟩ := h
 simp only [Prod.mk.injEq] at h2
 exact ⟨i, h1, h2⟩
def GaveRB (w : World) (q : List F) (b : Bool) (e : Ending) (w' : World) : Prop :=
 ∃ a' c', e = .returned (.tuple #[.agg #[.slice a' q.length c'], .bool b]) ∧ OwnV w' w.heap.size 128 2 a' c' q.length (cellsF q) ∧ Below w.heap.size w w'
structure Tri5 (w wr : World) (sl : Value) (a1 : Option Addr) (c1 m : Nat) (q : List F) : Prop where
 r : Row wr w.heap.size 31 #[sl]
 z : Row wr (w.heap.size + 1) 31 #[.slice none 0 0]
 o : Row wr (w.heap.size + 1 + 1) 31 #[.slice a1 m c1]
 own : OwnV wr (w.heap.size + 1 + 1 + 1) 128 2 a1 c1 m (cellsF q)
 b : Below w.heap.size w wr
theorem Row.one {w : World} {g : Nat} {t : TypeId} {x : Value} (h : Row w g t #[x]) : w.cell? ⟨g, 0, none⟩ = some x ∧ w.frozen? ⟨g, 0, none⟩ = false := ⟨by rw [h.cell]; rfl, h.free 0⟩
theorem Tri5.size {w wr : World} {sl : Value} {a1 : Option Addr} {c1 m : Nat} {q : List F} (h : Tri5 w wr sl a1 c1 m q) : w.heap.size + 1 + 1 + 1 ≤ wr.heap.size := by
 have := Row.inside h.o
 omega
theorem Tri5.next {w wr w' : World} {sl : Value} {a1 : Option Addr} {c1 m : Nat} {q : List F} (h : Tri5 w wr sl a1 c1 m q) (hb : Below wr.heap.size wr w') : Tri5 w w' sl a1 c1 m q :=
 ⟨h.r.below hb h.r.inside, h.z.below hb h.z.inside, h.o.below hb h.o.inside, h.own.below hb, h.b.trans (hb.mono h.b.size)⟩
theorem Tri5.start (w : World) (sl : Value) : Tri5 w (((w.alloc (.cells #[sl] 31)).alloc (.cells #[.slice none 0 0] 31)).alloc (.cells #[.slice none 0 0] 31)) sl none 0 0 [] :=
 ⟨((Row.made w _ _).more _).more _, (Row.madeAt _ _ _ _ (by simp)).more _, Row.madeAt _ _ _ _ (by simp), OwnV.nil _ _ _ _, below_alloc (below_alloc (below_alloc (Below.refl _ _) _ (Nat.le_refl _)) _ (Nat.le_refl _)) _ (Nat.le_refl _)⟩
theorem reads_two (w : World) (t : ByteArray) (m : Int) (g : Nat) (hg : g = w.heap.size) (e : TypeId) : Reads (w.alloc (.cells #[.string t, .int .i64 m] e)) (w.heap.size + 1) (some ⟨g, 0, none⟩) (cellsF [⟨t, m⟩]) := by
 have hr := Row.madeAt w e #[.string t, .int .i64 m] g hg
 intro j hj
 refine ⟨_, rfl, by show g < _; omega, ?_⟩
 rw [Addr.add_lit, hr.cell]
 have hj2 : j < 2 := by simpa using hj
 rcases (show j = 0 ∨ j = 1 by omega) with rfl | rfl <;> rfl

end Go.Proofs.Ytojcdmgcbgpdmaa.L5

namespace Go.Proofs.Ytojcdmgcbgpdmaa.L3

def hstep (d v : Int) : Int := (d * 1000003 + v % 2147483647 + 13) % 2147483647
def hfold (d : Int) (l : List Int) : Int := l.foldl hstep d
def hs (l : List Int) : Int := hfold 11 l
def kh (k : Int) (l : List Int) : Int := hs (k :: (l ++ [k]))
def encB (k : Int) (i : Nat) (b : Int) : Int := (b + kh k [(i : Int)] % 256) % 256
def decB (k : Int) (i : Nat) (b : Int) : Int := (b - kh k [(i : Int)] % 256) % 256
def encL (k : Int) (l : List Int) : List Int := l.mapIdx (encB k)
def decL (k : Int) (l : List Int) : List Int := l.mapIdx (decB k)
@[simp] theorem encL_length (k : Int) (l : List Int) : (encL k l).length = l.length := by simp [encL]
@[simp] theorem decL_length (k : Int) (l : List Int) : (decL k l).length = l.length := by simp [decL]
end Go.Proofs.Ytojcdmgcbgpdmaa.L3

namespace Go.Proofs.Ytojcdmgcbgpdmaa.L3
open Go.ChangeShapes Go.WideShapes Go.ChangeAt Go.RowKit Mem Sl Ex L2

theorem own_lit (w : World) (e : TypeId) (k : IntKind) (l : List Int) {B : Nat} (hB : B ≤ w.heap.size) (hl : l.length ≤ maxLen) : Own (w.alloc (.cells (ints k l).toArray e)) B e k (some ⟨w.heap.size, 0, none⟩) l.length l :=
 ⟨by simp, .inr ⟨w.heap.size, l.length, (ints k l).toArray, rfl, hB, heap_alloc_new w _, Nat.le_refl _, hl, by simp, by rw [Nat.mul_one]; exact List.take_of_length_le (by simp)⟩⟩
end Go.Proofs.Ytojcdmgcbgpdmaa.L3

namespace Go.Proofs.Ytojcdmgcbgpdmaa.L3
open Go.ChangeShapes Go.WideShapes Go.ChangeAt Go.RowKit Mem Sl Ex L2



def strB (s : ByteArray) : List Int := s.data.toList.map fun b => (b.toNat : Int)
theorem strB_length (s : ByteArray) : (strB s).length = s.size := by unfold strB; rw [List.length_map, Array.length_toList]; rfl
theorem strB_reads (w : World) (e : TypeId) (s : ByteArray) : Reads (Lib.bytesWorld w e s) (Lib.bytesWorld w e s).heap.size (some ⟨w.heap.size, 0, none⟩) (ints .u8 (strB s)) := fun j hj => by
 have hj' : j < s.size := by rw [ints_length, strB_length] at hj; exact hj
 refine ⟨_, rfl, by rw [Lib.bytesWorld_size]; simp, ?_⟩
 have h1 := Lib.bytesWorld_cell w e s j hj'
 have hj2 : j < s.data.toList.length := by rw [Array.length_toList]; exact hj'
 rw [Addr.add_lit, Nat.zero_add, h1, ints_get _ _ _ (by rw [strB_length]; exact hj')]
 unfold strB
 rw [List.getElem_map, List.getD_eq_getElem?_getD, List.getElem?_eq_getElem hj2]
 rfl
theorem strB_below (w : World) (e : TypeId) (s : ByteArray) : Below w.heap.size w (Lib.bytesWorld w e s) :=
 ⟨rfl, by unfold Lib.bytesWorld World.freeze; rfl, rfl, by rw [Lib.bytesWorld_size]; omega, fun j hj => Lib.bytesWorld_at_old w e s j hj⟩

end Go.Proofs.Ytojcdmgcbgpdmaa.L3

set_option linter.unusedSimpArgs false
namespace Go.Proofs.Ytojcdmgcbgpdmaa.L5
open L4 (boxR push_box box_at)
open Go.ChangeShapes Go.WideShapes Go.ChangeAt Go.RowKit Mem Sl Ex L2 Sv

def encF (f : F) : List Int := (enc (L3.strB f.name).length ++ L3.strB f.name) ++ enc f.n
def encB (l : List F) : List Int := l.flatMap encF
def encR (l : List F) : List Int := if isR l then enc l.length ++ encB l else []
theorem encB_take (l : List F) (k : Nat) (h : k < l.length) : encB (l.take (k + 1)) = encB (l.take k) ++ encF l[k] := by
 unfold encB
 rw [List.take_succ_eq_append_getElem h, List.flatMap_append]
 simp
theorem encF_len (f : F) (h : isN f.t = true) : (encF f).length ≤ 20 := by
 unfold isN at h
 simp only [Bool.and_eq_true, decide_eq_true_eq] at h
 have h1 : (L3.strB f.name).length ≤ 8 := by unfold L3.strB; rw [List.length_map]; exact h.2.2
 have h2 := enc_len (L3.strB f.name).length
 have h3 := enc_len f.n
 unfold encF
 simp only [List.length_append]
 omega
theorem encB_len : ∀ (l : List F), (∀ f ∈ l, isN f.t = true) → (encB l).length ≤ 20 * l.length
 | [], _ => by simp [encB]
 | f :: l, h => by
  have h1 := encF_len f (h f (List.mem_cons_self ..))
  have h2 := encB_len l (fun g hg => h g (List.mem_cons_of_mem _ hg))
  unfold encB at h2 ⊢
  rw [List.flatMap_cons, List.length_append, List.length_cons]
  omega
theorem isR_names {l : List F} (h : isR l = true) : ∀ f ∈ l, isN f.t = true := fun f hf => by
 obtain ⟨i, hi, rfl⟩ := List.getElem_of_mem hf
 have := ((isR_iff.1 h).1 i hi hi).1
 unfold okF at this
 exact (Bool.and_eq_true _ _ ▸ this).1
theorem specBytes_any (B : Nat) (a a2 : Option Addr) (c c2 : Nat) (l m : List Int) (w : World) (h : Own w B 5 .u8 a c l) (hr2 : Reads w w.heap.size a2 (ints .u8 m)) (hl : l.length ≤ 1000000000) (hm : m.length ≤ 1000000000) (hB : B ≤ w.heap.size) :
  Calls Try.prog 111 #[.slice a l.length c, .slice a2 m.length c2] w (Gave w B 5 .u8 (l ++ enc m.length ++ m)) :=
 (specAppendBytes_any a a2 c c2 l m w h.reads hr2 h.cap hl hm).mono fun _ _ ⟨a1, c1, he, ho, hb⟩ => ⟨a1, c1, he, ho.base hB, hb.mono hB⟩
set_option maxHeartbeats 4000000 in
theorem specEncodeRecord_any (a : Option Addr) (c : Nat) (l : List F) (hl : l.length ≤ 1099511627776) (hsm : Small l) (w : World) (hr : Reads w w.heap.size a (cellsF l)) :
  Calls Try.prog 32 #[.agg #[.slice a l.length c]] w (Gave w w.heap.size 5 .u8 (encR l)) := by
 obtain ⟨w2, hw2⟩ : ∃ w2, w2 = w.alloc (.cells #[.slice a l.length c] 31) := ⟨_, rfl⟩
 have ba : Row w2 w.heap.size 31 #[.slice a l.length c] := by rw [hw2]; exact Row.made w _ _
 have hbl : Below w.heap.size w w2 := by rw [hw2]; exact below_alloc (Below.refl _ _) _ (Nat.le_refl _)
 have HR := Lib.hid (fun w' (h : Below w.heap.size w w') => hr.below h)
 have HS := Lib.hid (fun w' (h : Below w.heap.size w w') => specIsRecord_any a c l hl hsm w' ((hr.below h).more h.size))
 obtain ⟨n, hn⟩ : ∃ n, n = l.length := ⟨_, rfl⟩
 rw [← hn] at hl HS hw2 ba ⊢
 have HN := Lib.hid hn
 clear hn hr hsm
 have hl' : (n : Int) ≤ 1099511627776 := by omega
 obtain ⟨br, hbr⟩ : ∃ b, isR l = b := ⟨_, rfl⟩
 rw [hbr] at HS
 go_enter Try.func32, Try.ntmps32
 go_upto_region 1 with fail
 rw [← hw2]
 have HZ := Lib.hid (show w.heap.size + 1 ≤ w2.heap.size by rw [hw2]; simp)
 clear hw2
 have b0 := (Row.one ba).1
 go_wp2_with fail
 go_at_call 86
 refine (HS.out _ hbl).mono ?_
 rintro e w3 ⟨rfl, h3⟩
 have BA := Lib.hid (And.intro (Row.below ba h3 ba.inside) (hbl.trans (h3.mono hbl.size)))
 have hsz : w.heap.size + 1 ≤ w3.heap.size := Nat.le_trans HZ.out h3.size
 clear ba hbl h3 HS b0 HZ
 have b0 := (Row.one BA.out.1).1
 cases br with
 | false =>
  have HE := Lib.hid (show encR l = [] by unfold encR; rw [hbr]; rfl)
  go_wp2_with fail
  go_ret
  rw [HE.out]
  exact Gave.mk rfl (Own.empty w3 5 .u8 BA.out.2.size) (below_alloc BA.out.2 _ (Nat.le_refl _))
 | true =>
  have HE := Lib.hid (show encR l = enc n ++ encB l by unfold encR; rw [hbr, HN.out]; rfl)
  have HI := Lib.hid (isR_iff.1 hbr).2
  have HNM := Lib.hid (isR_names hbr)
  have HLN := Lib.hid (show ∀ k, (enc n ++ encB (l.take k)).length ≤ 126 from fun k => by
   have h1 := enc_len n
   have h2 := encB_len (l.take k) (fun f hf => HNM.out f (List.mem_of_mem_take hf))
   have h3 : (l.take k).length ≤ l.length := by rw [List.length_take]; exact Nat.min_le_right _ _
   have h4 := HI.out
   rw [List.length_append]
   omega)
  have H3 := Lib.hid (And.intro (Own.empty (B := w.heap.size + 1) w3 5 .u8 hsz) (below_alloc (Below.refl (w.heap.size + 1) w3) (.cells #[] 5) hsz))
  obtain ⟨w4, hw4⟩ : ∃ u, u = w3.alloc (.cells #[] 5) := ⟨_, rfl⟩
  rw [← hw4] at H3
  obtain ⟨g4, hg4⟩ : ∃ g, g = w3.heap.size := ⟨_, rfl⟩
  rw [← hg4] at H3
  have HC4 := Lib.hid (specStep_any (w.heap.size + 1) _ 0 [] n w4 H3.out.1 (by simp) (Nat.le_trans hsz H3.out.2.size))
  have c0 : w4.cell? ⟨w.heap.size, 0, none⟩ = some (.slice a n c) := (Row.one (Row.below BA.out.1 H3.out.2 (Nat.lt_succ_self _))).1
  have c1 : (w3.alloc (.cells #[] 5)).cell? ⟨w.heap.size, 0, none⟩ = some (.slice a n c) := by rw [← hw4]; exact c0
  go_wp2_with fail
  go_at_call 110
  rw [← hw4, ← hg4]
  refine HC4.out.mono ?_
  rintro e w5 ⟨a5, c5, rfl, ho5, hb5⟩
  have H5 := Lib.hid (And.intro ho5 (H3.out.2.trans hb5))
  clear ho5 hb5 HC4 H3 hw4 hg4 c0 c1 b0
  have b0 := (Row.one (Row.below BA.out.1 H5.out.2 (Nat.lt_succ_self _))).1
  go_wp2_with fail
  go_loopw [3, 4] (fun s i wr => ∃ (k : Nat) (a1 : Option Addr) (c1 n1 : Nat), k ≤ n ∧ i = .int .i64 k ∧ s = .slice a1 n1 c1 ∧ Hid (Own wr (w.heap.size + 1) 5 .u8 a1 c1 (enc n ++ encB (l.take k)) ∧ Below (w.heap.size + 1) w3 wr ∧ n1 = (enc n ++ encB (l.take k)).length)) (fun _ i _ => n - (intOf i).toNat)
  case atStart => exact ⟨0, _, _, _, Nat.zero_le _, rfl, rfl, And.intro (by simpa [encB] using H5.out.1) (And.intro H5.out.2 (by simp [encB]))⟩
  case round =>
   obtain ⟨k, a1, c1, n1, hk, rfl, rfl, hrel⟩ := hrel
   clear b0
   have b0 := (Row.one (Row.below BA.out.1 hrel.out.2.1 (Nat.lt_succ_self _))).1
   by_cases hlt : (k : Int) < (n : Int)
   ·
    have hkl : k < l.length := by have := HN.out; omega
    have hbw : Below w.heap.size w wr := BA.out.2.trans (hrel.out.2.1.mono (Nat.le_succ _))
    obtain ⟨ad, rfl, had, h1, h2⟩ := readsF (HR.out _ hbw) k hkl
    obtain ⟨t, ht⟩ : ∃ t, t = l[k].name := ⟨_, rfl⟩
    obtain ⟨x, hx⟩ : ∃ m, m = l[k].n := ⟨_, rfl⟩
    have HK := Lib.hid (show encB (l.take (k + 1)) = encB (l.take k) ++ ((enc (L3.strB t).length ++ L3.strB t) ++ enc x) by rw [encB_take l k hkl, ht, hx]; rfl)
    have HTL := Lib.hid (show (L3.strB t).length ≤ 8 by
     have h := HNM.out _ (List.getElem_mem hkl)
     unfold isN at h
     simp only [Bool.and_eq_true, decide_eq_true_eq] at h
     rw [ht]; unfold L3.strB; rw [List.length_map]; exact h.2.2)
    rw [← ht] at h1
    rw [← hx] at h2
    have HTX := Lib.hid (And.intro ht hx)
    clear ht hx
    have hsr : w.heap.size + 1 ≤ wr.heap.size := Nat.le_trans hsz hrel.out.2.1.size
    obtain ⟨wd, hwd⟩ : ∃ u, u = wr.drew := ⟨_, rfl⟩
    have HD := Lib.hid (show Below (w.heap.size + 1) wr wd ∧ w.heap.size + 1 ≤ wd.heap.size ∧ Own wd (w.heap.size + 1) 5 .u8 a1 c1 (enc n ++ encB (l.take k)) from by
     rw [hwd]
     exact ⟨(Below.refl _ _).drew, hsr, hrel.out.1.below (Below.refl _ _).drew⟩)
    have HC := Lib.hid (show ∀ w', Below (w.heap.size + 1) wd w' → w'.cell? ⟨w.heap.size, 0, none⟩ = some (.slice (some ad) n c) ∧ w'.cell? (ad.add (k * 2)) = some (.string t) ∧ w'.cell? ⟨(ad.add (k * 2)).block, (ad.add (k * 2)).off + 1, none⟩ = some (.int .i64 x) from fun w' h => by
     have hb := HD.out.1.trans h
     have h0 := readsF (HR.out _ (BA.out.2.trans ((hrel.out.2.1.trans hb).mono (Nat.le_succ _)))) k hkl
     obtain ⟨ad', e', _, g1, g2⟩ := h0
     injection e' with e'
     subst e'
     rw [← HTX.out.1] at g1
     rw [← HTX.out.2] at g2
     exact ⟨(Row.one (Row.below BA.out.1 (hrel.out.2.1.trans hb) (Nat.lt_succ_self _))).1, g1, g2⟩)
    have HT := Lib.hid (Lib.run_convert_string_bytes (P := Try.prog) wd 9 22 5 t Try.underlying9 Try.underlying22 Try.underlying5)
    have HT1 := Lib.hid (And.intro (L3.strB_reads wd 5 t) (L3.strB_below wd 5 t))
    obtain ⟨wb, hwb⟩ : ∃ x, x = Lib.bytesWorld wd 5 t := ⟨_, rfl⟩
    obtain ⟨cp, hcp⟩ : ∃ x, x = grownCap wd t.size 0 5 := ⟨_, rfl⟩
    obtain ⟨p, hp⟩ : ∃ p, p = t.size := ⟨_, rfl⟩
    rw [← hwb, ← hcp, ← hp] at HT
    rw [← hwb] at HT1
    obtain ⟨g, hg⟩ : ∃ g, g = wd.heap.size := ⟨_, rfl⟩
    rw [← hg] at HT HT1
    have HB7 := Lib.hid (HT1.out.2.mono (by rw [hg]; exact HD.out.2.1))
    have HP := Lib.hid (show p = (L3.strB t).length by rw [hp, L3.strB_length])
    have HN1 := Lib.hid hrel.out.2.2
    obtain ⟨X, hX⟩ : ∃ X, X = enc n ++ encB (l.take k) ++ enc (L3.strB t).length ++ L3.strB t := ⟨_, rfl⟩
    obtain ⟨Y, hY⟩ : ∃ Y, Y = X ++ enc x := ⟨_, rfl⟩
    have HY := Lib.hid (show enc n ++ encB (l.take (k + 1)) = Y by rw [HK.out, hY, hX]; simp only [List.append_assoc])
    have HXL := Lib.hid (show X.length ≤ 1000 by
     have h3 := HLN.out k
     have h4 := HTL.out
     have h5 := enc_len (L3.strB t).length
     rw [List.length_append] at h3
     rw [hX, List.length_append, List.length_append, List.length_append]
     omega)
    have H15 := Lib.hid (show ∀ w' a8 c8, Own w' (w.heap.size + 1) 5 .u8 a8 c8 X → Below (w.heap.size + 1) wb w' → Calls Try.prog 110 #[.slice a8 X.length c8, .int .i64 x] w' (Gave w' (w.heap.size + 1) 5 .u8 Y) from fun w' a8 c8 ho hb => by
     rw [hY]
     exact specStep_any (w.heap.size + 1) a8 c8 X x w' ho (by have := HXL.out; omega) (Nat.le_trans HD.out.2.1 (Nat.le_trans HB7.out.size hb.size)))
    have H8 := Lib.hid (show ∀ w', Reads w' w'.heap.size (some ⟨g, 0, none⟩) (ints .u8 (L3.strB t)) → w' = wb → ∀ c2, Calls Try.prog 111 #[.slice a1 n1 c1, .slice (some ⟨g, 0, none⟩) p c2] w' (Gave w' (w.heap.size + 1) 5 .u8 X) from fun w' hr he c2 => by
     subst he
     rw [hX]
     rw [HN1.out, HP.out]
     have h3 := HLN.out k
     have h4 := HTL.out
     exact specBytes_any (w.heap.size + 1) a1 _ c1 c2 _ _ w' (HD.out.2.2.below (HT1.out.2.mono (Nat.le_of_eq hg.symm))) hr (by omega) (by omega) (Nat.le_trans HD.out.2.1 (by rw [← hg]; exact hg ▸ HT1.out.2.size)))
    have hcv := HT.out
    clear hwb hcp hp hg hX hY
    have HWD := Lib.hid hwd
    clear hwd h1 h2 had
    go_upto_region 7 with fail
    refine wp_region_held_drew (S := (fun w' => w'.cell? ⟨w.heap.size, 0, none⟩ = some (.slice (some ad) n c) ∧ w'.cell? (ad.add (k * 2)) = some (.string t) ∧ w'.cell? ⟨(ad.add (k * 2)).block, (ad.add (k * 2)).off + 1, none⟩ = some (.int .i64 x))) (by kernel_rfl) (by rw [← HWD.out]; exact HC.out _ (Below.refl _ _)) (fun hS => ?_)
    rw [← HWD.out] at hS ⊢
    refine tk 0 rfl ?_
    try simp only [zp0, zp1, zp2, zp3, zp4]
    refine tk 1 rfl ?_
    try simp only [zp0, zp1, zp2, zp3, zp4]
    refine tk 2 rfl ?_
    try simp only [zp0, zp1, zp2, zp3, zp4]
    refine tk 3 rfl ?_
    try simp only [zp0, zp1, zp2, zp3, zp4]
    refine tk 4 rfl ?_
    try simp only [zp0, zp1, zp2, zp3, zp4]
    refine tk 5 rfl ?_
    try simp only [zp0, zp1, zp2, zp3, zp4]
    refine tk 6 rfl ?_
    try simp only [zp0, zp1, zp2, zp3, zp4]
    refine tk 9 rfl ?_
    try simp only [zp0, zp1, zp2, zp3, zp4]
    refine tk 10 rfl ?_
    try simp only [zp0, zp1, zp2, zp3, zp4]
    refine tk 11 rfl ?_
    try simp only [zp0, zp1, zp2, zp3, zp4]
    refine tk 12 rfl ?_
    try simp only [zp0, zp1, zp2, zp3, zp4]
    refine tk 13 rfl ?_
    try simp only [zp0, zp1, zp2, zp3, zp4]
    refine tk 14 rfl ?_
    try simp only [zp0, zp1, zp2, zp3, zp4]
    refine Reg.one_op (i := 7) rfl (by kernel_rfl) (fun K hK => ?_)
    go_simp
    refine hK.out _ _ (HC.out _ HB7.out) (fun hS => ?_)
    clear hK K
    try simp only [zp0, zp1, zp2, zp3, zp4]
    refine Reg.one_op (i := 8) rfl (by kernel_rfl) (fun K hK => ?_)
    go_simp
    go_at_call 111
    refine (H8.out _ HT1.out.1 rfl _).mono ?_
    rintro e w8 ⟨a8, c8, rfl, ho8, hb8⟩
    have HO8 := Lib.hid (And.intro ho8 hb8)
    clear ho8 hb8
    go_wp2_with fail
    refine hK.out _ _ (HC.out _ (HB7.out.trans HO8.out.2)) (fun hS => ?_)
    clear hK K
    try simp only [zp0, zp1, zp2, zp3, zp4]
    refine Reg.one_op (i := 15) rfl (by kernel_rfl) (fun K hK => ?_)
    go_simp
    go_at_call 110
    refine (H15.out _ _ _ HO8.out.1 HO8.out.2).mono ?_
    rintro e w9 ⟨a9, c9, rfl, ho9, hb9⟩
    have HO9 := Lib.hid (And.intro ho9 hb9)
    clear ho9 hb9
    go_wp2_with fail
    refine hK.out _ _ (HC.out _ ((HB7.out.trans HO8.out.2).trans HO9.out.2)) (fun hS => ?_)
    clear hK K
    try simp only [zp0, zp1, zp2, zp3, zp4]
    refine tk 16 rfl ?_
    try simp only [zp0, zp1, zp2, zp3, zp4]
    refine wpAnyH_done (by kernel_rfl) ?_ _
    go_wp2_with fail
    go_roundw
    case rel => exact ⟨k + 1, _, _, _, by omega, by go_num, rfl, And.intro (by rw [HY.out]; exact HO9.out.1) (And.intro (((hrel.out.2.1.trans HD.out.1).trans HB7.out).trans (HO8.out.2.trans HO9.out.2)) (by rw [HY.out]))⟩
    case measure => simp [intOf]; omega
   ·
    go_wp2_with fail
    go_ret
    obtain rfl : k = n := by omega
    have e1 : l.take k = l := by rw [HN.out, List.take_length]
    obtain ⟨ho, hb, h3⟩ := hrel.out
    rw [e1] at ho h3
    rw [HE.out]
    exact Gave.mk h3 (ho.base (Nat.le_succ _)) (BA.out.2.trans (hb.mono (Nat.le_succ _)))
end Go.Proofs.Ytojcdmgcbgpdmaa.L5

namespace Go.Proofs.Ytojcdmgcbgpdmaa.L5
open L4 (boxR push_box box_at)
open Go.ChangeShapes Go.WideShapes Go.ChangeAt Go.RowKit Mem Sl Ex L2 Sv

def eqF (f g : F) : Bool := f.t == g.t && f.n == g.n
def eqR (l m : List F) : Bool := l.length == m.length && (l.zip m).all fun p => eqF p.1 p.2
theorem eqF_iff {f g : F} : eqF f g = true ↔ f = g := by
 unfold eqF
 simp only [Bool.and_eq_true, beq_iff_eq]
 exact ⟨fun h => F.ext' h.1 h.2, fun h => by rw [h]; exact ⟨rfl, rfl⟩⟩
theorem eqR_len {l m : List F} (h : ¬ l.length = m.length) : eqR l m = false := by
 unfold eqR
 simp [h]
theorem eqR_all {l m : List F} (h : l.length = m.length) (ha : ∀ j (h1 : j < l.length) (h2 : j < m.length), eqF l[j] m[j] = true) : eqR l m = true := by
 unfold eqR
 simp only [h, beq_self_eq_true, Bool.true_and, List.all_eq_true]
 intro p hp
 obtain ⟨i, hi, rfl⟩ := List.getElem_of_mem hp
 have hi' := hi
 rw [List.length_zip] at hi'
 rw [List.getElem_zip]
 exact ha i (by omega) (by omega)
theorem eqR_no {l m : List F} (j : Nat) (h1 : j < l.length) (h2 : j < m.length) (h : eqF l[j] m[j] = false) : eqR l m = false := by
 unfold eqR
 rw [Bool.and_eq_false_iff]
 right
 rw [List.all_eq_false]
 exact ⟨(l[j], m[j]), List.mem_iff_getElem.2 ⟨j, by simp; omega, by rw [List.getElem_zip]⟩, by simp [h]⟩
theorem eqR_iff {l m : List F} : eqR l m = true ↔ l = m := by
 constructor
 ·
  intro h
  unfold eqR at h
  simp only [Bool.and_eq_true, beq_iff_eq, List.all_eq_true] at h
  refine List.ext_getElem h.1 fun i h1 h2 => ?_
  exact eqF_iff.1 (h.2 (l[i], m[i]) (List.mem_iff_getElem.2 ⟨i, by simp; omega, by rw [List.getElem_zip]⟩))
 ·
  rintro rfl
  exact eqR_all rfl fun j h1 h2 => eqF_iff.2 rfl
end Go.Proofs.Ytojcdmgcbgpdmaa.L5

namespace Go.Proofs.Ytojcdmgcbgpdmaa.L4
open Go.Op (bytesLess)
open Go.ChangeShapes Go.WideShapes Go.ChangeAt Go.RowKit Mem Sl Ex L2

def toI (u : List UInt8) : List Int := u.map fun b => (b.toNat : Int)
@[simp] theorem toI_length (u : List UInt8) : (toI u).length = u.length := by simp [toI]
theorem toI_append (u v : List UInt8) : toI (u ++ v) = toI u ++ toI v := by simp [toI]
theorem toI_toU (l : List Int) (h : Byt l) : toI (toU l) = l := by
 unfold toI toU
 rw [List.map_map]
 have : ∀ x ∈ l, ((fun b : UInt8 => (b.toNat : Int)) ∘ fun n : Int => UInt8.ofNat n.toNat) x = x := fun x hx => by
  have := h x hx
  simp only [Function.comp, UInt8.toNat_ofNat']
  omega
 rw [List.map_congr_left this, List.map_id']
theorem toU_toI (u : List UInt8) : toU (toI u) = u := by
 unfold toI toU
 rw [List.map_map]
 have : ∀ x ∈ u, ((fun n : Int => UInt8.ofNat n.toNat) ∘ fun b : UInt8 => (b.toNat : Int)) x = x := fun x _ => by simp
 rw [List.map_congr_left this, List.map_id']
theorem and_255 (m : Nat) (h : m < 4611686018427387904) : bits .and .i64 (m : Int) 255 = ((m % 256 : Nat) : Int) := by
 have h1 : (BitVec.ofInt 64 (m : Int) &&& BitVec.ofInt 64 (255 : Int)).toNat = m % 256 := by
  rw [show (255 : Int) = ((255 : Nat) : Int) from rfl, BitVec.ofInt_natCast, BitVec.ofInt_natCast, BitVec.toNat_and, BitVec.toNat_ofNat, BitVec.toNat_ofNat, Nat.mod_eq_of_lt (show m < 2 ^ 64 by omega), show 255 % 2 ^ 64 = 2 ^ 8 - 1 by decide, Nat.and_two_pow_sub_one_eq_mod]
 show IntKind.i64.wrap ((BitVec.ofInt 64 (m : Int) &&& BitVec.ofInt 64 (255 : Int)).toNat : Nat) = _
 rw [h1, IntKind.wrap_i64]
 omega
theorem byte_step (m d : Nat) (h : (m : Int) ≤ 2000000000000) : bits .and .i64 ((m : Int) / (d : Int)) 255 % 256 = ((m / d % 256 : Nat) : Int) := by
 have h1 := Nat.div_le_self m d
 rw [show (m : Int) / (d : Int) = ((m / d : Nat) : Int) from rfl, and_255 _ (by omega)]
 omega
theorem be_get (k m i : Nat) (h : i < k) : (be k m)[i]'(by simpa using h) = UInt8.ofNat (m / 256 ^ (k - 1 - i) % 256) := by
 induction k generalizing i with
 | zero => omega
 | succ k ih =>
  cases i with
  | zero => simp [be]
  | succ i =>
   have := ih i (by omega)
   simp only [be, List.getElem_cons_succ, this]
   congr 4
   omega
theorem six_step (m j : Nat) (h : 1 ≤ j) (h6 : j ≤ 6) : toI ((be 6 m).take (6 - (j - 1))) = toI ((be 6 m).take (6 - j)) ++ [((m / 256 ^ (j - 1) % 256 : Nat) : Int)] := by
 rw [show 6 - (j - 1) = (6 - j) + 1 by omega, List.take_succ_eq_append_getElem (by simp; omega), toI_append, be_get 6 m (6 - j) (by omega)]
 congr 1
 simp only [toI, List.map_cons, List.map_nil, UInt8.toNat_ofNat']
 rw [show 6 - 1 - (6 - j) = j - 1 by omega]
 congr 2
 omega

set_option maxHeartbeats 2000000 in
theorem specEncodeKey_any (k : K) (hs : k.text.size ≤ 1099511627776) (w : World) :
  Calls Try.prog 31 #[k.v] w (Gave w w.heap.size 5 .u8 (toI (encU k))) := by
 obtain ⟨i0, hi, hz0, hz1, hz2⟩ := infoOf _ _ _ _ info8
 obtain ⟨w2, hw2⟩ : ∃ w2, w2 = w.alloc (.cells k.cells 28) := ⟨_, rfl⟩
 have ba : Box w2 w.heap.size 28 k := by rw [hw2]; exact Box.made w _ k
 have hbl : Below w.heap.size w w2 := by rw [hw2]; exact below_alloc (Below.refl _ _) _ (Nat.le_refl _)
 have H1 := Lib.hid (fun w => specIsKey_any k (by omega) w)
 obtain ⟨ia, hia⟩ : ∃ x, isK k = x := ⟨_, rfl⟩
 rw [hia] at H1
 obtain ⟨kd, n, s⟩ := k
 simp only [K.v, K.cells] at H1 hw2 ⊢
 go_enter Try.func31, Try.ntmps31
 go_wp2_with fail
 go_at_call 85
 rw [← hw2]
 refine (H1.out w2).mono ?_
 rintro e w3 ⟨rfl, h3⟩
 have BA := Lib.hid (And.intro (ba.below h3) (hbl.trans (h3.mono hbl.size)))
 have hsz : w.heap.size + 1 ≤ w3.heap.size := by have := h3.size; rw [hw2] at this; simpa using this
 clear hw2 ba hbl h3 H1
 cases ia with
 | false =>
  have HE := Lib.hid (show toI (encU ⟨kd, n, s⟩) = [] by unfold encU; rw [hia]; rfl)
  go_wp2_with fail
  go_ret
  rw [HE.out]
  exact Gave.mk rfl (Own.empty w3 5 .u8 BA.out.2.size) (below_alloc BA.out.2 _ (Nat.le_refl _))
 | true =>
  have g := isK_iff.1 hia
  have k0 : 1 ≤ kd := g.k0
  have k1 : kd ≤ 3 := g.k1
  have n0 : -1000000000000 ≤ n := g.n0
  have n1 : n ≤ 1000000000000 := g.n1
  obtain ⟨b0, b1, b2⟩ := BA.out.1.facts
  have H3 := Lib.hid (And.intro (L3.own_lit w3 5 .u8 [kd] hsz (by simp [maxLen])) (below_alloc (Below.refl (w.heap.size + 1) w3) (.cells #[.int .u8 kd] 5) hsz))
  have m0 : 0 ≤ n + 1000000000000 := by omega
  obtain ⟨m, hm⟩ : ∃ m : Nat, (m : Int) = n + 1000000000000 := ⟨(n + 1000000000000).toNat, by omega⟩
  have hm2 : (m : Int) ≤ 2000000000000 := by omega
  by_cases hk : kd = 2
  ·
   subst hk
   have HE := Lib.hid (show toI (encU ⟨2, n, s⟩) = [2] ++ L3.strB s by rw [encU_good hia]; rfl)
   obtain ⟨w4, hw4⟩ : ∃ x, x = w3.alloc (.cells #[.int .u8 2] 5) := ⟨_, rfl⟩
   have ho4 : Own w4 (w.heap.size + 1) 5 .u8 (some ⟨w3.heap.size, 0, none⟩) 1 [2] := by rw [hw4]; exact H3.out.1
   have hb4 : Below (w.heap.size + 1) w3 w4 := by rw [hw4]; exact H3.out.2
   have bx4 : Box w4 w.heap.size 28 ⟨2, n, s⟩ := by rw [hw4]; exact BA.out.1.more _
   have hbw := BA.out.2.trans (hb4.mono (Nat.le_succ _))
   have hsz2 : w.heap.size + 1 ≤ w4.heap.size := Nat.le_trans hsz hb4.size
   go_wp2_with fail
   rw [← hw4]
   clear hw4 b0 b1 b2 H3 hb4
   obtain ⟨b0, b1, b2⟩ := bx4.facts
   refine wp_loop_rounds 1 ?_
   rw [rounds_succ]
   have HT := Lib.hid (Lib.run_convert_string_bytes (P := Try.prog) w4 9 22 5 s Try.underlying9 Try.underlying22 Try.underlying5)
   have HT1 := Lib.hid (And.intro (L3.strB_reads w4 5 s) (L3.strB_below w4 5 s))
   obtain ⟨wb, hwb⟩ : ∃ x, x = Lib.bytesWorld w4 5 s := ⟨_, rfl⟩
   obtain ⟨cp, hcp⟩ : ∃ x, x = grownCap w4 s.size 0 5 := ⟨_, rfl⟩
   rw [← hwb, ← hcp] at HT
   rw [← hwb] at HT1
   clear hwb hcp
   have hcv := HT.out
   go_wp2_with (at_builtin; refine wpList_append_src _ rfl _ _ 22 rfl (w.heap.size + 1) 5 i0 (.int .u8 0) 1 Try.underlying22 hi hz0 hz1 hz2 rfl .u8 _ _ _ ([2]) rfl rfl (ho4.below (HT1.out.2)) _ _ _ _ (L3.strB s) rfl (L3.strB_length s).symm HT1.out.1 (by rw [L3.strB_length]; unfold maxLen; simp; omega) (by rw [L3.strB_length]; simp; omega) (Nat.le_trans hsz2 HT1.out.2.size) ?_; intro a9 c9 w9 ho9 hg9)
   go_ret
   have q1 := HT1.out.2
   rw [HE.out]
   refine Gave.mk (by simp [L3.strB_length]; omega) (ho9.base (Nat.le_succ _)) ?_
   have q2 := hbw.trans (q1.mono hbw.size)
   exact q2.trans ((below_own (ho4.below q1) hg9 (Nat.le_trans hsz2 q1.size)).mono (Nat.le_succ _))
  ·
   have HE := Lib.hid (show toI (encU ⟨kd, n, s⟩) = (kd :: toI (be 6 m)) ++ L3.strB s by
    rw [encU_good hia]
    have e1 : num6 ⟨kd, n, s⟩ = be 6 m := by unfold num6; rw [if_neg hk, ← hm]; rfl
    rw [e1]
    simp only [toI, List.map_cons, List.map_append, UInt8.toNat_ofNat', List.cons_append]
    congr 1
    show (((kd.toNat % 2 ^ 8 : Nat)) : Int) = kd
    omega)
   have hk2 : ¬ kd = 2 := hk
   go_wp2_with fail
   clear b0 b1 b2
   go_loopw [3, 4] (fun s i wr => ∃ (j : Nat) (v : Int) (a1 : Option Addr) (c1 : Nat), j ≤ 6 ∧ v = (j : Int) - 1 ∧ i = .int .i64 v ∧ s = .slice a1 (7 - j) c1 ∧ Hid (Own wr (w.heap.size + 1) 5 .u8 a1 c1 (kd :: toI ((be 6 m).take (6 - j))) ∧ Below (w.heap.size + 1) w3 wr)) (fun _ i _ => (intOf i + 1).toNat)
   case atStart => exact ⟨6, 5, _, _, Nat.le_refl _, by omega, rfl, rfl, H3.out⟩
   case round =>
    obtain ⟨j, v, a1, c1, hj, hv, rfl, rfl, hrel⟩ := hrel
    have bx := Box.facts (Row.below BA.out.1 hrel.out.2 (Nat.lt_succ_self _))
    obtain ⟨b0, b1, b2⟩ := bx
    have hm' : n + 1000000000000 = (m : Int) := hm.symm
    clear hm m0
    rcases (show j = 0 ∨ j = 1 ∨ j = 2 ∨ j = 3 ∨ j = 4 ∨ j = 5 ∨ j = 6 by omega) with rfl | rfl | rfl | rfl | rfl | rfl | rfl
    ·
     obtain rfl : v = -1 := by omega
     clear hj hv hm'
     have HL := Lib.hid (show (kd :: toI (be 6 m)).length = 7 by simp)
     have ho4 : Own wr (w.heap.size + 1) 5 .u8 a1 c1 (kd :: toI (be 6 m)) := hrel.out.1
     have hbw := BA.out.2.trans (hrel.out.2.mono (Nat.le_succ _))
     have hsz2 : w.heap.size + 1 ≤ wr.heap.size := Nat.le_trans hsz hrel.out.2.size
     have HT := Lib.hid (Lib.run_convert_string_bytes (P := Try.prog) wr 9 22 5 s Try.underlying9 Try.underlying22 Try.underlying5)
     have HT1 := Lib.hid (And.intro (L3.strB_reads wr 5 s) (L3.strB_below wr 5 s))
     obtain ⟨wb, hwb⟩ : ∃ x, x = Lib.bytesWorld wr 5 s := ⟨_, rfl⟩
     obtain ⟨cp, hcp⟩ : ∃ x, x = grownCap wr s.size 0 5 := ⟨_, rfl⟩
     rw [← hwb, ← hcp] at HT
     rw [← hwb] at HT1
     clear hwb hcp
     have hcv := HT.out
     go_wp2_with (at_builtin; refine wpList_append_src _ rfl _ _ 22 rfl (w.heap.size + 1) 5 i0 (.int .u8 0) 1 Try.underlying22 hi hz0 hz1 hz2 rfl .u8 a1 _ c1 (kd :: toI (be 6 m)) rfl HL.out.symm (ho4.below HT1.out.2) _ _ _ _ (L3.strB s) rfl (L3.strB_length s).symm HT1.out.1 (by rw [L3.strB_length, HL.out]; unfold maxLen; omega) (by rw [L3.strB_length, HL.out]; omega) (Nat.le_trans hsz2 HT1.out.2.size) ?_; intro a9 c9 w9 ho9 hg9)
     go_ret
     have q1 := HT1.out.2
     rw [HE.out]
     refine Gave.mk (by rw [List.length_append, HL.out]) (ho9.base (Nat.le_succ _)) ?_
     have q2 := hbw.trans (q1.mono hbw.size)
     exact q2.trans ((below_own (ho4.below q1) hg9 (Nat.le_trans hsz2 q1.size)).mono (Nat.le_succ _))
    ·
     obtain rfl : v = 0 := by omega
     clear hj hv
     have HX := Lib.hid (show bits .and .i64 (m : Int) 255 % 256 = ((m / 1 % 256 : Nat) : Int) from by have := byte_step m 1 hm2; simpa using this)
     go_wp2_with (at_builtin; refine wpList_append_src _ rfl _ _ 22 rfl (w.heap.size + 1) 5 i0 (.int .u8 0) 1 Try.underlying22 hi hz0 hz1 hz2 rfl .u8 a1 _ c1 (kd :: toI ((be 6 m).take 5)) rfl (by simp) (own_alloc hrel.out.1 _) _ _ 1 1 [_] rfl rfl (reads_one _ _ _ _) (by simp [maxLen]) (by simp) (Nat.le_trans hsz (Nat.le_trans hrel.out.2.size (by simp))) ?_; intro a2 c2 w2 ho2 hg2)
     have q1 := below_alloc hrel.out.2 (.cells #[.int .u8 (bits .and .i64 (m : Int) 255 % 256)] 5) hsz
     have q2 := q1.trans (below_own (own_alloc hrel.out.1 _) hg2 (Nat.le_trans hsz q1.size))
     have HS := Lib.hid (show toI ((be 6 m).take (6 - 0)) = toI ((be 6 m).take (6 - 1)) ++ [((m / 1 % 256 : Nat) : Int)] from six_step m 1 (by omega) (by omega))
     have HH := Lib.hid (And.intro ho2 q2)
     clear ho2 hg2 q1 q2
     go_roundw
     case rel =>
      refine ⟨0, -1, a2, c2, by omega, by omega, by go_num, by simp, And.intro ?_ HH.out.2⟩
      have h1 := HH.out.1
      rw [HX.out] at h1
      have h2 := HS.out
      rw [h2]
      exact h1
     case measure => simp [intOf]
    ·
     obtain rfl : v = 1 := by omega
     clear hj hv
     have HX := Lib.hid (show bits .and .i64 ((m : Int) / 256) 255 % 256 = ((m / 256 % 256 : Nat) : Int) from byte_step m 256 hm2)
     go_wp2_with (at_builtin; refine wpList_append_src _ rfl _ _ 22 rfl (w.heap.size + 1) 5 i0 (.int .u8 0) 1 Try.underlying22 hi hz0 hz1 hz2 rfl .u8 a1 _ c1 (kd :: toI ((be 6 m).take 4)) rfl (by simp) (own_alloc hrel.out.1 _) _ _ 1 1 [_] rfl rfl (reads_one _ _ _ _) (by simp [maxLen]) (by simp) (Nat.le_trans hsz (Nat.le_trans hrel.out.2.size (by simp))) ?_; intro a2 c2 w2 ho2 hg2)
     have q1 := below_alloc hrel.out.2 (.cells #[.int .u8 (bits .and .i64 ((m : Int) / 256) 255 % 256)] 5) hsz
     have q2 := q1.trans (below_own (own_alloc hrel.out.1 _) hg2 (Nat.le_trans hsz q1.size))
     have HS := Lib.hid (show toI ((be 6 m).take (6 - 1)) = toI ((be 6 m).take (6 - 2)) ++ [((m / 256 % 256 : Nat) : Int)] from six_step m 2 (by omega) (by omega))
     have HH := Lib.hid (And.intro ho2 q2)
     clear ho2 hg2 q1 q2
     go_roundw
     case rel =>
      refine ⟨1, 0, a2, c2, by omega, by omega, by go_num, by simp, And.intro ?_ HH.out.2⟩
      have h1 := HH.out.1
      rw [HX.out] at h1
      have h2 := HS.out
      rw [h2]
      exact h1
     case measure => simp [intOf]
    ·
     obtain rfl : v = 2 := by omega
     clear hj hv
     have HX := Lib.hid (show bits .and .i64 ((m : Int) / 65536) 255 % 256 = ((m / 65536 % 256 : Nat) : Int) from byte_step m 65536 hm2)
     go_wp2_with (at_builtin; refine wpList_append_src _ rfl _ _ 22 rfl (w.heap.size + 1) 5 i0 (.int .u8 0) 1 Try.underlying22 hi hz0 hz1 hz2 rfl .u8 a1 _ c1 (kd :: toI ((be 6 m).take 3)) rfl (by simp) (own_alloc hrel.out.1 _) _ _ 1 1 [_] rfl rfl (reads_one _ _ _ _) (by simp [maxLen]) (by simp) (Nat.le_trans hsz (Nat.le_trans hrel.out.2.size (by simp))) ?_; intro a2 c2 w2 ho2 hg2)
     have q1 := below_alloc hrel.out.2 (.cells #[.int .u8 (bits .and .i64 ((m : Int) / 65536) 255 % 256)] 5) hsz
     have q2 := q1.trans (below_own (own_alloc hrel.out.1 _) hg2 (Nat.le_trans hsz q1.size))
     have HS := Lib.hid (show toI ((be 6 m).take (6 - 2)) = toI ((be 6 m).take (6 - 3)) ++ [((m / 65536 % 256 : Nat) : Int)] from six_step m 3 (by omega) (by omega))
     have HH := Lib.hid (And.intro ho2 q2)
     clear ho2 hg2 q1 q2
     go_roundw
     case rel =>
      refine ⟨2, 1, a2, c2, by omega, by omega, by go_num, by simp, And.intro ?_ HH.out.2⟩
      have h1 := HH.out.1
      rw [HX.out] at h1
      have h2 := HS.out
      rw [h2]
      exact h1
     case measure => simp [intOf]
    ·
     obtain rfl : v = 3 := by omega
     clear hj hv
     have HX := Lib.hid (show bits .and .i64 ((m : Int) / 16777216) 255 % 256 = ((m / 16777216 % 256 : Nat) : Int) from byte_step m 16777216 hm2)
     go_wp2_with (at_builtin; refine wpList_append_src _ rfl _ _ 22 rfl (w.heap.size + 1) 5 i0 (.int .u8 0) 1 Try.underlying22 hi hz0 hz1 hz2 rfl .u8 a1 _ c1 (kd :: toI ((be 6 m).take 2)) rfl (by simp) (own_alloc hrel.out.1 _) _ _ 1 1 [_] rfl rfl (reads_one _ _ _ _) (by simp [maxLen]) (by simp) (Nat.le_trans hsz (Nat.le_trans hrel.out.2.size (by simp))) ?_; intro a2 c2 w2 ho2 hg2)
     have q1 := below_alloc hrel.out.2 (.cells #[.int .u8 (bits .and .i64 ((m : Int) / 16777216) 255 % 256)] 5) hsz
     have q2 := q1.trans (below_own (own_alloc hrel.out.1 _) hg2 (Nat.le_trans hsz q1.size))
     have HS := Lib.hid (show toI ((be 6 m).take (6 - 3)) = toI ((be 6 m).take (6 - 4)) ++ [((m / 16777216 % 256 : Nat) : Int)] from six_step m 4 (by omega) (by omega))
     have HH := Lib.hid (And.intro ho2 q2)
     clear ho2 hg2 q1 q2
     go_roundw
     case rel =>
      refine ⟨3, 2, a2, c2, by omega, by omega, by go_num, by simp, And.intro ?_ HH.out.2⟩
      have h1 := HH.out.1
      rw [HX.out] at h1
      have h2 := HS.out
      rw [h2]
      exact h1
     case measure => simp [intOf]
    ·
     obtain rfl : v = 4 := by omega
     clear hj hv
     have HX := Lib.hid (show bits .and .i64 ((m : Int) / 4294967296) 255 % 256 = ((m / 4294967296 % 256 : Nat) : Int) from byte_step m 4294967296 hm2)
     go_wp2_with (at_builtin; refine wpList_append_src _ rfl _ _ 22 rfl (w.heap.size + 1) 5 i0 (.int .u8 0) 1 Try.underlying22 hi hz0 hz1 hz2 rfl .u8 a1 _ c1 (kd :: toI ((be 6 m).take 1)) rfl (by simp) (own_alloc hrel.out.1 _) _ _ 1 1 [_] rfl rfl (reads_one _ _ _ _) (by simp [maxLen]) (by simp) (Nat.le_trans hsz (Nat.le_trans hrel.out.2.size (by simp))) ?_; intro a2 c2 w2 ho2 hg2)
     have q1 := below_alloc hrel.out.2 (.cells #[.int .u8 (bits .and .i64 ((m : Int) / 4294967296) 255 % 256)] 5) hsz
     have q2 := q1.trans (below_own (own_alloc hrel.out.1 _) hg2 (Nat.le_trans hsz q1.size))
     have HS := Lib.hid (show toI ((be 6 m).take (6 - 4)) = toI ((be 6 m).take (6 - 5)) ++ [((m / 4294967296 % 256 : Nat) : Int)] from six_step m 5 (by omega) (by omega))
     have HH := Lib.hid (And.intro ho2 q2)
     clear ho2 hg2 q1 q2
     go_roundw
     case rel =>
      refine ⟨4, 3, a2, c2, by omega, by omega, by go_num, by simp, And.intro ?_ HH.out.2⟩
      have h1 := HH.out.1
      rw [HX.out] at h1
      have h2 := HS.out
      rw [h2]
      exact h1
     case measure => simp [intOf]
    ·
     obtain rfl : v = 5 := by omega
     clear hj hv
     have HX := Lib.hid (show bits .and .i64 ((m : Int) / 1099511627776) 255 % 256 = ((m / 1099511627776 % 256 : Nat) : Int) from byte_step m 1099511627776 hm2)
     go_wp2_with (at_builtin; refine wpList_append_src _ rfl _ _ 22 rfl (w.heap.size + 1) 5 i0 (.int .u8 0) 1 Try.underlying22 hi hz0 hz1 hz2 rfl .u8 a1 _ c1 (kd :: toI ((be 6 m).take 0)) rfl (by simp) (own_alloc hrel.out.1 _) _ _ 1 1 [_] rfl rfl (reads_one _ _ _ _) (by simp [maxLen]) (by simp) (Nat.le_trans hsz (Nat.le_trans hrel.out.2.size (by simp))) ?_; intro a2 c2 w2 ho2 hg2)
     have q1 := below_alloc hrel.out.2 (.cells #[.int .u8 (bits .and .i64 ((m : Int) / 1099511627776) 255 % 256)] 5) hsz
     have q2 := q1.trans (below_own (own_alloc hrel.out.1 _) hg2 (Nat.le_trans hsz q1.size))
     have HS := Lib.hid (show toI ((be 6 m).take (6 - 5)) = toI ((be 6 m).take (6 - 6)) ++ [((m / 1099511627776 % 256 : Nat) : Int)] from six_step m 6 (by omega) (by omega))
     have HH := Lib.hid (And.intro ho2 q2)
     clear ho2 hg2 q1 q2
     go_roundw
     case rel =>
      refine ⟨5, 4, a2, c2, by omega, by omega, by go_num, by simp, And.intro ?_ HH.out.2⟩
      have h1 := HH.out.1
      rw [HX.out] at h1
      have h2 := HS.out
      rw [h2]
      exact h1
     case measure => simp [intOf]
end Go.Proofs.Ytojcdmgcbgpdmaa.L4

namespace Go.Proofs.Ytojcdmgcbgpdmaa.L6
open L4 (K isK cmpK R inR encU)
open L5 (F isR isN cellsF encR eqR Small)
open Go.ChangeShapes Go.WideShapes Go.ChangeAt Go.RowKit Mem Sl Sv Bag

def eqK (a b : K) : Bool := a.kind == b.kind && (a.n == b.n && a.t == b.t)
theorem eqK_iff {a b : K} : eqK a b = true ↔ a = b := by
 unfold eqK
 simp only [Bool.and_eq_true, beq_iff_eq]
 exact ⟨fun h => K.ext' h.1 h.2.1 h.2.2, fun h => by subst h; exact ⟨rfl, rfl, rfl⟩⟩
theorem eqK_refl (a : K) : eqK a a = true := eqK_iff.2 rfl
structure It where
 k : K
 l : List F
structure S6 where
 name : ByteArray
 items : List It
 auto : Int
def behind (xs : List It) (x : It) : Nat → Bool
 | 0 => true
 | j + 1 => match xs[j]? with
  | none => true
  | some y => decide (cmpK y.k x.k < 0)
def okIx (xs : List It) (i : Nat) : Bool := match xs[i]? with
 | none => true
 | some x => isK x.k && (isR x.l && behind xs x i)
theorem okIx_at {xs : List It} {k : Nat} {x : It} (h : xs[k]? = some x) : okIx xs k = (isK x.k && (isR x.l && behind xs x k)) := by
 unfold okIx
 rw [h]
theorem behind_at {xs : List It} {m : Nat} {x y : It} (h2 : xs[m]? = some y) : behind xs x (m + 1) = decide (cmpK y.k x.k < 0) := by
 simp only [behind, h2]
def isI (xs : List It) : Bool := (List.range xs.length).all (okIx xs)
def isS (s : S6) : Bool := isI s.items && (isN s.name.data.toList && (decide (s.items.length ≤ 16) && L1.inB s.auto 0 1000000))
theorem isI_no {xs : List It} (i : Nat) (hi : i < xs.length) (h : okIx xs i = false) : isI xs = false := by
 cases h1 : isI xs with
 | false => rfl
 | true =>
  unfold isI at h1
  have := (List.all_eq_true.1 h1) i (List.mem_range.2 hi)
  rw [h] at this
  cases this
theorem isI_all {xs : List It} (h : ∀ i, i < xs.length → okIx xs i = true) : isI xs = true := by
 unfold isI
 exact List.all_eq_true.2 fun i hi => h i (List.mem_range.1 hi)
theorem isI_at {xs : List It} (h : isI xs = true) (i : Nat) (hi : i < xs.length) : okIx xs i = true := by
 unfold isI at h
 exact (List.all_eq_true.1 h) i (List.mem_range.2 hi)
theorem okIx_zero {xs : List It} (h : 0 < xs.length) : okIx xs 0 = (isK xs[0].k && isR xs[0].l) := by
 rw [okIx_at (List.getElem?_eq_getElem h)]
 simp [behind]
theorem okIx_succ {xs : List It} (j : Nat) (h : j + 1 < xs.length) : okIx xs (j + 1) = (isK xs[j + 1].k && (isR xs[j + 1].l && decide (cmpK xs[j].k xs[j + 1].k < 0))) := by
 rw [okIx_at (List.getElem?_eq_getElem h), behind_at (List.getElem?_eq_getElem (show j < xs.length by omega))]
def fndO (xs : List It) (k : K) : Option Nat := xs.findIdx? fun x => eqK x.k k
def fndI (xs : List It) (k : K) : Int := match fndO xs k with
 | some i => i
 | none => -1
theorem fndO_at {xs : List It} {k : K} (i : Nat) (hi : i < xs.length) (h : eqK xs[i].k k = true) (ha : ∀ j (hj : j < xs.length), j < i → eqK xs[j].k k = false) : fndO xs k = some i := by
 unfold fndO
 rw [List.findIdx?_eq_some_iff_getElem]
 exact ⟨hi, h, fun j hj => by rw [ha j (by omega) hj]; simp⟩
theorem fndO_none {xs : List It} {k : K} (ha : ∀ j (hj : j < xs.length), eqK xs[j].k k = false) : fndO xs k = none := by
 unfold fndO
 rw [List.findIdx?_eq_none_iff]
 intro x hx
 obtain ⟨j, hj, rfl⟩ := List.getElem_of_mem hx
 exact ha j hj
theorem fndO_some {xs : List It} {k : K} {i : Nat} (h : fndO xs k = some i) : ∃ hi : i < xs.length, xs[i].k = k := by
 unfold fndO at h
 rw [List.findIdx?_eq_some_iff_getElem] at h
 obtain ⟨hi, h1, _⟩ := h
 exact ⟨hi, eqK_iff.1 h1⟩
theorem fndI_range (xs : List It) (k : K) : -1 ≤ fndI xs k ∧ fndI xs k < xs.length := by
 unfold fndI
 cases h : fndO xs k with
 | none => simp; omega
 | some i => obtain ⟨hi, _⟩ := fndO_some h; simp; omega
def posI (xs : List It) (k : K) : Nat := (xs.findIdx? fun x => !decide (cmpK x.k k < 0)).getD xs.length
theorem posI_at {xs : List It} {k : K} (i : Nat) (hi : i ≤ xs.length) (hl : ∀ j (hj : j < xs.length), j < i → cmpK xs[j].k k < 0) (hn : ∀ hi : i < xs.length, ¬ cmpK xs[i].k k < 0) : posI xs k = i := by
 unfold posI
 by_cases h : i < xs.length
 ·
  rw [show (xs.findIdx? fun x => !decide (cmpK x.k k < 0)) = some i by
   rw [List.findIdx?_eq_some_iff_getElem]
   exact ⟨h, by simpa using hn h, fun j hj => by simpa using hl j (by omega) hj⟩]
  rfl
 ·
  obtain rfl : i = xs.length := by omega
  rw [show (xs.findIdx? fun x => !decide (cmpK x.k k < 0)) = none by
   rw [List.findIdx?_eq_none_iff]
   intro x hx
   obtain ⟨j, hj, rfl⟩ := List.getElem_of_mem hx
   simpa using hl j hj hj]
  rfl
theorem posI_le (xs : List It) (k : K) : posI xs k ≤ xs.length := by
 unfold posI
 cases h : xs.findIdx? fun x => !decide (cmpK x.k k < 0) with
 | none => exact Nat.le_refl _
 | some i =>
  rw [List.findIdx?_eq_some_iff_getElem] at h
  exact Nat.le_of_lt h.1
def nextAuto (auto : Int) (k : K) : Int := if k.kind == 1 && L1.inB k.n (auto + 1) 1000000 then k.n else auto
def putI (s : S6) (k : K) (l : List F) : S6 × Bool :=
 if isS s && (isK k && isR l) then
  match fndO s.items k with
  | some i => (⟨s.name, s.items.set i ⟨k, l⟩, s.auto⟩, true)
  | none => if 16 ≤ s.items.length then (s, false) else (⟨s.name, s.items.take (posI s.items k) ++ ⟨k, l⟩ :: s.items.drop (posI s.items k), nextAuto s.auto k⟩, true)
 else (s, false)
def addI (s : S6) (k : K) (l : List F) : S6 × Bool := if 0 ≤ fndI s.items k then (s, false) else putI s k l
def zK : K := ⟨0, 0, ⟨#[]⟩⟩
def autoK (s : S6) : K := ⟨1, s.auto + 1, ⟨#[]⟩⟩
def autoB (s : S6) (l : List F) : Bool := !decide (1000000 ≤ s.auto) && (addI s (autoK s) l).2
def autoS (s : S6) (l : List F) : S6 := if autoB s l then (addI s (autoK s) l).1 else s
def autoR (s : S6) (l : List F) : K := if autoB s l then autoK s else zK
def inI (xs : List It) (r : R) : List It := xs.filter fun x => inR x.k r
def outI (xs : List It) (r : R) : List It := xs.filter fun x => !inR x.k r
def delS (s : S6) (r : R) : S6 := if isS s then ⟨s.name, outI s.items r, s.auto⟩ else s
def delN (s : S6) (r : R) : Int := if isS s then (s.items.length : Int) - (outI s.items r).length else 0
def szI (xs : List It) : Nat := (xs.map fun x => (encU x.k).length + (encR x.l).length).sum
def eqI (xs ys : List It) : Bool := xs.length == ys.length && (xs.zip ys).all fun p => eqK p.1.k p.2.k && eqR p.1.l p.2.l
def eqS (a b : S6) : Bool := a.name.data.toList == b.name.data.toList && (a.auto == b.auto && eqI a.items b.items)
theorem eqI_len {xs ys : List It} (h : ¬ xs.length = ys.length) : eqI xs ys = false := by
 unfold eqI
 rw [show (xs.length == ys.length) = false by simpa using h]
 rfl
theorem eqI_all {xs ys : List It} (h : xs.length = ys.length) (ha : ∀ j (h1 : j < xs.length) (h2 : j < ys.length), (eqK xs[j].k ys[j].k && eqR xs[j].l ys[j].l) = true) : eqI xs ys = true := by
 unfold eqI
 rw [h, beq_self_eq_true, Bool.true_and, List.all_eq_true]
 intro p hp
 obtain ⟨j, hj, rfl⟩ := List.getElem_of_mem hp
 rw [List.length_zip] at hj
 rw [List.getElem_zip]
 exact ha j (by omega) (by omega)
theorem eqI_no {xs ys : List It} (j : Nat) (h1 : j < xs.length) (h2 : j < ys.length) (h : (eqK xs[j].k ys[j].k && eqR xs[j].l ys[j].l) = false) : eqI xs ys = false := by
 cases he : eqI xs ys with
 | false => rfl
 | true =>
  unfold eqI at he
  rw [Bool.and_eq_true, List.all_eq_true] at he
  have := he.2 (xs[j], ys[j]) (by
   rw [List.mem_iff_getElem]
   exact ⟨j, by rw [List.length_zip]; omega, by rw [List.getElem_zip]⟩)
  rw [h] at this
  cases this
theorem eqI_iff {xs ys : List It} : eqI xs ys = true ↔ xs = ys := by
 constructor
 ·
  intro h
  unfold eqI at h
  simp only [Bool.and_eq_true, beq_iff_eq, List.all_eq_true] at h
  refine List.ext_getElem h.1 fun j h1 h2 => ?_
  have := h.2 (xs[j], ys[j]) (by
   rw [List.mem_iff_getElem]
   exact ⟨j, by rw [List.length_zip]; omega, by rw [List.getElem_zip]⟩)
  have e1 := eqK_iff.1 this.1
  have e2 := L5.eqR_iff.1 this.2
  have ext : ∀ x y : It, x.k = y.k → x.l = y.l → x = y := fun ⟨_, _⟩ ⟨_, _⟩ h1 h2 => by simp only at h1 h2; rw [h1, h2]
  exact ext _ _ e1 e2
 ·
  rintro rfl
  exact eqI_all rfl fun j h1 h2 => by rw [eqK_refl, L5.eqR_iff.2 rfl]; rfl
theorem eqS_iff {a b : S6} : eqS a b = true ↔ a = b := by
 obtain ⟨⟨⟨n1⟩⟩, x1, u1⟩ := a
 obtain ⟨⟨⟨n2⟩⟩, x2, u2⟩ := b
 unfold eqS
 simp only [Bool.and_eq_true, beq_iff_eq, eqI_iff, S6.mk.injEq, ByteArray.mk.injEq, Array.mk.injEq]
 exact ⟨fun h => ⟨h.1, h.2.2, h.2.1⟩, fun h => ⟨h.1, h.2.2, h.2.1⟩⟩

structure FitI (x : It) : Prop where
 text : x.k.text.size ≤ 1099511627776
 len : x.l.length ≤ 1048576
 small : Small x.l
structure FitS (s : S6) : Prop where
 name : s.name.size ≤ 281474976710656
 len : s.items.length ≤ 1048576
 items : ∀ x ∈ s.items, FitI x

structure LI where
 k : K
 a : Option Addr
 c : Nat
 l : List F
def LI.con (x : LI) : It := ⟨x.k, x.l⟩
def LI.cells (x : LI) : List Value := [.int .i64 x.k.kind, .int .i64 x.k.n, .string x.k.text, .slice x.a x.l.length x.c]
def LI.row (x : LI) : RowS := ⟨128, 2, x.a, x.c, x.l.length, cellsF x.l⟩
def cellsI (xs : List LI) : List Value := xs.flatMap LI.cells
def conI (xs : List LI) : List It := xs.map LI.con
@[simp] theorem conI_length (xs : List LI) : (conI xs).length = xs.length := List.length_map ..
theorem conI_get (xs : List LI) (j : Nat) (h : j < xs.length) : (conI xs)[j]'(by simpa using h) = xs[j].con := List.getElem_map ..
theorem cellsI_cons (x : LI) (xs : List LI) : cellsI (x :: xs) = .int .i64 x.k.kind :: .int .i64 x.k.n :: .string x.k.text :: .slice x.a x.l.length x.c :: cellsI xs := rfl
theorem cellsI_append (xs ys : List LI) : cellsI (xs ++ ys) = cellsI xs ++ cellsI ys := by unfold cellsI; rw [List.flatMap_append]
@[simp] theorem cellsI_length : ∀ (xs : List LI), (cellsI xs).length = xs.length * 4
 | [] => rfl
 | x :: xs => by rw [cellsI_cons, List.length_cons, List.length_cons, List.length_cons, List.length_cons, cellsI_length xs, List.length_cons]; omega
theorem cellsI_at : ∀ (xs : List LI) (j : Nat) (h : j < xs.length), (cellsI xs)[j * 4]? = some (.int .i64 xs[j].k.kind) ∧ (cellsI xs)[j * 4 + 1]? = some (.int .i64 xs[j].k.n) ∧ (cellsI xs)[j * 4 + 2]? = some (.string xs[j].k.text) ∧ (cellsI xs)[j * 4 + 3]? = some (.slice xs[j].a xs[j].l.length xs[j].c)
 | x :: xs, 0, _ => ⟨rfl, rfl, rfl, rfl⟩
 | x :: xs, j + 1, h => by
  have := cellsI_at xs j (by simpa using h)
  rw [cellsI_cons, show (j + 1) * 4 = j * 4 + 1 + 1 + 1 + 1 by omega]
  exact this
theorem cellsI_one (xs : List LI) : ∀ u ∈ cellsI xs, u.oneCell' = true := by
 intro u hu
 obtain ⟨x, _, hx⟩ := List.mem_flatMap.1 hu
 simp [LI.cells] at hx
 rcases hx with rfl | rfl | rfl | rfl <;> rfl
theorem readsI {w : World} {B : Nat} {a : Option Addr} {xs : List LI} (h : Reads w B a (cellsI xs)) (j : Nat) (hj : j < xs.length) :
  ∃ ad, a = some ad ∧ ad.block < B ∧ w.cell? (ad.add (j * 4)) = some (.int .i64 xs[j].k.kind) ∧ w.cell? ⟨(ad.add (j * 4)).block, (ad.add (j * 4)).off + 1, none⟩ = some (.int .i64 xs[j].k.n) ∧ w.cell? ⟨(ad.add (j * 4)).block, (ad.add (j * 4)).off + 2, none⟩ = some (.string xs[j].k.text) ∧ w.cell? ⟨(ad.add (j * 4)).block, (ad.add (j * 4)).off + 3, none⟩ = some (.slice xs[j].a xs[j].l.length xs[j].c) := by
 obtain ⟨c0, c1, c2, c3⟩ := cellsI_at xs j hj
 have key : ∀ q, q < 4 → ∃ ad, a = some ad ∧ ad.block < B ∧ (cellsI xs)[j * 4 + q]? = w.cell? (ad.add (j * 4 + q)) := fun q hq => by
  have hq2 : j * 4 + q < (cellsI xs).length := by rw [cellsI_length]; omega
  obtain ⟨ad, e, hb, h1⟩ := h (j * 4 + q) hq2
  exact ⟨ad, e, hb, by rw [List.getElem?_eq_getElem hq2, h1]⟩
 obtain ⟨ad, e, hb, h0⟩ := key 0 (by omega)
 obtain ⟨ad1, e1, _, h1⟩ := key 1 (by omega)
 obtain ⟨ad2, e2, _, h2⟩ := key 2 (by omega)
 obtain ⟨ad3, e3, _, h3⟩ := key 3 (by omega)
 rw [e] at e1 e2 e3
 cases e1; cases e2; cases e3
 have nx : ∀ q, w.cell? (ad.add (j * 4 + (q + 1))) = w.cell? ⟨(ad.add (j * 4)).block, (ad.add (j * 4)).off + (q + 1), none⟩ := fun q => by
  congr 1
  unfold Addr.add
  by_cases hz : j * 4 = 0 <;> simp [hz, Nat.add_assoc]
 refine ⟨ad, e, hb, ?_, ?_, ?_, ?_⟩
 ·
  rw [Nat.add_zero] at h0
  rw [← h0, c0]
 ·
  rw [← nx 0, ← h1, c1]
 ·
  rw [← nx 1, ← h2, c2]
 ·
  rw [← nx 2, ← h3, c3]
structure LS where
 name : ByteArray
 a : Option Addr
 c : Nat
 xs : List LI
 auto : Int
def LS.con (s : LS) : S6 := ⟨s.name, conI s.xs, s.auto⟩
def LS.cells (s : LS) : Array Value := #[.string s.name, .slice s.a s.xs.length s.c, .int .i64 s.auto]
def LS.v (s : LS) : Value := .agg s.cells
def rowI (a : Option Addr) (c : Nat) (xs : List LI) : RowS := ⟨40, 4, a, c, xs.length, cellsI xs⟩
def rowsI (xs : List LI) : List RowS := xs.map LI.row
def LS.rows (s : LS) : List RowS := rowI s.a s.c s.xs :: rowsI s.xs
theorem rowsI_append (xs ys : List LI) : rowsI (xs ++ ys) = rowsI xs ++ rowsI ys := List.map_append
theorem rowsI_at (xs : List LI) (j : Nat) (h : j < xs.length) : xs[j].row ∈ rowsI xs := List.mem_map.2 ⟨_, List.getElem_mem h, rfl⟩
section
variable {w : World} {B : Nat} {s : LS}
theorem LS.outer (h : RowsRd w B s.rows) : Reads w B s.a (cellsI s.xs) := (h.at_ (r := rowI s.a s.c s.xs) (List.mem_cons_self ..)).reads
theorem LS.inner (h : RowsRd w B s.rows) : RowsRd w B (rowsI s.xs) := h.sub fun r hr => List.mem_cons_of_mem _ hr
end
def GaveI (w : World) (x : It) (e : Ending) (w' : World) : Prop :=
 ∃ a c, e = .returned (.agg #[.int .i64 x.k.kind, .int .i64 x.k.n, .string x.k.text, .slice a x.l.length c]) ∧ BagOwn w' w.heap.size [(LI.mk x.k a c x.l).row] ∧ Below w.heap.size w w'
def GaveIs (w : World) (xs : List It) (e : Ending) (w' : World) : Prop :=
 ∃ (a : Option Addr) (c : Nat) (ys : List LI), e = .returned (.slice a ys.length c) ∧ conI ys = xs ∧ BagOwn w' w.heap.size (rowI a c ys :: rowsI ys) ∧ Below w.heap.size w w'
def GaveS (w : World) (s : S6) (e : Ending) (w' : World) : Prop :=
 ∃ y : LS, e = .returned y.v ∧ y.con = s ∧ BagOwn w' w.heap.size y.rows ∧ Below w.heap.size w w'
def GaveSB (w : World) (s : S6) (b : Bool) (e : Ending) (w' : World) : Prop :=
 ∃ y : LS, e = .returned (.tuple #[y.v, .bool b]) ∧ y.con = s ∧ BagOwn w' w.heap.size y.rows ∧ Below w.heap.size w w'
def GaveSN (w : World) (s : S6) (n : Int) (e : Ending) (w' : World) : Prop :=
 ∃ y : LS, e = .returned (.tuple #[y.v, .int .i64 n]) ∧ y.con = s ∧ BagOwn w' w.heap.size y.rows ∧ Below w.heap.size w w'
def GaveSKB (w : World) (s : S6) (k : K) (b : Bool) (e : Ending) (w' : World) : Prop :=
 ∃ y : LS, e = .returned (.tuple #[y.v, k.v, .bool b]) ∧ y.con = s ∧ BagOwn w' w.heap.size y.rows ∧ Below w.heap.size w w'
end Go.Proofs.Ytojcdmgcbgpdmaa.L6

namespace Go.Proofs.Ytojcdmgcbgpdmaa.L6
open L4 (K isK cmpK R inR encU)
open L5 (F isR isN cellsF encR eqR Small)

theorem isI_iff {xs : List It} : isI xs = true ↔ (∀ i (h : i < xs.length), isK xs[i].k = true ∧ isR xs[i].l = true) ∧ ∀ i (h : i + 1 < xs.length), cmpK xs[i].k xs[i + 1].k < 0 := by
 constructor
 ·
  intro h
  refine ⟨fun i hi => ?_, fun i hi => ?_⟩
  ·
   have h1 := isI_at h i hi
   rw [okIx_at (List.getElem?_eq_getElem hi)] at h1
   simp only [Bool.and_eq_true] at h1
   exact ⟨h1.1, h1.2.1⟩
  ·
   have h1 := isI_at h (i + 1) hi
   rw [okIx_succ i hi] at h1
   simp only [Bool.and_eq_true, decide_eq_true_eq] at h1
   exact h1.2.2
 ·
  rintro ⟨h1, h2⟩
  refine isI_all fun i hi => ?_
  rcases i with _ | j
  ·
   rw [okIx_zero hi, (h1 0 hi).1, (h1 0 hi).2]; rfl
  ·
   rw [okIx_succ j hi, (h1 _ hi).1, (h1 _ hi).2, decide_eq_true (h2 j hi)]; rfl
theorem isI_bad {xs : List It} (i : Nat) (x : It) (hx : xs[i]? = some x) (h : (isK x.k && isR x.l) = false) : isI xs = false := by
 cases h1 : isI xs with
 | false => rfl
 | true =>
  obtain ⟨hi, rfl⟩ := List.getElem?_eq_some_iff.1 hx
  have h2 := (isI_iff.1 h1).1 i hi
  rw [h2.1, h2.2] at h
  cases h
theorem isI_set {xs : List It} (h : isI xs = true) (i : Nat) (hi : i < xs.length) (l : List F) : isI (xs.set i ⟨xs[i].k, l⟩) = isR l := by
 have hx := isI_iff.1 h
 cases hl : isR l with
 | false => exact isI_bad i ⟨xs[i].k, l⟩ (by rw [List.getElem?_set_self hi]) (by show (isK xs[i].k && isR l) = false; rw [hl, Bool.and_false])
 | true =>
  have hk : ∀ j (hj : j < (xs.set i ⟨xs[i].k, l⟩).length), (xs.set i ⟨xs[i].k, l⟩)[j].k = (xs[j]'(by simpa using hj)).k := fun j hj => by
   rw [List.getElem_set]
   split
   ·
    rename_i e; subst e; rfl
   ·
    rfl
  refine isI_iff.2 ⟨fun j hj => ?_, fun j hj => ?_⟩
  ·
   have hj' : j < xs.length := by simpa using hj
   refine ⟨by rw [hk j hj]; exact (hx.1 j hj').1, ?_⟩
   rw [List.getElem_set]
   split
   ·
    exact hl
   ·
    exact (hx.1 j hj').2
  ·
   rw [hk j (by omega), hk (j + 1) hj]
   exact hx.2 j (by simpa using hj)
theorem get_ins (xs : List It) (p : Nat) (hp : p ≤ xs.length) (z : It) (i : Nat) :
  (xs.take p ++ z :: xs.drop p)[i]? = if i < p then xs[i]? else if i = p then some z else xs[i - 1]? := by
 rw [List.getElem?_append, List.length_take, Nat.min_eq_left hp]
 split
 ·
  rw [List.getElem?_take, if_pos (by assumption)]
 ·
  rename_i h
  split
  ·
   rename_i e; subst e; simp
  ·
   rw [show i - p = (i - p - 1) + 1 by omega, List.getElem?_cons_succ, List.getElem?_drop]
   congr 1
   omega
theorem isI_ins {xs : List It} (h : isI xs = true) (k : K) (l : List F) (p : Nat) (hp : p ≤ xs.length) (hk : isK k = true) (hl : isR l = true) (hlo : ∀ j (hj : j < xs.length), j < p → cmpK xs[j].k k < 0) (hhi : ∀ hj : p < xs.length, cmpK k xs[p].k < 0) : isI (xs.take p ++ ⟨k, l⟩ :: xs.drop p) = true := by
 have hx := isI_iff.1 h
 have hlen : (xs.take p ++ (⟨k, l⟩ : It) :: xs.drop p).length = xs.length + 1 := by simp; omega
 have hg : ∀ i (hi : i < (xs.take p ++ (⟨k, l⟩ : It) :: xs.drop p).length) (z : It), (if i < p then xs[i]? else if i = p then some ⟨k, l⟩ else xs[i - 1]?) = some z → (xs.take p ++ (⟨k, l⟩ : It) :: xs.drop p)[i] = z := fun i hi z hz => by
  have h1 := get_ins xs p hp ⟨k, l⟩ i
  rw [hz, List.getElem?_eq_getElem hi] at h1
  exact Option.some.inj h1
 refine isI_iff.2 ⟨fun i hi => ?_, fun i hi => ?_⟩
 ·
  rcases Nat.lt_trichotomy i p with h1 | h1 | h1
  ·
   rw [hg i hi xs[i] (by rw [if_pos h1, List.getElem?_eq_getElem])]
   exact hx.1 i (by omega)
  ·
   rw [hg i hi ⟨k, l⟩ (by rw [if_neg (by omega), if_pos h1])]
   exact ⟨hk, hl⟩
  ·
   have : i - 1 < xs.length := by omega
   rw [hg i hi xs[i - 1] (by rw [if_neg (by omega), if_neg (by omega), List.getElem?_eq_getElem])]
   exact hx.1 (i - 1) this
 ·
  rcases Nat.lt_trichotomy (i + 1) p with h1 | h1 | h1
  ·
   rw [hg i (by omega) xs[i] (by rw [if_pos (by omega), List.getElem?_eq_getElem]), hg (i + 1) hi xs[i + 1] (by rw [if_pos h1, List.getElem?_eq_getElem])]
   exact hx.2 i (by omega)
  ·
   rw [hg i (by omega) xs[i] (by rw [if_pos (by omega), List.getElem?_eq_getElem]), hg (i + 1) hi ⟨k, l⟩ (by rw [if_neg (by omega), if_pos h1])]
   exact hlo i (by omega) (by omega)
  ·
   rcases Nat.lt_or_ge p i with h2 | h2
   ·
    have h3 : i - 1 + 1 < xs.length := by omega
    rw [hg i (by omega) xs[i - 1] (by rw [if_neg (by omega), if_neg (by omega), List.getElem?_eq_getElem]), hg (i + 1) hi (xs[i - 1 + 1]'h3) (by
     rw [if_neg (by omega), if_neg (by omega), List.getElem?_eq_getElem (show i + 1 - 1 < xs.length by omega)]
     congr 2
     omega)]
    exact hx.2 (i - 1) h3
   ·
    obtain rfl : i = p := by omega
    have h3 : i < xs.length := by omega
    rw [hg i (by omega) ⟨k, l⟩ (by rw [if_neg (by omega), if_pos rfl]), hg (i + 1) hi (xs[i]'h3) (by
     rw [if_neg (by omega), if_neg (by omega), List.getElem?_eq_getElem (show i + 1 - 1 < xs.length by omega)]
     congr 2)]
    exact hhi h3
theorem isS_iff {s : S6} : isS s = true ↔ isI s.items = true ∧ isN s.name.data.toList = true ∧ s.items.length ≤ 16 ∧ 0 ≤ s.auto ∧ s.auto ≤ 1000000 := by
 unfold isS
 simp only [Bool.and_eq_true, decide_eq_true_eq, L1.inB_true]
theorem fndO_ne {xs : List It} {k : K} (h : fndO xs k = none) : ∀ x ∈ xs, x.k ≠ k := fun x hx e => by
 unfold fndO at h
 rw [List.findIdx?_eq_none_iff] at h
 have := h x hx
 rw [e, eqK_refl] at this
 cases this
theorem fndO_cmp {xs : List It} {k : K} (hv : isI xs = true) (hk : isK k = true) (h : fndO xs k = none) : ∀ x ∈ xs, cmpK x.k k ≠ 0 := fun x hx e => by
 obtain ⟨j, hj, rfl⟩ := List.getElem_of_mem hx
 exact fndO_ne h _ hx ((L4.cmpK_zero ((isI_iff.1 hv).1 j hj).1 hk).1 e)
theorem posI_spec (xs : List It) (k : K) : (∀ j (hj : j < xs.length), j < posI xs k → cmpK xs[j].k k < 0) ∧ ∀ hj : posI xs k < xs.length, ¬ cmpK xs[posI xs k].k k < 0 := by
 unfold posI
 cases h : xs.findIdx? fun x => !decide (cmpK x.k k < 0) with
 | none =>
  rw [List.findIdx?_eq_none_iff] at h
  refine ⟨fun j hj _ => ?_, fun hj => absurd hj (by simp)⟩
  have := h _ (List.getElem_mem hj)
  simpa using this
 | some i =>
  rw [List.findIdx?_eq_some_iff_getElem] at h
  obtain ⟨hi, h1, h2⟩ := h
  refine ⟨fun j hj hji => ?_, fun hj => ?_⟩
  ·
   have := h2 j hji
   simpa using this
  ·
   simpa using h1
theorem nextAuto_range {auto : Int} (k : K) (h0 : 0 ≤ auto) (h1 : auto ≤ 1000000) : auto ≤ nextAuto auto k ∧ nextAuto auto k ≤ 1000000 := by
 unfold nextAuto
 split
 ·
  rename_i h
  simp only [Bool.and_eq_true, L1.inB_true] at h
  omega
 ·
  omega
theorem putI_valid {s : S6} (k : K) (l : List F) (h : isS s = true) : isS (putI s k l).1 = true := by
 obtain ⟨h1, h2, h3, h4, h5⟩ := isS_iff.1 h
 unfold putI
 split
 ·
  rename_i hg
  simp only [Bool.and_eq_true] at hg
  cases hf : fndO s.items k with
  | some i =>
   obtain ⟨hi, hki⟩ := fndO_some hf
   have e := isI_set h1 i hi l
   rw [hki] at e
   exact isS_iff.2 ⟨by show isI (s.items.set i ⟨k, l⟩) = true; rw [e]; exact hg.2.2, h2, by show (s.items.set i _).length ≤ 16; rw [List.length_set]; exact h3, h4, h5⟩
  | none =>
   dsimp only
   split
   ·
    exact h
   ·
    have hp := posI_spec s.items k
    have ha := nextAuto_range k h4 h5
    refine isS_iff.2 ⟨isI_ins h1 k l _ (posI_le _ _) hg.2.1 hg.2.2 hp.1 (fun hj => ?_), h2, ?_, by show 0 ≤ nextAuto s.auto k; omega, by show nextAuto s.auto k ≤ 1000000; omega⟩
    ·
     have e1 := hp.2 hj
     have e2 := fndO_cmp h1 hg.2.1 hf _ (List.getElem_mem hj)
     rw [L4.cmpK_swap]
     omega
    ·
     have := posI_le s.items k
     simp
     omega
 ·
  exact h
theorem FitS.set {n : ByteArray} {xs : List It} {u u2 : Int} (h : FitS ⟨n, xs, u⟩) (i : Nat) (z : It) (hz : FitI z) : FitS ⟨n, xs.set i z, u2⟩ :=
 ⟨h.name, by show (xs.set i z).length ≤ _; rw [List.length_set]; exact h.len, fun x hx => by
  rcases List.mem_or_eq_of_mem_set hx with h1 | h1
  ·
   exact h.items x h1
  ·
   rw [h1]; exact hz⟩
theorem FitS.ins {n : ByteArray} {xs : List It} {u u2 : Int} (h : FitS ⟨n, xs, u⟩) (p : Nat) (z : It) (hz : FitI z) (hl : xs.length ≤ 1000) : FitS ⟨n, xs.take p ++ z :: xs.drop p, u2⟩ :=
 ⟨h.name, by show (xs.take p ++ z :: xs.drop p).length ≤ _; simp; omega, fun x hx => by
  rcases List.mem_append.1 hx with h1 | h1
  ·
   exact h.items x (List.mem_of_mem_take h1)
  ·
   rcases List.mem_cons.1 h1 with h2 | h2
   ·
    rw [h2]; exact hz
   ·
    exact h.items x (List.mem_of_mem_drop h2)⟩
end Go.Proofs.Ytojcdmgcbgpdmaa.L6

namespace Go.Proofs.Ytojcdmgcbgpdmaa.L6
open L4 (K isK cmpK R inR encU)
open L5 (F isR isN cellsF encR eqR Small)
theorem FitS_put {s : S6} {k : K} {l : List F} (h : FitS s) (hz : FitI ⟨k, l⟩) : FitS (putI s k l).1 := by
 obtain ⟨n, xs, u⟩ := s
 unfold putI
 split
 ·
  rename_i hg
  split
  ·
   exact h.set _ _ hz
  ·
   split
   ·
    exact h
   ·
    rename_i h2
    exact h.ins _ _ hz (by dsimp only at h2; omega)
 ·
  exact h
theorem FitI_in {xs : List It} {r : R} (h : ∀ x ∈ xs, FitI x) : ∀ x ∈ inI xs r, FitI x := fun x hx => h x ((List.mem_filter.1 hx).1)
theorem FitS_del {s : S6} {r : R} (h : FitS s) : FitS (delS s r) := by
 unfold delS
 split
 ·
  exact ⟨h.name, Nat.le_trans (List.length_filter_le _ _) h.len, fun x hx => h.items x ((List.mem_filter.1 hx).1)⟩
 ·
  exact h
theorem inI_len {xs : List It} {r : R} (h : xs.length ≤ 1048576) : (inI xs r).length ≤ 1048576 := Nat.le_trans (List.length_filter_le _ _) h
end Go.Proofs.Ytojcdmgcbgpdmaa.L6

