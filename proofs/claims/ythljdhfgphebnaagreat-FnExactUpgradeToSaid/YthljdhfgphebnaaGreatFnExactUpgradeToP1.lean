/-
  What the law FnExactUpgradeTo needs, laid by my program lawpack.py, part 1: the texts Reg, Tk, Frame, Sh, L1Base, Mem, Args, Sl, Ex, L2Num, L2App, Law, Sd, Sv, L4Num, L1Num, L4Par, L2Rd, L2Rd2, L4Sp, L4Cmp, L4Law, L4Open, Bag, Run, Rst, L5Num, L5Sp, L5Rec, L5Eq, L5Rem, L3Num, L3Fn, L5Enc, L5Eql, L4Cod, L6Num, L5Dm, L6Sx, L7Num, L5Opn, Vg, L5Set, L1Fmt, L5Law, VKey, VField, VRecord, one behind the other; each begins with its own words.
-/
import Derived.Test.YthljdhfgphebnaaGreatRows
import Derived.Deep.RegionHeld3
import Derived.WalkKit
import Derived.ProofKit
import Derived.OpenShut
import Derived.Below
import Derived.Carry
import Derived.ChangeSame
import Derived.BigQuiet
import Derived.Deep.QuietTactic
import Derived.Lib.Hide
import Derived.Laws.OwnMore
import Derived.Deep.Draws
import Derived.Laws.Rows
import Derived.Lib.BufferOwn
import Derived.Lib.SmallJoins
import Derived.Laws.Bits128
import Derived.Laws.BitsLemmas
import Derived.ChangeSlices
import Derived.SizedLaws
import Derived.OwnWalk
import Derived.Maps.AppendAt
import Derived.Laws.AppendOwnNone
import Derived.LoopTactic
import Derived.IntWalk
import Derived.Outline
import Derived.Laws.BitsAllLaws
import Derived.RegionTactic
import Derived.Lib.AtoiAllCases
import GoSem.Op.String
import Derived.Lib.ItoaNum
import Derived.Lib.ItoaLen
import Derived.Lib.AtoiTie
import Derived.Laws.BytesArg
import Derived.ChangeArms
import Derived.Lib.AppendZerosOnto
import Derived.Laws.IdiomCopy
import Derived.Deep.AppendSrc
import Derived.Deep.DeepCutAuto
import Derived.Deep.RegionLaw
import Derived.Lib.ConvBytes
import Derived.DataReads
import Derived.WalkLawsBesides
import Derived.WalkSpells
import Derived.Laws.StructEq
import Derived.Deep.CutBlock
import Derived.ArgAppend
import Derived.Lib.Bytealg
import Derived.Lib.AppendStr
import Derived.ChangeKeysEq
set_option linter.unusedSimpArgs false
set_option linter.unusedVariables false
set_option maxRecDepth 100000
namespace Go.Proofs.YthljdhfgphebnaaGreat.Args
end Go.Proofs.YthljdhfgphebnaaGreat.Args
namespace Go.Proofs.YthljdhfgphebnaaGreat.Bag
end Go.Proofs.YthljdhfgphebnaaGreat.Bag
namespace Go.Proofs.YthljdhfgphebnaaGreat.Closed
end Go.Proofs.YthljdhfgphebnaaGreat.Closed
namespace Go.Proofs.YthljdhfgphebnaaGreat.Draw
end Go.Proofs.YthljdhfgphebnaaGreat.Draw
namespace Go.Proofs.YthljdhfgphebnaaGreat.Eat
end Go.Proofs.YthljdhfgphebnaaGreat.Eat
namespace Go.Proofs.YthljdhfgphebnaaGreat.Ex
end Go.Proofs.YthljdhfgphebnaaGreat.Ex
namespace Go.Proofs.YthljdhfgphebnaaGreat.Frame
end Go.Proofs.YthljdhfgphebnaaGreat.Frame
namespace Go.Proofs.YthljdhfgphebnaaGreat.L1
end Go.Proofs.YthljdhfgphebnaaGreat.L1
namespace Go.Proofs.YthljdhfgphebnaaGreat.L2
end Go.Proofs.YthljdhfgphebnaaGreat.L2
namespace Go.Proofs.YthljdhfgphebnaaGreat.L3
end Go.Proofs.YthljdhfgphebnaaGreat.L3
namespace Go.Proofs.YthljdhfgphebnaaGreat.L4
end Go.Proofs.YthljdhfgphebnaaGreat.L4
namespace Go.Proofs.YthljdhfgphebnaaGreat.L5
end Go.Proofs.YthljdhfgphebnaaGreat.L5
namespace Go.Proofs.YthljdhfgphebnaaGreat.L6
end Go.Proofs.YthljdhfgphebnaaGreat.L6
namespace Go.Proofs.YthljdhfgphebnaaGreat.L7
end Go.Proofs.YthljdhfgphebnaaGreat.L7
namespace Go.Proofs.YthljdhfgphebnaaGreat.L8
end Go.Proofs.YthljdhfgphebnaaGreat.L8
namespace Go.Proofs.YthljdhfgphebnaaGreat.Law
end Go.Proofs.YthljdhfgphebnaaGreat.Law
namespace Go.Proofs.YthljdhfgphebnaaGreat.Mem
end Go.Proofs.YthljdhfgphebnaaGreat.Mem
namespace Go.Proofs.YthljdhfgphebnaaGreat.Reg
end Go.Proofs.YthljdhfgphebnaaGreat.Reg
namespace Go.Proofs.YthljdhfgphebnaaGreat.Run
end Go.Proofs.YthljdhfgphebnaaGreat.Run
namespace Go.Proofs.YthljdhfgphebnaaGreat.Sd
end Go.Proofs.YthljdhfgphebnaaGreat.Sd
namespace Go.Proofs.YthljdhfgphebnaaGreat.Sl
end Go.Proofs.YthljdhfgphebnaaGreat.Sl
namespace Go.Proofs.YthljdhfgphebnaaGreat.Sv
end Go.Proofs.YthljdhfgphebnaaGreat.Sv
namespace Go.Proofs.YthljdhfgphebnaaGreat.V
end Go.Proofs.YthljdhfgphebnaaGreat.V
namespace Go.Proofs.YthljdhfgphebnaaGreat.lawFnExactUpgradeTo
end Go.Proofs.YthljdhfgphebnaaGreat.lawFnExactUpgradeTo
namespace Go.Proofs.YthljdhfgphebnaaGreat.Reg
def nthO {α : Type} : Nat → List α → Option α
 | _, [] => none
 | 0, x :: _ => some x
 | i + 1, _ :: l => nthO i l
theorem nthO_eq {α : Type} : ∀ (l : List α) (i : Nat), l.toArray[i]? = nthO i l
 | [], i => by simp [nthO]
 | x :: l, 0 => by simp [nthO]
 | x :: l, i + 1 => by
  have := nthO_eq l i
  simp only [List.getElem?_toArray, List.getElem?_cons_succ] at this ⊢
  exact this
section
variable {P : Program} {l : List Oper} {Q : Exit → Act → World → Prop} {md : Region.Mode} {S : World → Prop} {fuel i : Nat} {oi : Oper} {v : Value} {listed : Array Bool} {a : Act} {w : World}
theorem take_op (hi : nthO i l = some oi) (hs : Region.noSelect l.toArray = true) (hf : Region.free md l.toArray listed i = true) (hr : (Region.ready md l.toArray listed).contains i = true)
  (hQ : ∀ c a w, Q (.panic c) (a.put oi.dst v) w → Q (.panic c) a w) (hw : Region.wanted oi (yielded l.toArray a.tmps) = true) (hy : ∀ w, S w → (execOp a.eval oi).run P w = .ok (.value v) w) (hS : S w)
  (h : wpAnyH P md l.toArray Q S fuel (listed.setIfInBounds i true) (a.put oi.dst v) w) : wpAnyH P md l.toArray Q S (fuel + 1) listed a w :=
 wpAnyH_take (by rw [nthO_eq]; exact hi) hs hf hr hQ (.inl ⟨hw, hy⟩) hS h
theorem skip_op (hi : nthO i l = some oi) (hs : Region.noSelect l.toArray = true) (hf : Region.free md l.toArray listed i = true) (hr : (Region.ready md l.toArray listed).contains i = true)
  (hQ : ∀ c a w, Q (.panic c) (a.put oi.dst undef) w → Q (.panic c) a w) (hw : Region.wanted oi (yielded l.toArray a.tmps) = false) (hS : S w)
  (h : wpAnyH P md l.toArray Q S fuel (listed.setIfInBounds i true) (a.put oi.dst undef) w) : wpAnyH P md l.toArray Q S (fuel + 1) listed a w :=
 wpAnyH_take (by rw [nthO_eq]; exact hi) hs hf hr hQ (.inr ⟨hw, rfl⟩) hS h
theorem one_op (hi : nthO i l = some oi) (hr : Region.ready md l.toArray listed = [i])
  (h : ∀ K' : Act → World → Prop, Shut (∀ a w, S w → (S w → wpAnyH P md l.toArray Q S fuel (listed.setIfInBounds i true) a w) → K' a w) → if Region.wanted oi (yielded l.toArray a.tmps) = true then Oper.wp P oi a w K' Q else K' (a.put oi.dst undef) w) :
  wpAnyH P md l.toArray Q S (fuel + 1) listed a w :=
 wpAnyH_ready hr (by simp) (AllReadyH.cons (by rw [nthO_eq]; exact hi) h AllReadyH.nil)
theorem cons_op {rs : List Nat} (hi : nthO i l = some oi)
  (h : ∀ K' : Act → World → Prop, Shut (∀ a w, S w → (S w → wpAnyH P md l.toArray Q S fuel (listed.setIfInBounds i true) a w) → K' a w) → if Region.wanted oi (yielded l.toArray a.tmps) = true then Oper.wp P oi a w K' Q else K' (a.put oi.dst undef) w)
  (hs : AllReadyH P md l.toArray Q S fuel listed a w rs) : AllReadyH P md l.toArray Q S fuel listed a w (i :: rs) := AllReadyH.cons (by rw [nthO_eq]; exact hi) h hs
theorem skip_one (hi : nthO i l = some oi) (hr : Region.ready md l.toArray listed = [i]) (hw : Region.wanted oi (yielded l.toArray a.tmps) = false) (hS : S w)
  (h : wpAnyH P md l.toArray Q S fuel (listed.setIfInBounds i true) (a.put oi.dst undef) w) : wpAnyH P md l.toArray Q S (fuel + 1) listed a w :=
 wpAnyH_all hr (by simp) (fun j hj => by
  obtain rfl := List.mem_singleton.1 hj
  unfold wpOp
  have hi' : l.toArray[j]? = some oi := by rw [nthO_eq]; exact hi
  rw [hi']
  simp only [hw]
  exact ⟨hS, h⟩)
end
end Go.Proofs.YthljdhfgphebnaaGreat.Reg

set_option linter.unusedSimpArgs false
namespace Go.Proofs.YthljdhfgphebnaaGreat
def Reg.okOp (md : Region.Mode) (l : List Oper) (listed : Array Bool) (i : Nat) : Bool := Region.noSelect l.toArray && (Region.free md l.toArray listed i && (Region.ready md l.toArray listed).contains i)
theorem zp0 (a : Act) (i : Nat) (v : Value) : a.put (some i) v = { a with tmps := a.tmps.setIfInBounds i v } := rfl
theorem zp1 {α : Type} (l : List α) (i : Nat) (x : α) : l.toArray.setIfInBounds i x = (l.set i x).toArray := List.setIfInBounds_toArray ..
theorem zp2 {α : Type} (l : List α) (x y : α) : (x :: l).set 0 y = y :: l := rfl
theorem zp3 {α : Type} (l : List α) (x y : α) (i : Nat) : (x :: l).set (i + 1) y = x :: l.set i y := rfl
theorem zp4 (a : Act) (v : Value) : a.put none v = a := rfl
section
variable {P : Program} {l : List Oper} {Q : Exit → Act → World → Prop} {md : Region.Mode} {S : World → Prop} {fuel : Nat} {oi : Oper} {v : Value} {listed : Array Bool} {a : Act} {w : World}
open Reg
theorem Reg.okOp_spec {i : Nat} (h : okOp md l listed i = true) : Region.noSelect l.toArray = true ∧ Region.free md l.toArray listed i = true ∧ (Region.ready md l.toArray listed).contains i = true := by
 unfold okOp at h
 simp only [Bool.and_eq_true] at h
 exact h
theorem tk (i : Nat) (hi : nthO i l = some oi) (h : wpAnyH P md l.toArray Q S fuel (listed.setIfInBounds i true) (a.put oi.dst v) w)
  (hk : okOp md l listed i = true := by kernel_rfl) (hw : Region.wanted oi (yielded l.toArray a.tmps) = true := by rfl)
  (hy : ∀ w, S w → (execOp a.eval oi).run P w = .ok (.value v) w := by (intro w hSw; (try dsimp only at hSw); go_simp; try with_reducible rfl))
  (hQ : ∀ c a w, Q (.panic c) (a.put oi.dst v) w → Q (.panic c) a w := by exact fun _ _ _ h => h) (hS : S w := by assumption) :
  wpAnyH P md l.toArray Q S (fuel + 1) listed a w :=
 take_op hi (okOp_spec hk).1 (okOp_spec hk).2.1 (okOp_spec hk).2.2 hQ hw hy hS h
theorem sk (i : Nat) (hi : nthO i l = some oi) (h : wpAnyH P md l.toArray Q S fuel (listed.setIfInBounds i true) (a.put oi.dst undef) w)
  (hk : okOp md l listed i = true := by kernel_rfl) (hw : Region.wanted oi (yielded l.toArray a.tmps) = false := by rfl)
  (hQ : ∀ c a w, Q (.panic c) (a.put oi.dst undef) w → Q (.panic c) a w := by exact fun _ _ _ h => h) (hS : S w := by assumption) :
  wpAnyH P md l.toArray Q S (fuel + 1) listed a w :=
 skip_op hi (okOp_spec hk).1 (okOp_spec hk).2.1 (okOp_spec hk).2.2 hQ hw hS h
end
end Go.Proofs.YthljdhfgphebnaaGreat

namespace Go.Proofs.YthljdhfgphebnaaGreat.Frame
open Go.ChangeShapes Go.WideShapes Go.ChangeAt Go.RowKit

section
variable {H : Type} {enc : TypeId × Value → H} {P : Program}

theorem trodAll_below (hl : laidOutB P = true) {W W' : World} (hb : Below W.heap.size W W') (sp : Nat → Bool) :
  ∀ {ts : List TypeId} {vs : List Value} {ds : List (DataW H)} {ps : List MemPlace}, (ts.all fun t => P.readableRec t && decide (t < P.types.size)) = true →
  DataW.TrodAll enc P W 0 (fun _ => true) true ts vs ds ps → (∀ x ∈ ps, x.block < W.heap.size) → (∀ p ∈ ps, sp p.block = true) → DataW.TrodAll enc P W' 0 sp true ts vs ds ps
 | [], vs, ds, ps, _, h, _, _ => by
  obtain ⟨rfl, rfl, rfl⟩ := trodAll_nil h
  exact trodAll_mk0
 | t :: ts, vs, ds, ps, hr, h, hlt, hs => by
  simp only [List.all_cons, Bool.and_eq_true, decide_eq_true_eq] at hr
  obtain ⟨v, vs', d, ds', p, q, rfl, rfl, rfl, h0, hr0⟩ := trodAll_cons h
  refine trodAll_cons_mk (WideElems.Trod_stays hl hr.1.1 hr.1.2 h0 (fun x hx => hb.same (hlt x (by simp [hx]))) (fun x hx => hs x (by simp [hx]))) ?_
  exact trodAll_below hl hb sp hr.2 hr0 (fun x hx => hlt x (by simp [hx])) (fun x hx => hs x (by simp [hx]))

theorem law_post {f : Func} {s : ChangeSpec} {apart fresh handsOn : Bool} {W W' : World} {args : Array Value} {ds : List (DataW H)} {p : List MemPlace} {tb : TypeId}
  (hvars : s.vars = []) (hW : DataW.Whole enc P f.params.toList s.vars apart W args.toList ds [] p)
  (hA : DataW.TrodAll enc P W 0 (fun _ => true) true f.params.toList args.toList ds p)
  (hs1 : (s.fn H (ds ++ [])).results = [.lit (.bool true)]) (hs2 : (s.fn H (ds ++ [])).args = ds) (hs3 : (s.fn H (ds ++ [])).vars = [])
  (hl : laidOutB P = true) (hr : (f.params.toList.all fun t => P.readableRec t && decide (t < P.types.size)) = true)
  (htb : f.resultTypes = #[tb]) (hb2 : P.underlying tb = some .bool) (hb : Below W.heap.size W W') :
  s.post enc P f apart fresh handsOn false W args (.bool true) W' := by
 have hlt : ∀ x ∈ p, x.block < W.heap.size := fun x hx => hW.lt x hx
 refine ⟨ds, [], p, [], p, [], hW, ?_, ?_, ?_, hb.frame _, fun h => by cases h⟩
 ·
  rw [hs1, htb]; exact trodAll_mk1 (shut_bool hb2 _)
 ·
  rw [hs2]; exact trodAll_below hl hb _ hr hA hlt (fun x hx => by simpa using hlt x hx)
 ·
  rw [hs3, hvars]; rfl
end
end Go.Proofs.YthljdhfgphebnaaGreat.Frame

namespace Go.Proofs.YthljdhfgphebnaaGreat
theorem share3 {T : Prop} {a0 a1 a2 : Type} {G : a0 → a1 → a2 → Prop} (main : (∀ x0 x1 x2, G x0 x1 x2) → T) (pf : ∀ x0 x1 x2, G x0 x1 x2) : T := main pf
end Go.Proofs.YthljdhfgphebnaaGreat

namespace Go.Proofs.YthljdhfgphebnaaGreat.L1
open Go.ChangeShapes Go.WideShapes Go.ChangeAt Go.RowKit

def inB (n lo hi : Int) : Bool := decide (lo ≤ n) && decide (n ≤ hi)
theorem inB_true {n lo hi : Int} : inB n lo hi = true ↔ lo ≤ n ∧ n ≤ hi := by unfold inB; simp
theorem inB_false {n lo hi : Int} : inB n lo hi = false ↔ ¬ (lo ≤ n ∧ n ≤ hi) := by
  rw [← inB_true]; simp

theorem ret_bool {a b : Bool} (h : a = b) : Ending.returned (.bool a) = .returned (.bool b) := by rw [h]
theorem inRange_any (n lo hi : Int) (w : World) :
    Calls Tryz.prog 46 #[.int .i64 n, .int .i64 lo, .int .i64 hi] w fun e w' => e = .returned (.bool (inB n lo hi)) ∧ w = w' := by
  by_cases h1 : lo ≤ n <;> by_cases h2 : n ≤ hi <;>
    (go_enter Tryz.func46, Tryz.ntmps46
     go_wp2
     go_ret
     exact ⟨ret_bool (by unfold inB; simp [h1, h2]), rfl⟩)

theorem l1In_any (n lo hi : Int) (w : World) :
    Calls Tryz.prog 65 #[.int .i64 n, .int .i64 lo, .int .i64 hi] w fun e w' => e = .returned (.bool (inB n lo hi)) ∧ w = w' := by
  by_cases h1 : lo ≤ n <;> by_cases h2 : n ≤ hi <;>
    (go_enter Tryz.func65, Tryz.ntmps65
     go_wp2
     go_ret
     exact ⟨ret_bool (by unfold inB; simp [h1, h2]), rfl⟩)


end Go.Proofs.YthljdhfgphebnaaGreat.L1

namespace Go.Proofs.YthljdhfgphebnaaGreat.Mem
open Go.RowKit

def Row (w : World) (g : Nat) (t : TypeId) (cs : Array Value) : Prop := w.heap[g]? = some (.cells cs t (0, 0))

section
variable {w w' : World} {g : Nat} {t : TypeId} {cs : Array Value}
theorem Row.inside (h : Row w g t cs) : g < w.heap.size := (Array.getElem?_eq_some_iff.1 h).1
theorem Row.cell (h : Row w g t cs) (i : Nat) : w.cell? ⟨g, i, none⟩ = cs[i]? := cell_of_row w g i cs t (0, 0) h
theorem Row.free (h : Row w g t cs) (i : Nat) : w.frozen? ⟨g, i, none⟩ = false := by
 have h' : w.heap[g]? = some (.cells cs t (0, 0)) := h
 simp [World.frozen?, h']
theorem Row.made (w : World) (t : TypeId) (cs : Array Value) : Row (w.alloc (.cells cs t)) w.heap.size t cs := heap_alloc_new w _
theorem Row.more (h : Row w g t cs) (o : Obj) : Row (w.alloc o) g t cs := (Below.heap_alloc w o g h.inside).trans h
theorem Row.put (h : Row w g t cs) (i : Nat) (u : Value) : Row (w.setCell ⟨g, i, none⟩ u) g t (cs.setIfInBounds i u) := by
 have h' : w.heap[g]? = some (.cells cs t (0, 0)) := h
 show (w.setCell ⟨g, i, none⟩ u).heap[g]? = _
 simp [World.setCell, Array.getElem?_modify, h']
theorem Row.grown {row : Option Nat} (h : Row w g t cs) (hb : w.grownBy w' row) (hg : some g ≠ row) : Row w' g t cs := (hb.block g h.inside hg).trans h
theorem Row.below {B : Nat} (h : Row w g t cs) (hb : Below B w w') (hg : g < B) : Row w' g t cs := (hb.block g hg).trans h
end

theorem grownBy_refl (w : World) (row : Option Nat) : w.grownBy w row := ⟨rfl, rfl, rfl, Nat.le_refl _, fun _ _ _ => rfl⟩
theorem grownBy_put (w : World) (g i : Nat) (u : Value) : w.grownBy (w.setCell ⟨g, i, none⟩ u) (some g) :=
 ⟨rfl, rfl, rfl, by simp [World.setCell], fun k _ hne => Below.heap_setCell _ _ _ _ (fun e => hne (by subst e; rfl))⟩
theorem add_block (a : Addr) (n : Nat) : (a.add n).block = a.block := by unfold Addr.add; split <;> rfl

def Bytes (w : World) (B : Nat) (a : Option Addr) (len : Nat) : Prop :=
 ∀ j, j < len → ∃ ad n, a = some ad ∧ ad.block < B ∧ w.cell? (ad.add j) = some (.int .u8 n) ∧ 0 ≤ n ∧ n ≤ 255

theorem Bytes.below {w w' : World} {B : Nat} {a : Option Addr} {len : Nat} (h : Bytes w B a len) (hb : Below B w w') : Bytes w' B a len := fun j hj => by
 obtain ⟨ad, n, e, hB, hc, h0, h1⟩ := h j hj
 exact ⟨ad, n, e, hB, by rw [hb.cell (by rw [add_block]; exact hB)]; exact hc, h0, h1⟩

end Go.Proofs.YthljdhfgphebnaaGreat.Mem

namespace Go.Proofs.YthljdhfgphebnaaGreat.Args
open Go.ChangeShapes Go.WideShapes Go.ChangeAt Go.RowKit Mem

def Holds (w : World) (B : Nat) (a : Option Addr) (l : List UInt8) : Prop :=
 ∀ j (hj : j < l.length), ∃ ad, a = some ad ∧ ad.block < B ∧ w.cell? (ad.add j) = some (.int .u8 (l[j].toNat : Int))
theorem Holds.bytes {w : World} {B : Nat} {a : Option Addr} {l : List UInt8} (h : Holds w B a l) : Bytes w B a l.length := fun j hj => by
 obtain ⟨ad, e, hb, hc⟩ := h j hj
 exact ⟨ad, _, e, hb, hc, by omega, by have := l[j].toNat_lt; omega⟩
theorem Holds.below {w w' : World} {B : Nat} {a : Option Addr} {l : List UInt8} (h : Holds w B a l) (hb : Below B w w') : Holds w' B a l := fun j hj => by
 obtain ⟨ad, e, hB, hc⟩ := h j hj
 exact ⟨ad, e, hB, by rw [hb.cell (by rw [add_block]; exact hB)]; exact hc⟩

section
variable {H : Type} {enc : TypeId × Value → H} {P : Program}

end
end Go.Proofs.YthljdhfgphebnaaGreat.Args

namespace Go.Proofs.YthljdhfgphebnaaGreat.Sl
open Go.ChangeShapes Go.WideShapes Go.ChangeAt Go.RowKit Mem

def Reads (w : World) (B : Nat) (a : Option Addr) (l : List Value) : Prop :=
 ∀ j (hj : j < l.length), ∃ ad, a = some ad ∧ ad.block < B ∧ w.cell? (ad.add j) = some l[j]

def ints (k : IntKind) (l : List Int) : List Value := l.map (Value.int k)
@[simp] theorem ints_length (k : IntKind) (l : List Int) : (ints k l).length = l.length := List.length_map ..
theorem ints_get (k : IntKind) (l : List Int) (j : Nat) (h : j < l.length) : (ints k l)[j]'(by simpa using h) = .int k l[j] := List.getElem_map ..
theorem add_add (a : Addr) (i j : Nat) : (a.add i).add j = a.add (i + j) := by
 unfold Addr.add
 by_cases hi : i = 0 <;> by_cases hj : j = 0 <;> simp [hi, hj, Nat.add_assoc]

section
variable {w w' : World} {B B' : Nat} {a : Option Addr} {l : List Value}
theorem Reads.nil : Reads w B a [] := fun _ hj => absurd hj (by simp)
theorem Reads.keep (h : Reads w B a l) (hk : ∀ p : Addr, p.block < B → w'.cell? p = w.cell? p) : Reads w' B a l := fun j hj => by
 obtain ⟨ad, e, hb, hc⟩ := h j hj
 exact ⟨ad, e, hb, (hk _ (by rw [add_block]; exact hb)).trans hc⟩
theorem Reads.below (h : Reads w B a l) (hb : Below B w w') : Reads w' B a l := h.keep fun _ hp => hb.cell hp
theorem Reads.more (h : Reads w B a l) (hB : B ≤ B') : Reads w B' a l := fun j hj => by
 obtain ⟨ad, e, hb, hc⟩ := h j hj
 exact ⟨ad, e, by omega, hc⟩
theorem Reads.at_ (h : Reads w B a l) (j : Nat) (hj : j < l.length) : ∃ ad, a = some ad ∧ ad.block < B ∧ w.cell? (ad.add j) = some l[j] := h j hj
theorem Reads.int {k : IntKind} {l : List Int} (h : Reads w B a (ints k l)) (j : Nat) (hj : j < l.length) : ∃ ad, a = some ad ∧ ad.block < B ∧ w.cell? (ad.add j) = some (.int k l[j]) := by
 obtain ⟨ad, e, hb, hc⟩ := h j (by simpa using hj)
 exact ⟨ad, e, hb, by rw [hc, ints_get k l j hj]⟩
end

def Own (w : World) (B : Nat) (e : TypeId) (k : IntKind) (a : Option Addr) (c : Nat) (l : List Int) : Prop :=
 w.ownsRow B e 1 (.slice a l.length c) l.length (ints k l)

section
variable {w w' : World} {B B' : Nat} {e : TypeId} {k : IntKind} {a : Option Addr} {c : Nat} {l : List Int}
theorem Own.form (h : Own w B e k a c l) : (a = none ∧ l = [] ∧ c = 0) ∨ ∃ g, a = some ⟨g, 0, none⟩ ∧ B ≤ g ∧ g < w.heap.size ∧ l.length ≤ c ∧ c ≤ maxLen := by
 rcases h.2 with ⟨hv, hn⟩ | ⟨g, cap, cur, hv, hb, hg, h1, h2, _⟩
 ·
  injection hv with h1 h2 h3
  exact .inl ⟨h1, List.eq_nil_of_length_eq_zero hn, h3⟩
 ·
  injection hv with h3 h4 h5
  exact .inr ⟨g, h3, hb, (Array.getElem?_eq_some_iff.1 hg).1, by omega, by omega⟩
theorem Own.reads (h : Own w B e k a c l) : Reads w w.heap.size a (ints k l) := fun j hj => by
 rcases h.form with ⟨_, rfl, _⟩ | ⟨g, rfl, hb, hg, _⟩
 ·
  simp [ints] at hj
 ·
  exact ⟨_, rfl, hg, h.cells (g := g) rfl j _ (List.getElem?_eq_getElem hj)⟩
theorem Own.cap (h : Own w B e k a c l) : l.length ≤ c := by
 rcases h.form with ⟨_, rfl, _⟩ | ⟨g, rfl, hb, hg, h1, _⟩
 ·
  simp
 ·
  exact h1
theorem Own.base (h : Own w B e k a c l) (hB : B' ≤ B) : Own w B' e k a c l := by
 refine ⟨h.1, ?_⟩
 rcases h.2 with hv | ⟨g, cap, cur, hv, hb, r⟩
 ·
  exact .inl hv
 ·
  exact .inr ⟨g, cap, cur, hv, by omega, r⟩
theorem Own.lift (h : Own w B e k a c l) (hB : ∀ b ∈ (Value.slice a l.length c).ownBlock.toList, B' ≤ b) : Own w B' e k a c l := by
 refine ⟨h.1, ?_⟩
 rcases h.2 with hv | ⟨g, cap, cur, hv, hb, r⟩
 ·
  exact .inl hv
 ·
  exact .inr ⟨g, cap, cur, hv, hB g (by rw [hv]; simp [Value.ownBlock]), r⟩
theorem Own.below (h : Own w B e k a c l) (hb : Below w.heap.size w w') : Own w' B e k a c l := by
 refine ⟨h.1, ?_⟩
 rcases h.2 with hv | ⟨g, cap, cur, hv, hB, hg, r⟩
 ·
  exact .inl hv
 ·
  exact .inr ⟨g, cap, cur, hv, hB, (hb.block g (Array.getElem?_eq_some_iff.1 hg).1).trans hg, r⟩
theorem Own.empty (w : World) (e : TypeId) (k : IntKind) (hB : B ≤ w.heap.size) : Own (w.alloc (.cells #[] e)) B e k (some ⟨w.heap.size, 0, none⟩) 0 [] :=
 World.ownsRow_made w #[] 0 hB (Nat.zero_le _) rfl
end

def Gave (w : World) (B : Nat) (e : TypeId) (k : IntKind) (l : List Int) (en : Ending) (w' : World) : Prop := ∃ a c, en = .returned (.slice a l.length c) ∧ Own w' B e k a c l ∧ Below B w w'
theorem Gave.mk {w w' : World} {B : Nat} {e : TypeId} {k : IntKind} {l : List Int} {a : Option Addr} {c n : Nat} (hn : n = l.length) (ho : Own w' B e k a c l) (hb : Below B w w') : Gave w B e k l (.returned (.slice a n c)) w' := ⟨a, c, by rw [hn], ho, hb⟩


structure Res where
 fp : List Nat
 is : World → Prop
 loc : ∀ {w w' : World}, (∀ b ∈ fp, w'.heap[b]? = w.heap[b]?) → is w → is w'

def own (e : TypeId) (k : IntKind) (a : Option Addr) (c : Nat) (l : List Int) : Res where
 fp := (Value.slice a l.length c).ownBlock.toList
 is w := Own w 0 e k a c l
 loc := fun hs h => ⟨h.1, by
  rcases h.2 with hv | ⟨g, cap, cur, hv, hB, hg, r⟩
  ·
   exact .inl hv
  ·
   exact .inr ⟨g, cap, cur, hv, hB, (hs g (by rw [hv]; simp [Value.ownBlock])).trans hg, r⟩⟩

structure Turned (fp : List Nat) (w w' : World) : Prop where
 os : w'.os = w.os
 tape : w'.tape = w.tape
 output : w'.output = w.output
 size : w.heap.size ≤ w'.heap.size
 block : ∀ b, b < w.heap.size → b ∉ fp → w'.heap[b]? = w.heap[b]?
theorem Turned.of_grown {w w' : World} {r : Option Nat} (h : w.grownBy w' r) : Turned r.toList w w' :=
 ⟨h.os, h.tape, h.output, h.size, fun b hb hn => h.block b hb (fun e => hn (by rw [← e]; simp))⟩
theorem Turned.refl (fp : List Nat) (w : World) : Turned fp w w := ⟨rfl, rfl, rfl, Nat.le_refl _, fun _ _ _ => rfl⟩
theorem Turned.trans {fp : List Nat} {w w1 w2 : World} (h : Turned fp w w1) (k : Turned fp w1 w2) : Turned fp w w2 :=
 ⟨k.os.trans h.os, k.tape.trans h.tape, k.output.trans h.output, Nat.le_trans h.size k.size, fun b hb hn => (k.block b (Nat.lt_of_lt_of_le hb h.size) hn).trans (h.block b hb hn)⟩
theorem Turned.below {fp : List Nat} {w w' : World} {B : Nat} (h : Turned fp w w') (hB : B ≤ w.heap.size) (hf : ∀ b ∈ fp, B ≤ b) : Below B w w' :=
 ⟨h.os, h.tape, h.output, h.size, fun b hb => h.block b (by omega) (fun hm => by have := hf b hm; omega)⟩

structure Sep (W w : World) (rs : List Res) : Prop where
 old : Below W.heap.size W w
 is : ∀ (i : Nat) (r : Res), rs[i]? = some r → r.is w
 lies : ∀ (i : Nat) (r : Res), rs[i]? = some r → ∀ b ∈ r.fp, W.heap.size ≤ b ∧ b < w.heap.size
 apart : ∀ (i j : Nat) (r s : Res), rs[i]? = some r → rs[j]? = some s → i ≠ j → ∀ b ∈ r.fp, b ∉ s.fp

section
variable {W w w' : World} {rs : List Res} {r r' : Res}
theorem Sep.start (W : World) : Sep W W [] := ⟨Below.refl _ _, fun i r h => by simp at h, fun i r h => by simp at h, fun i j r s h => by simp at h⟩
theorem Sep.keep (h : Sep W w rs) (hb : Below w.heap.size w w') : Sep W w' rs :=
 ⟨h.old.trans (hb.mono h.old.size), fun i r hi => r.loc (fun b hm => hb.block b (h.lies i r hi b hm).2) (h.is i r hi), fun i r hi b hm => ⟨(h.lies i r hi b hm).1, Nat.lt_of_lt_of_le (h.lies i r hi b hm).2 hb.size⟩, h.apart⟩
theorem Sep.push (h : Sep W w rs) (hb : Below w.heap.size w w') (hr : r.is w') (hf : ∀ b ∈ r.fp, w.heap.size ≤ b ∧ b < w'.heap.size) : Sep W w' (rs ++ [r]) := by
 have hk := h.keep hb
 have hsz := h.old.size
 have hlast : ∀ (i : Nat) (s : Res), (rs ++ [r])[i]? = some s → (rs[i]? = some s ∧ i < rs.length) ∨ (s = r ∧ i = rs.length) := fun i s hi => by
  rcases Nat.lt_trichotomy i rs.length with hl | hl | hl
  ·
   rw [List.getElem?_append_left hl] at hi
   exact .inl ⟨hi, hl⟩
  ·
   subst hl
   simp at hi
   exact .inr ⟨hi.symm, rfl⟩
  ·
   rw [List.getElem?_eq_none (by simp; omega)] at hi
   cases hi
 refine ⟨hk.old, fun i s hi => ?_, fun i s hi => ?_, fun i j s t hi hj hne => ?_⟩
 ·
  rcases hlast i s hi with ⟨h1, _⟩ | ⟨rfl, _⟩
  ·
   exact hk.is i s h1
  ·
   exact hr
 ·
  rcases hlast i s hi with ⟨h1, _⟩ | ⟨rfl, _⟩
  ·
   exact hk.lies i s h1
  ·
   exact fun b hm => ⟨by have := (hf b hm).1; omega, (hf b hm).2⟩
 ·
  rcases hlast i s hi with ⟨h1, e1⟩ | ⟨rfl, e1⟩ <;> rcases hlast j t hj with ⟨h2, e2⟩ | ⟨rfl, e2⟩
  ·
   exact h.apart i j s t h1 h2 hne
  ·
   exact fun b hm hm2 => by have := (h.lies i s h1 b hm).2; have := (hf b hm2).1; omega
  ·
   exact fun b hm hm2 => by have := (h.lies j t h2 b hm2).2; have := (hf b hm).1; omega
  ·
   omega
theorem Sep.put (h : Sep W w rs) (i : Nat) (hi : rs[i]? = some r) (ht : Turned r.fp w w') (hr : r'.is w') (hf : ∀ b ∈ r'.fp, b ∈ r.fp) : Sep W w' (rs.set i r') := by
 have hlt : i < rs.length := (List.getElem?_eq_some_iff.1 hi).1
 have hcase : ∀ (j : Nat) (s : Res), (rs.set i r')[j]? = some s → (j ≠ i ∧ rs[j]? = some s) ∨ (j = i ∧ s = r') := fun j s hj => by
  rw [List.getElem?_set] at hj
  by_cases e : i = j
  ·
   subst e
   rw [if_pos rfl, if_pos hlt] at hj
   exact .inr ⟨rfl, (Option.some.inj hj).symm⟩
  ·
   rw [if_neg e] at hj
   exact .inl ⟨fun e' => e e'.symm, hj⟩
 refine ⟨h.old.trans (ht.below h.old.size (fun b hm => (h.lies i r hi b hm).1)), fun j s hj => ?_, fun j s hj b hm => ?_, fun j k s t hj hk hne b hm hm2 => ?_⟩
 ·
  rcases hcase j s hj with ⟨hne, h1⟩ | ⟨rfl, rfl⟩
  ·
   exact s.loc (fun b hm => ht.block b (h.lies j s h1 b hm).2 (h.apart j i s r h1 hi hne b hm)) (h.is j s h1)
  ·
   exact hr
 ·
  rcases hcase j s hj with ⟨hne, h1⟩ | ⟨rfl, rfl⟩
  ·
   exact ⟨(h.lies j s h1 b hm).1, Nat.lt_of_lt_of_le (h.lies j s h1 b hm).2 ht.size⟩
  ·
   exact ⟨(h.lies _ r hi b (hf b hm)).1, Nat.lt_of_lt_of_le (h.lies _ r hi b (hf b hm)).2 ht.size⟩
 ·
  rcases hcase j s hj with ⟨hne1, h1⟩ | ⟨rfl, rfl⟩ <;> rcases hcase k t hk with ⟨hne2, h2⟩ | ⟨rfl, rfl⟩
  ·
   exact h.apart j k s t h1 h2 hne b hm hm2
  ·
   exact h.apart j _ s r h1 hi hne1 b hm (hf b hm2)
  ·
   exact h.apart k _ t r h2 hi hne2 b hm2 (hf b hm)
  ·
   exact hne rfl
theorem Sep.own {e : TypeId} {k : IntKind} {a : Option Addr} {c : Nat} {l : List Int} (h : Sep W w rs) (i : Nat) (hi : rs[i]? = some (Sl.own e k a c l)) : Own w 0 e k a c l := h.is i _ hi
theorem Sep.drews (h : Sep W w rs) (n : Nat) : Sep W (w.drewN n) rs := h.keep ⟨rfl, rfl, rfl, Nat.le_refl _, fun _ _ => rfl⟩
theorem Sep.alloc (h : Sep W w rs) (o : Obj) : Sep W (w.alloc o) rs := h.keep ((Below.refl _ _).alloc (Nat.le_refl _) o)
end

section
variable {P : Program} (w : World)
end

end Go.Proofs.YthljdhfgphebnaaGreat.Sl

namespace Go.Proofs.YthljdhfgphebnaaGreat.Ex
open Go.ChangeShapes Go.WideShapes Go.ChangeAt Go.RowKit Mem Sl

def marks (kd : IntKind) (k : Int) (n : Nat) : List Int := (List.range n).map fun (i : Nat) => kd.wrap (k + (i : Int))
@[simp] theorem marks_length (kd : IntKind) (k : Int) (n : Nat) : (marks kd k n).length = n := by simp [marks]
theorem infoOf (e : TypeId) (z : Value) (s b : Nat) (h : (Tryz.prog.info? e).map (fun i => (i.zero, i.size, i.bytes)) = some (some z, s, b)) : ∃ i, Tryz.prog.info? e = some i ∧ i.zero = some z ∧ i.size = s ∧ i.bytes = b := info_parts h

def Drew (w w' : World) : Prop := ∃ n, w' = w.drewN n
theorem Drew.refl (w : World) : Drew w w := ⟨0, rfl⟩
theorem Drew.more {w w1 : World} (h : Drew w w1) (n : Nat) : Drew w (w1.drewN n) := by
 obtain ⟨m, rfl⟩ := h
 exact ⟨m + n, World.drewN_drewN ..⟩
theorem Drew.below {w w' : World} (h : Drew w w') (B : Nat) : Below B w w' := by
 obtain ⟨n, rfl⟩ := h
 exact ⟨rfl, rfl, rfl, Nat.le_refl _, fun _ _ => rfl⟩
theorem Drew.trans {w w1 w2 : World} (h : Drew w w1) (k : Drew w1 w2) : Drew w w2 := by
 obtain ⟨n, rfl⟩ := k
 exact h.more n

end Go.Proofs.YthljdhfgphebnaaGreat.Ex

namespace Go.Proofs.YthljdhfgphebnaaGreat.L2

def uv (n : Nat) : List Int := if n < 128 then [(n : Int)] else ((n % 128 + 128 : Nat) : Int) :: uv (n / 128)
termination_by n
decreasing_by omega
def enc (n : Int) : List Int := if L1.inB n 0 1000000000000 = true then uv n.toNat else []
def rdAux : Nat → Int → List Int → Option (Int × Nat)
 | _, _, [] => none
 | k, v, c :: s =>
  if 6 ≤ k then none
  else if c < 128 then (if (c = 0 ∧ 0 < k) ∨ 1000000000000 < v + c % 128 * 128 ^ k then none else some (v + c % 128 * 128 ^ k, k + 1))
  else rdAux (k + 1) (v + c % 128 * 128 ^ k) s
def rd (l : List Int) (off : Int) : Option (Int × Nat) := if 0 ≤ off then rdAux 0 0 (l.drop off.toNat) else none
def rdN (l : List Int) (off : Int) : Int := match rd l off with | some (v, _) => v | none => 0
def rdE (l : List Int) (off : Int) : Int := match rd l off with | some (_, m) => off + m | none => 0
def rdB (l : List Int) (off : Int) : Bool := (rd l off).isSome

theorem rdN_of {l : List Int} {off v : Int} {m : Nat} (h : rd l off = some (v, m)) : rdN l off = v := by unfold rdN; rw [h]
theorem rdE_of {l : List Int} {off v : Int} {m : Nat} (h : rd l off = some (v, m)) : rdE l off = off + m := by unfold rdE; rw [h]
theorem rdB_of {l : List Int} {off v : Int} {m : Nat} (h : rd l off = some (v, m)) : rdB l off = true := by unfold rdB; rw [h]; rfl
end Go.Proofs.YthljdhfgphebnaaGreat.L2

namespace Go.Proofs.YthljdhfgphebnaaGreat.L2
open Go.ChangeShapes Go.WideShapes Go.ChangeAt Go.RowKit Mem Sl Ex

theorem info8 : (Tryz.prog.info? 5).map (fun i => (i.zero, i.size, i.bytes)) = some (some (.int .u8 0), 1, 1) := by kernel_rfl

theorem below_alloc {B : Nat} {w w' : World} (h : Below B w w') (o : Obj) (hB : B ≤ w.heap.size) : Below B w (w'.alloc o) := h.alloc (Nat.le_trans hB h.size) o
end Go.Proofs.YthljdhfgphebnaaGreat.L2

namespace Go.Proofs.YthljdhfgphebnaaGreat.Law
open Go.ChangeShapes Go.WideShapes Go.ChangeAt Go.RowKit Mem Sl Ex

section
variable {H : Type} {enc : TypeId × Value → H} {P : Program}
theorem wf_i64 {n : Int} (h : (Lit.int .i64 n).wf = true) : -9223372036854775808 ≤ n ∧ n ≤ 9223372036854775807 := by
 simpa [Lit.wf, IntKind.min, IntKind.max, IntKind.signed, IntKind.bits] using h
end

theorem Sep.drew {W w w' : World} {rs : List Res} (h : Sep W w rs) (hd : Drew w w') : Sep W w' rs := h.keep (hd.below _)

end Go.Proofs.YthljdhfgphebnaaGreat.Law

namespace Go.Proofs.YthljdhfgphebnaaGreat.Sd
open Go.ChangeShapes Go.WideShapes Go.ChangeAt Go.RowKit Mem Sl Ex Draw

section
variable {W w w' : World} {rs : List Res} {r r' : Res}
theorem put_new (h : Sep W w rs) (i : Nat) (hi : rs[i]? = some r) (ht : Turned r.fp w w') (hr : r'.is w') (hf : ∀ b ∈ r'.fp, b ∈ r.fp ∨ (w.heap.size ≤ b ∧ b < w'.heap.size)) : Sep W w' (rs.set i r') := by
 have hlt : i < rs.length := (List.getElem?_eq_some_iff.1 hi).1
 have hsz := h.old.size
 have hcase : ∀ (j : Nat) (s : Res), (rs.set i r')[j]? = some s → (j ≠ i ∧ rs[j]? = some s) ∨ (j = i ∧ s = r') := fun j s hj => by
  rw [List.getElem?_set] at hj
  by_cases e : i = j
  ·
   subst e
   rw [if_pos rfl, if_pos hlt] at hj
   exact .inr ⟨rfl, (Option.some.inj hj).symm⟩
  ·
   rw [if_neg e] at hj
   exact .inl ⟨fun e' => e e'.symm, hj⟩
 refine ⟨h.old.trans (ht.below h.old.size (fun b hm => (h.lies i r hi b hm).1)), fun j s hj => ?_, fun j s hj b hm => ?_, fun j k s t hj hk hne b hm hm2 => ?_⟩
 ·
  rcases hcase j s hj with ⟨hne, h1⟩ | ⟨rfl, rfl⟩
  ·
   exact s.loc (fun b hm => ht.block b (h.lies j s h1 b hm).2 (h.apart j i s r h1 hi hne b hm)) (h.is j s h1)
  ·
   exact hr
 ·
  rcases hcase j s hj with ⟨hne, h1⟩ | ⟨rfl, rfl⟩
  ·
   exact ⟨(h.lies j s h1 b hm).1, Nat.lt_of_lt_of_le (h.lies j s h1 b hm).2 ht.size⟩
  ·
   rcases hf b hm with h2 | h2
   ·
    exact ⟨(h.lies _ r hi b h2).1, Nat.lt_of_lt_of_le (h.lies _ r hi b h2).2 ht.size⟩
   ·
    exact ⟨by omega, h2.2⟩
 ·
  rcases hcase j s hj with ⟨hne1, h1⟩ | ⟨rfl, rfl⟩ <;> rcases hcase k t hk with ⟨hne2, h2⟩ | ⟨rfl, rfl⟩
  ·
   exact h.apart j k s t h1 h2 hne b hm hm2
  ·
   rcases hf b hm2 with h3 | h3
   ·
    exact h.apart j _ s r h1 hi hne1 b hm h3
   ·
    have := (h.lies j s h1 b hm).2; omega
  ·
   rcases hf b hm with h3 | h3
   ·
    exact h.apart k _ t r h2 hi hne2 b hm2 h3
   ·
    have := (h.lies k t h2 b hm2).2; omega
  ·
   exact hne rfl
end

section
variable {W w w' : World} {rs : List Res} {c : Nat}
end

section
variable {W w : World} {rs : List Res} {c : Nat}
end

section
variable {P : Program} (w : World)
end

end Go.Proofs.YthljdhfgphebnaaGreat.Sd

namespace Go.Proofs.YthljdhfgphebnaaGreat.Sv
open Go.ChangeShapes Go.WideShapes Go.ChangeAt Go.RowKit Mem Sl

def OwnV (w : World) (B : Nat) (e : TypeId) (k : Nat) (a : Option Addr) (c n : Nat) (xs : List Value) : Prop := w.ownsRow B e k (.slice a n c) n xs

section
variable {w w' : World} {B B' : Nat} {e : TypeId} {k : Nat} {a : Option Addr} {c n : Nat} {xs : List Value}
theorem OwnV.len (h : OwnV w B e k a c n xs) : xs.length = n * k := h.1
theorem OwnV.form (h : OwnV w B e k a c n xs) : (a = none ∧ n = 0 ∧ xs = [] ∧ c = 0) ∨ ∃ g, a = some ⟨g, 0, none⟩ ∧ B ≤ g ∧ g < w.heap.size ∧ n ≤ c ∧ c ≤ maxLen := by
 rcases h.2 with ⟨hv, hn⟩ | ⟨g, cap, cur, hv, hb, hg, h1, h2, _⟩
 ·
  injection hv with h1 h2 h3
  exact .inl ⟨h1, hn, List.eq_nil_of_length_eq_zero (by rw [h.1, hn, Nat.zero_mul]), h3⟩
 ·
  injection hv with h3 h4 h5
  exact .inr ⟨g, h3, hb, (Array.getElem?_eq_some_iff.1 hg).1, by omega, by omega⟩
theorem OwnV.cap (h : OwnV w B e k a c n xs) : n ≤ c := by
 rcases h.form with ⟨_, rfl, _⟩ | ⟨g, rfl, hb, hg, h1, _⟩
 ·
  simp
 ·
  exact h1
theorem OwnV.reads (h : OwnV w B e k a c n xs) : Reads w w.heap.size a xs := fun j hj => by
 rcases h.form with ⟨_, _, rfl, _⟩ | ⟨g, rfl, hb, hg, _⟩
 ·
  simp at hj
 ·
  exact ⟨_, rfl, hg, World.ownsRow.cells (g := g) h rfl j _ (List.getElem?_eq_getElem hj)⟩
theorem OwnV.base (h : OwnV w B e k a c n xs) (hB : B' ≤ B) : OwnV w B' e k a c n xs := by
 refine ⟨h.1, ?_⟩
 rcases h.2 with hv | ⟨g, cap, cur, hv, hb, r⟩
 ·
  exact .inl hv
 ·
  exact .inr ⟨g, cap, cur, hv, by omega, r⟩
theorem OwnV.lift (h : OwnV w B e k a c n xs) (hB : ∀ b ∈ (Value.slice a n c).ownBlock.toList, B' ≤ b) : OwnV w B' e k a c n xs := by
 refine ⟨h.1, ?_⟩
 rcases h.2 with hv | ⟨g, cap, cur, hv, hb, r⟩
 ·
  exact .inl hv
 ·
  exact .inr ⟨g, cap, cur, hv, hB g (by rw [hv]; simp [Value.ownBlock]), r⟩
theorem OwnV.below (h : OwnV w B e k a c n xs) (hb : Below w.heap.size w w') : OwnV w' B e k a c n xs := by
 refine ⟨h.1, ?_⟩
 rcases h.2 with hv | ⟨g, cap, cur, hv, hB, hg, r⟩
 ·
  exact .inl hv
 ·
  exact .inr ⟨g, cap, cur, hv, hB, (hb.block g (Array.getElem?_eq_some_iff.1 hg).1).trans hg, r⟩
theorem OwnV.alloc (h : OwnV w B e k a c n xs) (o : Obj) : OwnV (w.alloc o) B e k a c n xs := h.below ((Below.refl _ _).alloc (Nat.le_refl _) o)
theorem OwnV.nil (w : World) (B : Nat) (e : TypeId) (k : Nat) : OwnV w B e k none 0 0 [] := ⟨(Nat.zero_mul k).symm, .inl ⟨rfl, rfl⟩⟩
theorem OwnV.empty (w : World) (e : TypeId) (k : Nat) (hB : B ≤ w.heap.size) : OwnV (w.alloc (.cells #[] e)) B e k (some ⟨w.heap.size, 0, none⟩) 0 0 [] := by
 have := World.ownsRow_made (base := B) (e := e) (size := k) w #[] 0 hB (Nat.zero_le _) (Nat.zero_mul k).symm
 exact this
theorem OwnV.emptyAt (w : World) (e : TypeId) (k g : Nat) (hg : g = w.heap.size) (hB : B ≤ w.heap.size) : OwnV (w.alloc (.cells #[] e)) B e k (some ⟨g, 0, none⟩) 0 0 [] := by
 subst hg
 exact OwnV.empty w e k hB
theorem OwnV.madeAt (w : World) (e : TypeId) (k n g : Nat) (cs : Array Value) (hg : g = w.heap.size) (hB : B ≤ w.heap.size) (hn : cs.size = n * k) (hm : n ≤ maxLen) : OwnV (w.alloc (.cells cs e)) B e k (some ⟨g, 0, none⟩) n n cs.toList := by
 subst hg
 exact ⟨by simpa using hn, .inr ⟨w.heap.size, n, cs, rfl, hB, heap_alloc_new w _, Nat.le_refl _, hm, hn, by rw [← hn, ← Array.length_toList, List.take_length]⟩⟩
theorem OwnV.made (w : World) (e : TypeId) (k n : Nat) (cs : Array Value) (hB : B ≤ w.heap.size) (hn : cs.size = n * k) (hm : n ≤ maxLen) : OwnV (w.alloc (.cells cs e)) B e k (some ⟨w.heap.size, 0, none⟩) n n cs.toList :=
 ⟨by simpa using hn, .inr ⟨w.heap.size, n, cs, rfl, hB, heap_alloc_new w _, Nat.le_refl _, hm, hn, by rw [← hn, ← Array.length_toList, List.take_length]⟩⟩
theorem OwnV.far (h : OwnV w B e k a c n xs) (g j : Nat) (v : Value) (hg : g < B) : OwnV (w.setCell ⟨g, j, none⟩ v) B e k a c n xs := by
 refine ⟨h.1, ?_⟩
 rcases h.2 with hv | ⟨g', cap, cur, hv, hB, hg', r⟩
 ·
  exact .inl hv
 ·
  exact .inr ⟨g', cap, cur, hv, hB, (Below.heap_setCell w ⟨g, j, none⟩ v g' (by show g' ≠ g; omega)).trans hg', r⟩
theorem OwnV.cell {g : Nat} (h : OwnV w B e k (some ⟨g, 0, none⟩) c n xs) (j : Nat) (hj : j < xs.length) : w.cell? ⟨g, j, none⟩ = some xs[j] := by
 have := World.ownsRow.cells (g := g) h rfl j _ (List.getElem?_eq_getElem hj)
 rwa [Addr.add_lit, Nat.zero_add] at this
theorem OwnV.free {g : Nat} (h : OwnV w B e k (some ⟨g, 0, none⟩) c n xs) (j : Nat) : w.frozen? ⟨g, j, none⟩ = false := by
 rcases h.2 with ⟨hv, hn⟩ | ⟨g', cap, cur, hv, hb, hg, _⟩
 ·
  injection hv with h1; cases h1
 ·
  injection hv with h1
  injection h1 with h1
  injection h1 with h1
  subst h1
  simp [World.frozen?, hg]
theorem OwnV.set {g : Nat} (h : OwnV w B e k (some ⟨g, 0, none⟩) c n xs) (j : Nat) (hj : j < xs.length) (v : Value) : OwnV (w.setCell ⟨g, j, none⟩ v) B e k (some ⟨g, 0, none⟩) c n (xs.set j v) := by
 refine ⟨by simpa using h.1, ?_⟩
 rcases h.2 with ⟨hv, hn⟩ | ⟨g', cap, cur, hv, hb, hg, h1, h2, h3, h4⟩
 ·
  injection hv with h1; cases h1
 ·
  injection hv with e1 e2 e3
  injection e1 with e1
  injection e1 with e1
  subst e1
  refine .inr ⟨g, cap, cur.setIfInBounds j v, by rw [e3], hb, Row.put (w := w) (t := e) (cs := cur) hg j v, h1, h2, by simpa using h3, ?_⟩
  rw [Array.toList_setIfInBounds, List.take_set, h4]
end

def ownV (e : TypeId) (k : Nat) (a : Option Addr) (c n : Nat) (xs : List Value) : Res where
 fp := (Value.slice a n c).ownBlock.toList
 is w := OwnV w 0 e k a c n xs
 loc := fun hs h => ⟨h.1, by
  rcases h.2 with hv | ⟨g, cap, cur, hv, hB, hg, r⟩
  ·
   exact .inl hv
  ·
   exact .inr ⟨g, cap, cur, hv, hB, (hs g (by rw [hv]; simp [Value.ownBlock])).trans hg, r⟩⟩
section
variable {W w w' : World} {rs : List Res} {e : TypeId} {k : Nat} {a : Option Addr} {c n : Nat} {xs : List Value}
theorem own_at (h : Sep W w rs) (i : Nat) (hi : rs[i]? = some (ownV e k a c n xs)) : OwnV w 0 e k a c n xs := h.is i _ hi
theorem own_from (h : Sep W w rs) (i : Nat) (hi : rs[i]? = some (ownV e k a c n xs)) : OwnV w W.heap.size e k a c n xs :=
 (own_at h i hi).lift fun b hm => (h.lies i _ hi b hm).1
theorem push_own (h : Sep W w rs) (hb : Below w.heap.size w w') (ho : OwnV w' w.heap.size e k a c n xs) : Sep W w' (rs ++ [ownV e k a c n xs]) :=
 h.push hb (ho.base (Nat.zero_le _)) fun b hm => by
  rcases ho.form with ⟨rfl, _⟩ | ⟨g, rfl, h1, h2, _⟩
  ·
   simp [ownV, Value.ownBlock] at hm
  ·
   simp [ownV, Value.ownBlock] at hm
   subst hm
   exact ⟨h1, h2⟩
end

theorem sep_sub {W w : World} {rs ts : List Res} (h : Sep W w rs) (f : Nat → Nat) (hf : ∀ i r, ts[i]? = some r → rs[f i]? = some r) (hi : ∀ i j, i < ts.length → j < ts.length → f i = f j → i = j) : Sep W w ts :=
 ⟨h.old, fun i r hr => h.is (f i) r (hf i r hr), fun i r hr => h.lies (f i) r (hf i r hr), fun i j r s hr hs hne => h.apart (f i) (f j) r s (hf i r hr) (hf j s hs) (fun e => hne (hi i j (List.getElem?_eq_some_iff.1 hr).1 (List.getElem?_eq_some_iff.1 hs).1 e))⟩
section
variable {P : Program} (w : World)
theorem run_append_rows (B : Nat) (t ty e : TypeId) (i : TypeInfo) (z : Value) (k bytes : Nat) (ht : P.underlying t = some (.slice e)) (hi : P.info? e = some i) (hz : i.zero = some z)
  (hsize : i.size = k) (hby : i.bytes = bytes) (hzs : z.cells.size = k) (hk : 0 < k) (a : Option Addr) (c n : Nat) (xs : List Value) (hown : OwnV w B e k a c n xs)
  (B' : Nat) (A : Option Addr) (c' m : Nat) (ys : List Value) (hr : Reads w B' A ys) (hy : ys.length = m * k) (hone : ∀ u ∈ ys, u.oneCell' = true)
  (h63 : n + m ≤ maxLen) (hbytes : (n + m) * bytes ≤ 140737488355328) (hbase : B ≤ w.heap.size) :
  ∃ a1 c1 w', (Builtin.append_ #[t, t] ty #[.slice a n c, .slice A m c']).run P w = .ok (.slice a1 (n + m) c1) w' ∧ OwnV w' B e k a1 c1 (n + m) (xs ++ ys) ∧ w.grownBy w' (Value.slice a n c).ownBlock ∧ ∀ b, (Value.slice a1 (n + m) c1).ownBlock = some b → (Value.slice a n c).ownBlock = some b ∨ b = w.heap.size := by
 have fin : ∀ {v' : Value} {w' : World}, w'.ownsRow B e k v' (n + m) (xs ++ ys) → ∃ a1 c1, v' = .slice a1 (n + m) c1 ∧ OwnV w' B e k a1 c1 (n + m) (xs ++ ys) := by
  intro v' w' h
  rcases h.2 with ⟨rfl, hn⟩ | ⟨g, cap, cur, rfl, _⟩
  ·
   refine ⟨none, 0, by rw [hn], ?_⟩
   unfold OwnV
   rw [hn]
   rw [hn] at h
   exact h
  ·
   exact ⟨_, cap, rfl, h⟩
 rcases A with _ | ad
 ·
  have hm : ys = [] := by
   rcases ys with _ | ⟨x, ys⟩
   ·
    rfl
   ·
    obtain ⟨ad, h, _⟩ := hr 0 (by simp)
    cases h
  subst hm
  have hm0 : m = 0 := by
   rcases Nat.eq_zero_or_pos m with h | h
   ·
    exact h
   ·
    have := Nat.mul_pos h hk
    simp at hy
    omega
  subst hm0
  have hrun : (Builtin.append_ #[t, t] ty #[.slice a n c, .slice none 0 c']).run P w = .ok (.slice a n c) w := by
   rcases hown.form with ⟨rfl, rfl, _, rfl⟩ | ⟨g, rfl, _, _, h1, _⟩
   ·
    simp [Builtin.append_, run_underlying ht, sizeOf, typeInfo, hi, Builtin.lenOf, Builtin.firstCells]
   ·
    simp [Builtin.append_, run_underlying ht, sizeOf, typeInfo, hi, Builtin.lenOf, Builtin.firstCells, h1, storeCells]
  exact ⟨a, c, w, by simpa using hrun, by simpa using hown, grownBy_refl w _, fun b hb => .inl (by
   cases a with
   | none => simp [Value.ownBlock] at hb
   | some ad => simpa [Value.ownBlock] using hb)⟩
 ·
  have hcells : ∀ j u, ys[j]? = some u → w.cell? (ad.add j) = some u := by
   intro j u hu
   have hj := (List.getElem?_eq_some_iff.1 hu).1
   obtain ⟨ad', h, _, hc⟩ := hr j hj
   injection h with h
   subst h
   rw [hc, ← hu, List.getElem?_eq_getElem hj]
  obtain ⟨v', w', hrun, h2, h3, -, h5⟩ := run_append_own_at (P := P) w B t ty e i z k bytes ht hi hz hsize hby hzs hk _ n xs hown ad m c' ys hy hcells hone h63 hbytes hbase
  obtain ⟨a1, c1, rfl, ho⟩ := fin h2
  refine ⟨a1, c1, w', hrun, ho, h3, fun b hb => ?_⟩
  rcases h5 with h5 | h5
  ·
   exact .inl (by rw [← h5]; exact hb)
  ·
   rw [h5] at hb
   exact .inr (Option.some.inj hb).symm
theorem wpList_append_rows {ops : Array Oper} {rest : List Oper} {o : Oper} {act : Act} {Q : Exit → Act → World → Prop} (hgd : o.guard = none) (s x : Operand) (t : TypeId)
  (ho : o.op = .call { callee := .builtin .append, args := #[s, x], argTypes := #[t, t] })
  (B : Nat) (e : TypeId) (i : TypeInfo) (z : Value) (k bytes : Nat) (ht : P.underlying t = some (.slice e)) (hi : P.info? e = some i) (hz : i.zero = some z)
  (hsize : i.size = k) (hby : i.bytes = bytes) (hzs : z.cells.size = k) (hk : 0 < k) (a : Option Addr) (n n1 c : Nat) (xs : List Value) (hs : act.eval s = .slice a n1 c) (hn : n1 = n) (hown : OwnV w B e k a c n xs)
  (B' : Nat) (A : Option Addr) (m m1 c' : Nat) (ys : List Value) (hx : act.eval x = .slice A m1 c') (hm : m1 = m) (hr : Reads w B' A ys) (hy : ys.length = m * k) (hone : ∀ u ∈ ys, u.oneCell' = true)
  (h63 : n + m ≤ maxLen) (hbytes : (n + m) * bytes ≤ 140737488355328) (hbase : B ≤ w.heap.size)
  (h : ∀ a1 c1 w', OwnV w' B e k a1 c1 (n + m) (xs ++ ys) → w.grownBy w' (Value.slice a n c).ownBlock → wpList P ops Q rest (act.put o.dst (.slice a1 (n + m) c1)) w') : wpList P ops Q (o :: rest) act w := by
 subst hn
 subst hm
 refine wpList_plain hgd fun K hK => ?_
 obtain ⟨a1, c1, w', hrun, h2, h3, -⟩ := run_append_rows (P := P) w B t o.type e i z k bytes ht hi hz hsize hby hzs hk a c n1 xs hown B' A c' m1 ys hr hy hone h63 hbytes hbase
 unfold Oper.wp execOp
 simp only [ho, resolve, invoke, builtin, Sem.run_bind, Sem.run_pure, Result.andThen_ok, List.map_toArray, List.map_cons, List.map_nil, hs, hx, hrun]
 exact hK _ _ (h a1 c1 w' h2 h3)
end
theorem step_append_s {P : Program} {W w : World} {rs : List Res} {e : TypeId} {k : Nat} {a : Option Addr} {c n : Nat} {xs : List Value} (S : Sep W w rs) (j : Nat) (hj : rs[j]? = some (ownV e k a c n xs))
  {ops : Array Oper} {o : Oper} {act : Act} {K : Act → World → Prop} {Q : Exit → Act → World → Prop} {E : Prop} (hgd : o.guard = none) (s x : Operand) (t : TypeId)
  (ho : o.op = .call { callee := .builtin .append, args := #[s, x], argTypes := #[t, t] })
  (i : TypeInfo) (z : Value) (bytes : Nat) (ht : P.underlying t = some (.slice e)) (hi : P.info? e = some i) (hz : i.zero = some z)
  (hsize : i.size = k) (hby : i.bytes = bytes) (hzs : z.cells.size = k) (hk : 0 < k) (n1 : Nat) (hs : act.eval s = .slice a n1 c) (hn : n1 = n)
  (B' : Nat) (A : Option Addr) (m m1 c' : Nat) (ys : List Value) (hx : act.eval x = .slice A m1 c') (hm : m1 = m) (hr : Reads w B' A ys) (hy : ys.length = m * k) (hone : ∀ u ∈ ys, u.oneCell' = true)
  (h63 : n + m ≤ maxLen) (hbytes : (n + m) * bytes ≤ 140737488355328)
  (h : ∀ a1 c1 w', Sep W w' (rs.set j (ownV e k a1 c1 (n + m) (xs ++ ys))) → K (act.put o.dst (.slice a1 (n + m) c1)) w') : if Region.wanted o (yielded ops act.tmps) = true then Oper.wp P o act w K Q else E := by
 have hw : Region.wanted o (yielded ops act.tmps) = true := by simp [Region.wanted, hgd]
 rw [if_pos hw]
 subst hn
 subst hm
 obtain ⟨a1, c1, w', hrun, h2, h3, h4⟩ := run_append_rows (P := P) w 0 t o.type e i z k bytes ht hi hz hsize hby hzs hk a c n1 xs (own_at S j hj) B' A c' m1 ys hr hy hone h63 hbytes (Nat.zero_le _)
 unfold Oper.wp execOp
 simp only [ho, resolve, invoke, builtin, Sem.run_bind, Sem.run_pure, Result.andThen_ok, List.map_toArray, List.map_cons, List.map_nil, hs, hx, hrun]
 refine h a1 c1 w' (Sd.put_new S j hj (Turned.of_grown h3) h2 fun b hb => ?_)
 have hb' : (Value.slice a1 (n1 + m1) c1).ownBlock = some b := by simpa [ownV] using hb
 rcases h4 b hb' with h5 | rfl
 ·
  exact .inl (by simp [ownV, h5])
 ·
  have := World.ownsRow.lt h2 _ hb'
  exact .inr ⟨Nat.le_refl _, this.2⟩
end Go.Proofs.YthljdhfgphebnaaGreat.Sv

namespace Go.Proofs.YthljdhfgphebnaaGreat.L4
open Go.Op (bytesLess)

theorem less_irrefl : ∀ (a : List UInt8), bytesLess a a = false
 | [] => rfl
 | x :: r => by simp [bytesLess, less_irrefl r]
theorem less_total : ∀ (a b : List UInt8), a ≠ b → bytesLess a b = false → bytesLess b a = true
 | [], [], h, _ => absurd rfl h
 | _ :: _, [], _, _ => rfl
 | [], _ :: _, _, h => by simp [bytesLess] at h
 | a :: x, b :: y, hne, h => by
  simp only [bytesLess, Bool.or_eq_false_iff, decide_eq_false_iff_not, UInt8.not_lt] at h
  obtain ⟨h1, h2⟩ := h
  by_cases e : a = b
  ·
   subst e
   simp at h2
   have := less_total x y (fun e2 => hne (by rw [e2])) h2
   simp [bytesLess, this]
  ·
   have : b < a := by
    rcases UInt8.lt_or_eq_of_le h1 with h3 | h3
    ·
     exact h3
    ·
     exact absurd h3.symm e
   simp [bytesLess, this]
theorem less_asymm : ∀ (a b : List UInt8), bytesLess a b = true → bytesLess b a = false
 | [], [], h => by simp [bytesLess] at h
 | _ :: _, [], h => by simp [bytesLess] at h
 | [], _ :: _, _ => rfl
 | a :: x, b :: y, h => by
  simp only [bytesLess, Bool.or_eq_true, decide_eq_true_eq, Bool.and_eq_true, beq_iff_eq] at h
  simp only [bytesLess, Bool.or_eq_false_iff, decide_eq_false_iff_not, UInt8.not_lt, Bool.and_eq_false_imp, beq_iff_eq]
  rcases h with h | ⟨rfl, h⟩
  ·
   exact ⟨UInt8.le_of_lt h, fun e => by subst e; exact absurd h (UInt8.lt_irrefl _)⟩
  ·
   exact ⟨UInt8.le_refl _, fun _ => less_asymm x y h⟩
theorem less_trans : ∀ (a b c : List UInt8), bytesLess a b = true → bytesLess b c = true → bytesLess a c = true
 | [], [], _, h1, _ => by simp [bytesLess] at h1
 | _ :: _, [], _, h1, _ => by simp [bytesLess] at h1
 | _, _ :: _, [], _, h2 => by simp [bytesLess] at h2
 | [], _ :: _, _ :: _, _, _ => by simp [bytesLess]
 | a :: x, b :: y, c :: z, h1, h2 => by
  simp only [bytesLess, Bool.or_eq_true, decide_eq_true_eq, Bool.and_eq_true, beq_iff_eq] at h1 h2 ⊢
  rcases h1 with h1 | ⟨rfl, h1⟩ <;> rcases h2 with h2 | ⟨rfl, h2⟩
  ·
   exact .inl (UInt8.lt_trans h1 h2)
  ·
   exact .inl h1
  ·
   exact .inl h2
  ·
   exact .inr ⟨rfl, less_trans x y z h1 h2⟩
theorem less_append : ∀ (x y u v : List UInt8), x.length = y.length → bytesLess (x ++ u) (y ++ v) = (bytesLess x y || (x == y && bytesLess u v))
 | [], [], u, v, _ => by simp [bytesLess]
 | _ :: _, [], _, _, h => by simp at h
 | [], _ :: _, _, _, h => by simp at h
 | a :: x, b :: y, u, v, h => by
  have ih := less_append x y u v (by simpa using h)
  simp only [List.cons_append, bytesLess, ih, List.cons_beq_cons]
  cases decide (a < b) <;> cases hab : (a == b) <;> simp

def sgn (a b : Bool) : Int := if a then -1 else if b then 1 else 0
def cmpL (x y : List UInt8) : Int := sgn (bytesLess x y) (!(bytesLess x y || x == y))
theorem cmpL_less {x y : List UInt8} (h : bytesLess x y = true) : cmpL x y = -1 := by simp [cmpL, sgn, h]
theorem cmpL_refl (x : List UInt8) : cmpL x x = 0 := by simp [cmpL, sgn, less_irrefl]
theorem cmpL_more {x y : List UInt8} (h : bytesLess y x = true) : cmpL x y = 1 := by
 have h1 := less_asymm y x h
 have h2 : x ≠ y := fun e => by subst e; rw [less_irrefl] at h; cases h
 simp [cmpL, sgn, h1, h2]
theorem cmpL_cases (x y : List UInt8) : (bytesLess x y = true ∧ cmpL x y = -1) ∨ (x = y ∧ cmpL x y = 0) ∨ (bytesLess y x = true ∧ cmpL x y = 1) := by
 cases h : bytesLess x y with
 | true => exact .inl ⟨rfl, cmpL_less h⟩
 | false =>
  by_cases e : x = y
  ·
   subst e; exact .inr (.inl ⟨rfl, cmpL_refl x⟩)
  ·
   have := less_total x y e h
   exact .inr (.inr ⟨this, cmpL_more this⟩)
theorem cmpL_append (x y u v : List UInt8) (h : x.length = y.length) : cmpL (x ++ u) (y ++ v) = if x = y then cmpL u v else cmpL x y := by
 by_cases e : x = y
 ·
  subst e
  rw [if_pos rfl]
  have e2 : (x ++ u == x ++ v) = (u == v) := by rw [Bool.eq_iff_iff, beq_iff_eq, beq_iff_eq, List.append_cancel_left_eq]
  simp [cmpL, less_append, less_irrefl, e2]
 ·
  rw [if_neg e]
  have e2 : (x ++ u == y ++ v) = false := by
   rw [beq_eq_false_iff_ne]
   exact fun h2 => e (List.append_inj h2 h).1
  have e3 : (x == y) = false := by simpa using e
  simp only [cmpL, less_append x y u v h, e2, e3, Bool.false_and, Bool.or_false]

def be : Nat → Nat → List UInt8
 | 0, _ => []
 | k + 1, m => UInt8.ofNat (m / 256 ^ k % 256) :: be k m
@[simp] theorem be_length : ∀ (k m : Nat), (be k m).length = k
 | 0, _ => rfl
 | k + 1, m => by simp [be, be_length k m]
theorem be_mod : ∀ (k m : Nat), be k m = be k (m % 256 ^ k)
 | 0, _ => rfl
 | k + 1, m => by
  have e1 : m % 256 ^ (k + 1) / 256 ^ k % 256 = m / 256 ^ k % 256 := by
   rw [Nat.pow_succ, Nat.mod_mul_right_div_self, Nat.mod_mod]
  have e2 : m % 256 ^ (k + 1) % 256 ^ k = m % 256 ^ k := Nat.mod_mod_of_dvd m ⟨256, by rw [Nat.pow_succ]⟩
  simp only [be, e1]
  rw [be_mod k m, be_mod k (m % 256 ^ (k + 1)), e2]
theorem ofNat_lt {a b : Nat} (ha : a < 256) (hb : b < 256) : (UInt8.ofNat a < UInt8.ofNat b) ↔ a < b := by
 rw [UInt8.lt_iff_toNat_lt, UInt8.toNat_ofNat', UInt8.toNat_ofNat', Nat.mod_eq_of_lt ha, Nat.mod_eq_of_lt hb]
theorem ofNat_inj {a b : Nat} (ha : a < 256) (hb : b < 256) (h : UInt8.ofNat a = UInt8.ofNat b) : a = b := by
 have := congrArg UInt8.toNat h
 rwa [UInt8.toNat_ofNat', UInt8.toNat_ofNat', Nat.mod_eq_of_lt ha, Nat.mod_eq_of_lt hb] at this
theorem be_less : ∀ (k m n : Nat), m < 256 ^ k → n < 256 ^ k → bytesLess (be k m) (be k n) = decide (m < n)
 | 0, m, n, hm, hn => by
  simp at hm hn
  subst hm; subst hn
  rfl
 | k + 1, m, n, hm, hn => by
  have hp : 0 < 256 ^ k := Nat.pow_pos (by decide)
  have qm : m / 256 ^ k < 256 := Nat.div_lt_of_lt_mul (by rw [Nat.pow_succ] at hm; exact hm)
  have qn : n / 256 ^ k < 256 := Nat.div_lt_of_lt_mul (by rw [Nat.pow_succ] at hn; exact hn)
  have ih := be_less k (m % 256 ^ k) (n % 256 ^ k) (Nat.mod_lt _ hp) (Nat.mod_lt _ hp)
  rw [← be_mod, ← be_mod] at ih
  simp only [be, bytesLess, ih, Nat.mod_eq_of_lt qm, Nat.mod_eq_of_lt qn]
  have dm := Nat.div_add_mod m (256 ^ k)
  have dn := Nat.div_add_mod n (256 ^ k)
  rcases Nat.lt_trichotomy (m / 256 ^ k) (n / 256 ^ k) with h | h | h
  ·
   rw [decide_eq_true ((ofNat_lt qm qn).2 h), Bool.true_or]
   symm
   rw [decide_eq_true_iff]
   exact Nat.lt_of_div_lt_div h
  ·
   have e1 : (UInt8.ofNat (m / 256 ^ k) < UInt8.ofNat (n / 256 ^ k)) = False := by rw [h]; simp [UInt8.lt_irrefl]
   have e2 : (UInt8.ofNat (m / 256 ^ k) == UInt8.ofNat (n / 256 ^ k)) = true := by rw [h]; simp
   rw [decide_eq_false (by rw [e1]; exact id), e2, Bool.false_or, Bool.true_and]
   rw [h] at dm
   rw [decide_eq_decide]
   omega
  ·
   rw [decide_eq_false (fun h2 => by rw [ofNat_lt qm qn] at h2; omega)]
   have e2 : (UInt8.ofNat (m / 256 ^ k) == UInt8.ofNat (n / 256 ^ k)) = false := by
    rw [beq_eq_false_iff_ne]
    exact fun e => by have := ofNat_inj qm qn e; omega
   rw [e2, Bool.false_and, Bool.or_false]
   symm
   rw [decide_eq_false_iff_not]
   have := Nat.lt_of_div_lt_div h
   omega
theorem be_inj (k m n : Nat) (hm : m < 256 ^ k) (hn : n < 256 ^ k) (h : be k m = be k n) : m = n := by
 have h1 := be_less k m n hm hn
 have h2 := be_less k n m hn hm
 rw [h, less_irrefl] at h1
 rw [h, less_irrefl] at h2
 have a := of_decide_eq_false h1.symm
 have b := of_decide_eq_false h2.symm
 omega

structure K where
 kind : Int
 n : Int
 text : ByteArray
def K.t (k : K) : List UInt8 := k.text.data.toList
def K.zero : K := ⟨0, 0, ⟨#[]⟩⟩
def chr (b : UInt8) : Bool := (decide (97 ≤ b.toNat) && decide (b.toNat ≤ 122)) || (decide (48 ≤ b.toNat) && decide (b.toNat ≤ 57))
def isT (l : List UInt8) : Bool := l.all chr && decide (l.length ≤ 12)
def isK (k : K) : Bool := L1.inB k.kind 1 3 && L1.inB k.n (-1000000000000) 1000000000000 && (k.kind != 2 || k.n == 0) && isT k.t && (k.kind != 1 || k.t == [])
structure Good (k : K) : Prop where
 k0 : 1 ≤ k.kind
 k1 : k.kind ≤ 3
 n0 : -1000000000000 ≤ k.n
 n1 : k.n ≤ 1000000000000
 n2 : k.kind = 2 → k.n = 0
 t : isT k.t = true
 t1 : k.kind = 1 → k.t = []
theorem isK_iff {k : K} : isK k = true ↔ Good k := by
 unfold isK
 simp only [Bool.and_eq_true, Bool.or_eq_true, bne_iff_ne, beq_iff_eq, L1.inB_true]
 constructor
 ·
  rintro ⟨⟨⟨⟨⟨a, b⟩, c, d⟩, e⟩, f⟩, g⟩
  exact ⟨a, b, c, d, fun h => e.resolve_left (fun h2 => h2 h), f, fun h => g.resolve_left (fun h2 => h2 h)⟩
 ·
  rintro ⟨a, b, c, d, e, f, g⟩
  refine ⟨⟨⟨⟨⟨a, b⟩, c, d⟩, ?_⟩, f⟩, ?_⟩
  ·
   by_cases h : k.kind = 2
   ·
    exact .inr (e h)
   ·
    exact .inl h
  ·
   by_cases h : k.kind = 1
   ·
    exact .inr (g h)
   ·
    exact .inl h
def cmpK (a b : K) : Int :=
 if !(isK a) || !(isK b) then 0 else if a.kind ≠ b.kind then sgn (decide (a.kind < b.kind)) true else if a.n ≠ b.n then sgn (decide (a.n < b.n)) true else cmpL a.t b.t
def num6 (k : K) : List UInt8 := if k.kind = 2 then [] else be 6 (k.n + 1000000000000).toNat
def encU (k : K) : List UInt8 := if isK k then UInt8.ofNat k.kind.toNat :: (num6 k ++ k.t) else []
theorem cmpL_cons (a b : UInt8) (x y : List UInt8) : cmpL (a :: x) (b :: y) = if a = b then cmpL x y else cmpL [a] [b] := by
 have := cmpL_append [a] [b] x y rfl
 simpa using this
end Go.Proofs.YthljdhfgphebnaaGreat.L4

namespace Go.Proofs.YthljdhfgphebnaaGreat.L1

def digs (u : Nat) : List UInt8 :=
 if _h : u = 0 then [] else digs (u / 10) ++ [UInt8.ofNat (48 + u % 10)]
termination_by u
decreasing_by omega

theorem digs_zero : digs 0 = [] := by rw [digs, dif_pos rfl]
theorem digs_step {u : Nat} (h : u ≠ 0) : digs u = digs (u / 10) ++ [UInt8.ofNat (48 + u % 10)] := by rw [digs, dif_neg h]
theorem digs_eq (u : Nat) (h : u ≠ 0) : digs u = Lib.decDigits u := by
 induction u using Nat.strongRecOn with
 | _ u ih =>
  rw [digs_step h]
  by_cases h10 : u < 10
  ·
   rw [Lib.decDigits, dif_pos h10, show u / 10 = 0 by omega, digs_zero, Nat.mod_eq_of_lt h10]; rfl
  ·
   rw [Lib.decDigits, dif_neg h10, ih (u / 10) (by omega) (by omega)]
theorem digs_length (u : Nat) : (digs u).length ≤ Lib.nDigits u := by
 by_cases h : u = 0
 ·
  subst h; rw [digs_zero]; exact Nat.zero_le _
 ·
  rw [digs_eq u h, Lib.decDigits_length]; exact Nat.le_refl _

theorem decFrom_snoc (l : List UInt8) (b : UInt8) : ∀ acc, Lib.decFrom acc (l ++ [b]) = (Lib.decFrom acc l).bind fun n => (Lib.digitVal b).map fun d => n * 10 + d := by
 induction l with
 | nil =>
  intro acc
  simp only [List.nil_append, Lib.decFrom]
  cases Lib.digitVal b <;> rfl
 | cons a t ih =>
  intro acc
  simp only [List.cons_append, Lib.decFrom]
  cases Lib.digitVal a with
  | none => rfl
  | some d => exact ih _

theorem digitVal_dig (d : Nat) (h : d < 10) : Lib.digitVal (UInt8.ofNat (48 + d)) = some d := by
 have e : (UInt8.ofNat (48 + d)).toNat = 48 + d := by
  rw [UInt8.toNat_ofNat']; omega
 unfold Lib.digitVal
 rw [if_pos (by rw [e]; omega), e]
 congr 1; omega

theorem decFrom_dec (u : Nat) : Lib.decFrom 0 (Lib.decDigits u) = some u := by
 induction u using Nat.strongRecOn with
 | _ u ih =>
  by_cases h10 : u < 10
  ·
   rw [Lib.decDigits_one h10]
   simp only [Lib.decFrom, digitVal_dig u h10]
   simp
  ·
   rw [Lib.decDigits, dif_neg h10, decFrom_snoc, ih (u / 10) (by omega), digitVal_dig _ (by omega)]
   simp only [Option.bind_some, Option.map_some]
   congr 1; omega

theorem nDigits_pow (k u : Nat) (h : u < 10 ^ (k + 1)) : Lib.nDigits u ≤ k + 1 := by
 induction k generalizing u with
 | zero => rw [Lib.nDigits_small (by simpa using h)]; exact Nat.le_refl _
 | succ k ih =>
  by_cases h10 : u < 10
  ·
   rw [Lib.nDigits_small h10]; omega
  ·
   rw [Lib.nDigits_big h10]
   have := ih (u / 10) (by rw [Nat.pow_succ] at h; omega)
   omega

def Num (l : List UInt8) (n : Int) : Prop := 0 ≤ n ∧ n ≤ 1000000000000 ∧ Lib.itoa n = l

theorem itoa_nonneg {n : Int} (h : 0 ≤ n) : Lib.itoa n = Lib.decDigits n.toNat := by
 unfold Lib.itoa; rw [if_neg (by omega)]
theorem Num.length {l : List UInt8} {n : Int} (h : Num l n) : 1 ≤ l.length ∧ l.length ≤ 13 := by
 obtain ⟨h0, h1, h2⟩ := h
 rw [← h2, itoa_nonneg h0, Lib.decDigits_length]
 exact ⟨Lib.nDigits_pos _, nDigits_pow 12 _ (by show _ < 10000000000000; omega)⟩
theorem Num.dec {l : List UInt8} {n : Int} (h : Num l n) : Lib.decFrom 0 l = some n.toNat := by
 obtain ⟨h0, h1, h2⟩ := h
 rw [← h2, itoa_nonneg h0]; exact decFrom_dec _
theorem Num.digit {l : List UInt8} {n : Int} (h : Num l n) (k : Nat) (b : UInt8) (hb : l[k]? = some b) : 48 ≤ b.toNat ∧ b.toNat ≤ 57 := by
 obtain ⟨d, hd⟩ := Lib.digit_of_decFrom l 0 _ h.dec k b hb
 unfold Lib.digitVal at hd
 split at hd
 ·
  assumption
 ·
  cases hd
theorem Num.atoi {l : List UInt8} {n : Int} (h : Num l n) : Lib.atoiAll l = .ok n := by
 have hl := h.length
 have hd := h.dec
 rw [Lib.atoiAll_short l (by omega)]
 have ha : Lib.atoi l = some n := by
  cases l with
  | nil => simp at hl
  | cons b r =>
   have hb := h.digit 0 b rfl
   have e1 : (b == 45) = false := by
    rw [beq_eq_false_iff_ne]; intro e; subst e; revert hb; decide
   have e2 : (b == 43) = false := by
    rw [beq_eq_false_iff_ne]; intro e; subst e; revert hb; decide
   simp only [Lib.atoi, e1, e2, Lib.decNat, List.isEmpty_cons, Bool.false_eq_true, if_false, hd, Option.map_some]
   congr 1
   have := h.1
   omega
 rw [ha]; rfl
theorem Num.unique {l : List UInt8} {n m : Int} (h : Num l n) (h' : Num l m) : n = m := by
 have h1 := h.atoi
 rw [h'.atoi] at h1
 injection h1 with e
 exact e.symm

def pOk (l : List UInt8) : Bool := match Lib.atoiAll l with
 | .ok v => decide (0 ≤ v) && decide (v ≤ 1000000000000) && (Lib.itoa v == l)
 | _ => false
theorem Num.ok {l : List UInt8} {n : Int} (h : Num l n) : pOk l = true := by
 unfold pOk; rw [h.atoi]; simp [h.1, h.2.1, h.2.2]
end Go.Proofs.YthljdhfgphebnaaGreat.L1

namespace Go.Proofs.YthljdhfgphebnaaGreat.L4
open L1

def hd (s : List UInt8) : List UInt8 := s.takeWhile (· != 39)
end Go.Proofs.YthljdhfgphebnaaGreat.L4

namespace Go.Proofs.YthljdhfgphebnaaGreat.L2
open Go.ChangeShapes Go.WideShapes Go.ChangeAt Go.RowKit Mem Sl Ex

def Byt (l : List Int) : Prop := ∀ x ∈ l, 0 ≤ x ∧ x ≤ 255
def RdE (l : List Int) (off : Int) : Ending := .returned (.tuple #[.int .i64 (rdN l off), .int .i64 (rdE l off), .bool (rdB l off)])
theorem RdE.none {l : List Int} {off : Int} (h : rd l off = none) : RdE l off = .returned (.tuple #[.int .i64 0, .int .i64 0, .bool false]) := by
 unfold RdE rdN rdE rdB
 rw [h]; rfl
theorem RdE.some {l : List Int} {off v e : Int} {m : Nat} (h : rd l off = some (v, m)) (he : off + m = e) : RdE l off = .returned (.tuple #[.int .i64 v, .int .i64 e, .bool true]) := by
 unfold RdE
 rw [rdN_of h, rdE_of h, rdB_of h, he]
def Mid (l : List Int) (o k : Nat) (v : Int) : Prop := 0 ≤ v ∧ v < 128 ^ k ∧ rd l o = rdAux k v (l.drop (o + k))
theorem Mid.start (l : List Int) (o : Nat) : Mid l o 0 0 := ⟨by omega, by decide, by
 unfold rd
 rw [if_pos (by omega)]
 simp⟩
theorem Mid.cons {l : List Int} {o k : Nat} {v : Int} (h : Mid l o k v) (hk : o + k < l.length) (h6 : k < 6) :
  rd l o = if l[o + k] < 128 then (if (l[o + k] = 0 ∧ 0 < k) ∨ 1000000000000 < v + l[o + k] % 128 * 128 ^ k then none else some (v + l[o + k] % 128 * 128 ^ k, k + 1)) else rdAux (k + 1) (v + l[o + k] % 128 * 128 ^ k) (l.drop (o + (k + 1))) := by
 rw [h.2.2, List.drop_eq_getElem_cons hk, rdAux, if_neg (by omega)]
 rfl
end Go.Proofs.YthljdhfgphebnaaGreat.L2

namespace Go.Proofs.YthljdhfgphebnaaGreat.L2
open Go.ChangeShapes Go.WideShapes Go.ChangeAt Go.RowKit Mem Sl Ex

def rbB (l : List Int) (off most : Int) : Bool := rdB l off && decide (rdN l off ≤ most) && decide (rdN l off ≤ (l.length : Int) - rdE l off)
def rbL (l : List Int) (off most : Int) : List Int := if rbB l off most = true then (l.drop (rdE l off).toNat).take (rdN l off).toNat else []
def rbE (l : List Int) (off most : Int) : Int := if rbB l off most = true then rdE l off + rdN l off else 0
def GaveT (w : World) (B : Nat) (e : TypeId) (k : IntKind) (l : List Int) (v : Int) (b : Bool) (en : Ending) (w' : World) : Prop := ∃ a c, en = .returned (.tuple #[.slice a l.length c, .int .i64 v, .bool b]) ∧ Own w' B e k a c l ∧ Below B w w'
theorem GaveT.mk {w w' : World} {B : Nat} {e : TypeId} {k : IntKind} {l : List Int} {v v' : Int} {b b' : Bool} {a : Option Addr} {c n : Nat} (hn : n = l.length) (hv : v' = v) (hb : b' = b) (ho : Own w' B e k a c l) (hw : Below B w w') :
  GaveT w B e k l v b (.returned (.tuple #[.slice a n c, .int .i64 v', .bool b'])) w' := ⟨a, c, by rw [hn, hv, hb], ho, hw⟩



def dc (l : List Int) : Int → Nat → Option (List Int × Int)
 | off, 0 => some ([], off)
 | off, n + 1 => match rd l off with
  | none => none
  | some (v, m) => (dc l (off + m) n).map fun p => (v :: p.1, p.2)
def DcMid (l : List Int) (off : Int) (n k : Nat) (acc : List Int) (o : Int) : Prop := acc.length = k ∧ dc l off n = (dc l o (n - k)).map fun p => (acc ++ p.1, p.2)
theorem DcMid.start (l : List Int) (off : Int) (n : Nat) : DcMid l off n 0 [] off := ⟨rfl, by simp⟩
theorem DcMid.none {l : List Int} {off : Int} {n k : Nat} {acc : List Int} {o : Int} (h : DcMid l off n k acc o) (hk : k < n) (hr : rdB l o = false) : dc l off n = none := by
 rw [h.2, show n - k = (n - (k + 1)) + 1 by omega, dc]
 have e : rd l o = Option.none := by
  unfold rdB at hr
  cases hh : rd l o with
  | none => rfl
  | some p => rw [hh] at hr; cases hr
 rw [e]
 rfl
theorem bytes_inj : ∀ (l m : List Int), Byt l → Byt m → (l.map fun n => UInt8.ofNat n.toNat) = (m.map fun n => UInt8.ofNat n.toNat) → l = m
 | [], [], _, _, _ => rfl
 | [], y :: m, _, _, h => by simp at h
 | x :: l, [], _, _, h => by simp at h
 | x :: l, y :: m, hl, hm, h => by
  simp only [List.map_cons, List.cons.injEq] at h
  have h1 := hl x (by simp)
  have h2 := hm y (by simp)
  have h3 := congrArg UInt8.toNat h.1
  simp only [UInt8.toNat_ofNat'] at h3
  rw [bytes_inj l m (fun z hz => hl z (by simp [hz])) (fun z hz => hm z (by simp [hz])) h.2]
  congr 1
  omega
end Go.Proofs.YthljdhfgphebnaaGreat.L2

namespace Go.Proofs.YthljdhfgphebnaaGreat.L4
open Go.ChangeShapes Go.WideShapes Go.ChangeAt Go.RowKit Mem Sl Ex L2

def K.v (k : K) : Value := .agg #[.int .i64 k.kind, .int .i64 k.n, .string k.text]
def K.cells (k : K) : Array Value := #[.int .i64 k.kind, .int .i64 k.n, .string k.text]

theorem isT_no {s : List UInt8} (j : Nat) (b : UInt8) (hb : s[j]? = some b) (h : chr b = false) : isT s = false := by
  unfold isT
  rw [Bool.and_eq_false_iff]
  left
  rw [List.all_eq_false]
  exact ⟨b, List.mem_of_getElem? hb, by simp [h]⟩
theorem isT_all {s : List UInt8} (h : ∀ j (hj : j < s.length), chr s[j] = true) : isT s = decide (s.length ≤ 12) := by
  unfold isT
  rw [show s.all chr = true by rw [List.all_eq_true]; intro x hx; obtain ⟨i, hi, rfl⟩ := List.getElem_of_mem hx; exact h i hi, Bool.true_and]

theorem l4Text_any (s : ByteArray) (hs : s.size ≤ 281474976710656) (w : World) :
    Calls Tryz.prog 133 #[.string s] w fun e w' => e = .returned (.bool (isT s.data.toList)) ∧ w = w' := by
  have hsz : s.data.toList.length = s.size := by rw [Array.length_toList]; rfl
  have HZ := Lib.hid hsz
  clear hsz
  go_enter Tryz.func133, Tryz.ntmps133
  go_wp2
  go_loop [3] (fun i => ∃ k : Nat, k ≤ s.size ∧ i = .int .i64 k ∧ Hid (∀ j (hj : j < s.data.toList.length), j < k → chr s.data.toList[j] = true)) (fun i => s.size - (intOf i).toNat)
  case atStart => exact ⟨0, Nat.zero_le _, rfl, fun j hj h => by omega⟩
  case round =>
    obtain ⟨k, hk, rfl, hrel⟩ := hrel
    by_cases hlt : k < s.size
    · have hb : s.data.toList[k]? = some s[k] := by
        rw [List.getElem?_eq_getElem (by rw [HZ.out]; exact hlt)]
        rfl
      have HB := Lib.hid hb
      clear hb
      have hT : ∀ b : Bool, chr s[k] = b → Hid (chr s[k] = b) := fun b h => h
      rcases (show ((s[k].toNat : Int) < 48 ∧ chr s[k] = false) ∨ ((48 ≤ (s[k].toNat : Int) ∧ (s[k].toNat : Int) ≤ 57) ∧ chr s[k] = true) ∨ ((58 ≤ (s[k].toNat : Int) ∧ (s[k].toNat : Int) ≤ 96) ∧ chr s[k] = false) ∨ ((97 ≤ (s[k].toNat : Int) ∧ (s[k].toNat : Int) ≤ 122) ∧ chr s[k] = true) ∨ ((122 < (s[k].toNat : Int)) ∧ chr s[k] = false) by
        unfold chr
        simp only [Bool.or_eq_true, Bool.and_eq_true, Bool.or_eq_false_iff, Bool.and_eq_false_iff, decide_eq_true_eq, decide_eq_false_iff_not]
        omega) with ⟨h1, h2⟩ | ⟨⟨h1, h3⟩, h2⟩ | ⟨⟨h1, h3⟩, h2⟩ | ⟨⟨h1, h3⟩, h2⟩ | ⟨h1, h2⟩
      all_goals
        have H2 := hT _ h2
        clear h2 hT
        go_wp2
        first
        | (go_round
           case rel => exact ⟨k + 1, by omega, by go_num, fun j hj h => by
              by_cases e : j < k
              · exact hrel.out j hj e
              · obtain rfl : j = k := by omega
                have := HB.out
                rw [List.getElem?_eq_getElem hj] at this
                rw [Option.some.inj this]
                exact H2.out⟩
           case measure => simp [intOf]; omega)
        | (go_ret
           exact ⟨by rw [isT_no k _ HB.out H2.out]; rfl, rfl⟩)
    · by_cases h12 : (s.size : Int) ≤ 12
      all_goals
        go_wp2
        go_ret
        obtain rfl : k = s.size := by omega
        have e1 := isT_all (fun j hj => hrel.out j hj (by rw [HZ.out] at hj; exact hj))
        rw [HZ.out] at e1
        refine ⟨?_, rfl⟩
        rw [e1]
        first
        | (rw [decide_eq_true (show s.size ≤ 12 by omega)]; rfl)
        | (rw [decide_eq_false (show ¬ s.size ≤ 12 by omega)]; rfl)
set_option maxHeartbeats 2000000 in
theorem specIsKey_any (k : K) (hs : k.text.size ≤ 281474976710656) (w : World) :
    Calls Tryz.prog 94 #[k.v] w fun e w' => e = .returned (.bool (isK k)) ∧ Below w.heap.size w w' := by
  obtain ⟨kd, n, s⟩ := k
  unfold K.v
  obtain ⟨b1, hb1⟩ : ∃ b, L1.inB kd 1 3 = b := ⟨_, rfl⟩
  obtain ⟨b2, hb2⟩ : ∃ b, L1.inB n (-1000000000000) 1000000000000 = b := ⟨_, rfl⟩
  obtain ⟨b4, hb4⟩ : ∃ b, isT s.data.toList = b := ⟨_, rfl⟩
  have H1 := Lib.hid (fun w => L1.l1In_any kd 1 3 w)
  have H2 := Lib.hid (fun w => L1.l1In_any n (-1000000000000) 1000000000000 w)
  have H4 := Lib.hid (fun w => l4Text_any s hs w)
  rw [hb1] at H1
  rw [hb2] at H2
  rw [hb4] at H4
  obtain ⟨c0, hc0⟩ : ∃ b, (n == 0) = b := ⟨_, rfl⟩
  obtain ⟨ct, hct⟩ : ∃ b, (s.toList == []) = b := ⟨_, rfl⟩
  have HE := show isK ⟨kd, n, s⟩ = (b1 && b2 && (kd != 2 || c0) && b4 && (kd != 1 || ct)) by unfold isK; rw [hb1, hb2, show K.t ⟨kd, n, s⟩ = s.data.toList from rfl, hb4, ← hct, ByteArray.toList_eq, ← hc0]
  have HB := Lib.hid (fun o => below_alloc (Below.refl w.heap.size w) o (Nat.le_refl _))
  clear hb1 hb2 hb4
  rcases (show kd = 1 ∨ kd = 2 ∨ (kd ≠ 1 ∧ kd ≠ 2) by omega) with rfl | rfl | ⟨hk1, hk2⟩
  · rw [show isK ⟨1, n, s⟩ = (b1 && (b2 && (b4 && ct))) by rw [HE]; cases b1 <;> cases b2 <;> cases b4 <;> cases ct <;> rfl]
    clear HE hc0
    rcases (show b1 = false ∨ (b1 = true ∧ b2 = false) ∨ (b1 = true ∧ b2 = true ∧ b4 = false) ∨ (b1 = true ∧ b2 = true ∧ b4 = true) by cases b1 <;> cases b2 <;> cases b4 <;> simp) with rfl | ⟨rfl, rfl⟩ | ⟨rfl, rfl, rfl⟩ | ⟨rfl, rfl, rfl⟩
    all_goals
      go_enter Tryz.func94, Tryz.ntmps94
      go_wp2_with (first
        | (go_at_call 65; with_reducible refine (H1.out _).mono ?_; rintro e w1 ⟨rfl, rfl⟩)
        | (go_at_call 65; with_reducible refine (H2.out _).mono ?_; rintro e w1 ⟨rfl, rfl⟩)
        | (go_at_call 133; refine (H4.out _).mono ?_; rintro e w1 ⟨rfl, rfl⟩))
      go_ret
      exact ⟨rfl, HB.out _⟩
  · rw [show isK ⟨2, n, s⟩ = (b1 && (b2 && (c0 && b4))) by rw [HE]; cases b1 <;> cases b2 <;> cases b4 <;> cases c0 <;> rfl]
    clear HE hct
    rcases (show b1 = false ∨ (b1 = true ∧ b2 = false) ∨ (b1 = true ∧ b2 = true ∧ c0 = false) ∨ (b1 = true ∧ b2 = true ∧ c0 = true ∧ b4 = false) ∨ (b1 = true ∧ b2 = true ∧ c0 = true ∧ b4 = true) by cases b1 <;> cases b2 <;> cases c0 <;> cases b4 <;> simp) with rfl | ⟨rfl, rfl⟩ | ⟨rfl, rfl, rfl⟩ | ⟨rfl, rfl, rfl, rfl⟩ | ⟨rfl, rfl, rfl, rfl⟩
    all_goals
      go_enter Tryz.func94, Tryz.ntmps94
      go_wp2_with (first
        | (go_at_call 65; with_reducible refine (H1.out _).mono ?_; rintro e w1 ⟨rfl, rfl⟩)
        | (go_at_call 65; with_reducible refine (H2.out _).mono ?_; rintro e w1 ⟨rfl, rfl⟩)
        | (go_at_call 133; refine (H4.out _).mono ?_; rintro e w1 ⟨rfl, rfl⟩))
      go_ret
      exact ⟨rfl, HB.out _⟩
  · have hk1' : (kd == 1) = false := by simpa using hk1
    have hk2' : (kd == 2) = false := by simpa using hk2
    rw [show isK ⟨kd, n, s⟩ = (b1 && (b2 && b4)) by rw [HE]; unfold bne; rw [hk1', hk2']; cases b1 <;> cases b2 <;> cases b4 <;> rfl]
    clear HE hct hc0
    replace hk1 : ¬ kd = 1 := hk1
    replace hk2 : ¬ kd = 2 := hk2
    rcases (show b1 = false ∨ (b1 = true ∧ b2 = false) ∨ (b1 = true ∧ b2 = true ∧ b4 = false) ∨ (b1 = true ∧ b2 = true ∧ b4 = true) by cases b1 <;> cases b2 <;> cases b4 <;> simp) with rfl | ⟨rfl, rfl⟩ | ⟨rfl, rfl, rfl⟩ | ⟨rfl, rfl, rfl⟩
    all_goals
      go_enter Tryz.func94, Tryz.ntmps94
      go_wp2_with (first
        | (go_at_call 65; with_reducible refine (H1.out _).mono ?_; rintro e w1 ⟨rfl, rfl⟩)
        | (go_at_call 65; with_reducible refine (H2.out _).mono ?_; rintro e w1 ⟨rfl, rfl⟩)
        | (go_at_call 133; refine (H4.out _).mono ?_; rintro e w1 ⟨rfl, rfl⟩))
      go_ret
      exact ⟨rfl, HB.out _⟩
end Go.Proofs.YthljdhfgphebnaaGreat.L4

namespace Go.Proofs.YthljdhfgphebnaaGreat.L4
open Go.Op (bytesLess)
open Go.ChangeShapes Go.WideShapes Go.ChangeAt Go.RowKit Mem Sl Ex L2

theorem l4Sign_any (a b : Bool) (w : World) :
    Calls Tryz.prog 134 #[.bool a, .bool b] w fun e w' => e = .returned (.int .i64 (sgn a b)) ∧ w = w' := by
  cases a <;> cases b <;>
    (go_enter Tryz.func134, Tryz.ntmps134
     go_wp2
     go_ret
     exact ⟨rfl, rfl⟩)

def Box (w : World) (g : Nat) (t : TypeId) (k : K) : Prop := Row w g t k.cells
theorem Box.facts {w : World} {g : Nat} {t : TypeId} {kd n : Int} {s : ByteArray} (h : Box w g t ⟨kd, n, s⟩) : w.cell? ⟨g, 0, none⟩ = some (.int .i64 kd) ∧ w.cell? ⟨g, 1, none⟩ = some (.int .i64 n) ∧ w.cell? ⟨g, 2, none⟩ = some (.string s) := by
  have h' : Row w g t #[.int .i64 kd, .int .i64 n, .string s] := h
  have c0 := h'.cell 0
  have c1 := h'.cell 1
  have c2 := h'.cell 2
  simp at c0 c1 c2
  exact ⟨c0, c1, c2⟩
theorem Box.below {w w' : World} {g : Nat} {t : TypeId} {k : K} (h : Box w g t k) (hb : Below w.heap.size w w') : Box w' g t k := Row.below h hb (Row.inside h)
theorem Box.made (w : World) (t : TypeId) (k : K) : Box (w.alloc (.cells k.cells t)) w.heap.size t k := Row.made w t k.cells
theorem Box.more {w : World} {g : Nat} {t : TypeId} {k : K} (h : Box w g t k) (o : Obj) : Box (w.alloc o) g t k := Row.more h o

theorem string_gtr (t : TypeId) (a b : ByteArray) : binOp .gtr t (.string a) (.string b) = pure (.bool (!(bytesLess a.toList b.toList) && !(a.toList == b.toList))) := by simp [binOp, Op.stringOp]
theorem cmpK_bad1 {a b : K} (h : isK a = false) : cmpK a b = 0 := by simp [cmpK, h]
theorem cmpK_bad2 {a b : K} (h : isK b = false) : cmpK a b = 0 := by simp [cmpK, h]
theorem cmpK_kind {a b : K} (ha : isK a = true) (hb : isK b = true) (h : ¬ a.kind = b.kind) : cmpK a b = sgn (decide (a.kind < b.kind)) true := by simp [cmpK, ha, hb, h]
theorem cmpK_n {a b : K} (ha : isK a = true) (hb : isK b = true) (h : a.kind = b.kind) (h2 : ¬ a.n = b.n) : cmpK a b = sgn (decide (a.n < b.n)) true := by simp [cmpK, ha, hb, h, h2]
theorem cmpK_t {a b : K} (ha : isK a = true) (hb : isK b = true) (h : a.kind = b.kind) (h2 : a.n = b.n) : cmpK a b = sgn (bytesLess a.text.toList b.text.toList) (!(bytesLess a.text.toList b.text.toList) && !(a.text.toList == b.text.toList)) := by
  rw [ByteArray.toList_eq, ByteArray.toList_eq]
  simp [cmpK, ha, hb, h, h2, cmpL, K.t]
set_option maxHeartbeats 2000000 in
theorem specCompareKeys_any (a b : K) (ha : a.text.size ≤ 281474976710656) (hb : b.text.size ≤ 281474976710656) (w : World) :
    Calls Tryz.prog 96 #[a.v, b.v] w fun e w' => e = .returned (.int .i64 (cmpK a b)) ∧ Below w.heap.size w w' := by
  obtain ⟨w2, hw2⟩ : ∃ w2, w2 = (w.alloc (.cells a.cells 110)).alloc (.cells b.cells 110) := ⟨_, rfl⟩
  have ba : Box w2 w.heap.size 110 a := by rw [hw2]; exact (Box.made w _ a).more _
  have bb : Box w2 (w.heap.size + 1) 110 b := by
    rw [hw2, show w.heap.size + 1 = (w.alloc (.cells a.cells 110)).heap.size by simp]
    exact Box.made _ _ b
  have hbl : Below w.heap.size w w2 := by rw [hw2]; exact below_alloc (below_alloc (Below.refl _ _) _ (Nat.le_refl _)) _ (Nat.le_refl _)
  obtain ⟨ka, na, sa⟩ := a
  obtain ⟨kb, nb, sb⟩ := b
  have H1 := Lib.hid (fun w => specIsKey_any ⟨ka, na, sa⟩ ha w)
  have H2 := Lib.hid (fun w => specIsKey_any ⟨kb, nb, sb⟩ hb w)
  obtain ⟨ia, hia⟩ : ∃ x, isK ⟨ka, na, sa⟩ = x := ⟨_, rfl⟩
  obtain ⟨ib, hib⟩ : ∃ x, isK ⟨kb, nb, sb⟩ = x := ⟨_, rfl⟩
  rw [hia] at H1
  rw [hib] at H2
  have HS := Lib.hid l4Sign_any
  unfold K.v at H1 H2 ⊢
  unfold K.cells at hw2
  obtain ⟨a0, a1, a2⟩ := ba.facts
  obtain ⟨b0, b1, b2⟩ := bb.facts
  have BA := Lib.hid (And.intro ba (And.intro bb hbl))
  go_enter Tryz.func96, Tryz.ntmps96
  go_wp2_with fail
  go_at_call 94
  rw [← hw2]
  clear hw2 a0 a1 a2 b0 b1 b2 ba bb hbl
  refine (H1.out w2).mono ?_
  rintro e w3 ⟨rfl, h3⟩
  have BA3 := Lib.hid (And.intro (BA.out.1.below h3) (And.intro (BA.out.2.1.below h3) (BA.out.2.2.trans (h3.mono BA.out.2.2.size))))
  clear h3
  cases ia with
  | false =>
    go_wp2_with fail
    go_ret
    exact ⟨by rw [cmpK_bad1 hia]; rfl, BA3.out.2.2⟩
  | true =>
    obtain ⟨b0, b1, b2⟩ := BA3.out.2.1.facts
    go_wp2_with fail
    go_at_call 94
    refine (H2.out w3).mono ?_
    rintro e w4 ⟨rfl, h4⟩
    have BA4 := Lib.hid (And.intro (BA3.out.1.below h4) (And.intro (BA3.out.2.1.below h4) (BA3.out.2.2.trans (h4.mono BA3.out.2.2.size))))
    clear h4 b0 b1 b2
    cases ib with
    | false =>
      go_wp2_with fail
      go_ret
      exact ⟨by rw [cmpK_bad2 hib]; rfl, BA4.out.2.2⟩
    | true =>
      obtain ⟨a0, a1, a2⟩ := BA4.out.1.facts
      obtain ⟨b0, b1, b2⟩ := BA4.out.2.1.facts
      by_cases hk : ka = kb
      · by_cases hn : na = nb
        · have HE := Lib.hid (cmpK_t hia hib hk hn)
          subst hk
          subst hn
          have hgt := string_gtr
          go_wp2_with fail
          go_at_call 134
          refine (HS.out _ _ _).mono ?_
          rintro e w5 ⟨rfl, rfl⟩
          go_wp2_with fail
          go_ret
          exact ⟨by rw [HE.out]; rfl, BA4.out.2.2⟩
        · have HE := Lib.hid (cmpK_n hia hib hk hn)
          subst hk
          go_wp2_with fail
          go_at_call 134
          refine (HS.out _ _ _).mono ?_
          rintro e w5 ⟨rfl, rfl⟩
          go_wp2_with fail
          go_ret
          exact ⟨by rw [HE.out]; rfl, BA4.out.2.2⟩
      · have HE := Lib.hid (cmpK_kind hia hib hk)
        go_wp2_with fail
        go_at_call 134
        refine (HS.out _ _ _).mono ?_
        rintro e w5 ⟨rfl, rfl⟩
        go_wp2_with fail
        go_ret
        exact ⟨by rw [HE.out]; rfl, BA4.out.2.2⟩

def toU (l : List Int) : List UInt8 := l.map fun n => UInt8.ofNat n.toNat
structure R where
  hl : Bool
  hh : Bool
  lo : K
  hi : K
def R.v (r : R) : Value := .agg #[.bool r.hl, .bool r.hh, .int .i64 r.lo.kind, .int .i64 r.lo.n, .string r.lo.text, .int .i64 r.hi.kind, .int .i64 r.hi.n, .string r.hi.text]
def R.cells (r : R) : Array Value := #[.bool r.hl, .bool r.hh, .int .i64 r.lo.kind, .int .i64 r.lo.n, .string r.lo.text, .int .i64 r.hi.kind, .int .i64 r.hi.n, .string r.hi.text]
def inR (k : K) (r : R) : Bool := isK k && ((!r.hl || isK r.lo) && ((!r.hh || isK r.hi) && ((!r.hl || decide (cmpK r.lo k ≤ 0)) && (!r.hh || decide (cmpK k r.hi ≤ 0)))))
structure St (w wr : World) (kt rt : TypeId) (k : K) (r : R) : Prop where
  k : Row wr w.heap.size kt k.cells
  r : Row wr (w.heap.size + 1) rt r.cells
  b : Below w.heap.size w wr
theorem St.facts {w wr : World} {kt rt : TypeId} {kd n : Int} {s : ByteArray} {hl hh : Bool} {ka na : Int} {sa : ByteArray} {kb nb : Int} {sb : ByteArray} (h : Hid (St w wr kt rt ⟨kd, n, s⟩ ⟨hl, hh, ⟨ka, na, sa⟩, ⟨kb, nb, sb⟩⟩)) :
    (wr.cell? ⟨w.heap.size, 0, none⟩ = some (.int .i64 kd) ∧ wr.cell? ⟨w.heap.size, 1, none⟩ = some (.int .i64 n) ∧ wr.cell? ⟨w.heap.size, 2, none⟩ = some (.string s)) ∧
    wr.cell? ⟨w.heap.size + 1, 0, none⟩ = some (.bool hl) ∧ wr.cell? ⟨w.heap.size + 1, 1, none⟩ = some (.bool hh) ∧ wr.cell? ⟨w.heap.size + 1, 2, none⟩ = some (.int .i64 ka) ∧ wr.cell? ⟨w.heap.size + 1, 3, none⟩ = some (.int .i64 na) ∧ wr.cell? ⟨w.heap.size + 1, 4, none⟩ = some (.string sa) ∧ wr.cell? ⟨w.heap.size + 1, 5, none⟩ = some (.int .i64 kb) ∧ wr.cell? ⟨w.heap.size + 1, 6, none⟩ = some (.int .i64 nb) ∧ wr.cell? ⟨w.heap.size + 1, 7, none⟩ = some (.string sb) := by
  have h1 : Row wr w.heap.size kt #[.int .i64 kd, .int .i64 n, .string s] := h.out.k
  have h2 : Row wr (w.heap.size + 1) rt #[.bool hl, .bool hh, .int .i64 ka, .int .i64 na, .string sa, .int .i64 kb, .int .i64 nb, .string sb] := h.out.r
  refine ⟨⟨?_, ?_, ?_⟩, ?_, ?_, ?_, ?_, ?_, ?_, ?_, ?_⟩
  all_goals first | (rw [h1.cell]; rfl) | (rw [h2.cell]; rfl)

end Go.Proofs.YthljdhfgphebnaaGreat.L4

namespace Go.Proofs.YthljdhfgphebnaaGreat.L4
open Go.ChangeShapes Go.WideShapes Go.ChangeAt Go.RowKit Mem Sl Ex L2

def left (n : Int) (s : ByteArray) : Int := if n - s.size < 0 then -1 else n - s.size
def R.left (n : Int) (r : R) : Int := if L4.left n r.lo.text < 0 then -1 else L4.left (L4.left n r.lo.text) r.hi.text
structure Tri (w wr : World) (t u : TypeId) (r : R) (x : Array Value) : Prop where
 r : Row wr w.heap.size t r.cells
 z : Row wr (w.heap.size + 1) u #[.bool false, .bool false, .int .i64 0, .int .i64 0, .string ⟨#[]⟩, .int .i64 0, .int .i64 0, .string ⟨#[]⟩]
 x : Row wr (w.heap.size + 1 + 1) u x
 b : Below w.heap.size w wr
theorem Row.apart {w : World} {g g' : Nat} {t : TypeId} {cs : Array Value} (h : Row w g t cs) (i : Nat) (v : Value) (hne : g ≠ g') : Row (w.setCell ⟨g', i, none⟩ v) g t cs := (Below.heap_setCell w ⟨g', i, none⟩ v g hne).trans h
theorem Tri.put {w wr : World} {t u : TypeId} {r : R} {x : Array Value} (h : Hid (Tri w wr t u r x)) (i : Nat) (v : Value) : Hid (Tri w (wr.setCell ⟨w.heap.size + 1 + 1, i, none⟩ v) t u r (x.setIfInBounds i v)) :=
 ⟨Row.apart h.out.r i v (by omega), Row.apart h.out.z i v (by omega), h.out.x.put i v, h.out.b.setCell (by show w.heap.size ≤ w.heap.size + 1 + 1; omega) v⟩
end Go.Proofs.YthljdhfgphebnaaGreat.L4

namespace Go.Proofs.YthljdhfgphebnaaGreat.L4
open Go.ChangeShapes Go.WideShapes Go.ChangeAt Go.RowKit Mem Sl Ex L2

section
variable {H : Type} {enc : TypeId × Value → H} {W : World} {b : Nat} {sp : Nat → Bool} {hd : Bool}
end

def boxR (g : Nat) (t : TypeId) (cs : Array Value) : Res where
 fp := [g]
 is w := Row w g t cs
 loc := fun hs h => (hs g (by simp)).trans h
theorem push_box {W w : World} {rs : List Res} (h : Sep W w rs) (t : TypeId) (cs : Array Value) (g : Nat) (hg : g = w.heap.size) : Sep W (w.alloc (.cells cs t)) (rs ++ [boxR g t cs]) := by
 subst hg
 exact h.push ((Below.refl _ _).alloc (Nat.le_refl _) _) (Row.made w t cs) (fun b hb => by simp [boxR] at hb; subst hb; exact ⟨Nat.le_refl _, by simp⟩)
theorem box_at {W w : World} {rs : List Res} {g : Nat} {t : TypeId} {cs : Array Value} (h : Sep W w rs) (i : Nat) (hi : rs[i]? = some (boxR g t cs)) : Row w g t cs := h.is i _ hi
theorem box3 {W w : World} {rs : List Res} {g : Nat} {t : TypeId} {x y z : Value} (h : Sep W w rs) (i : Nat) (hi : rs[i]? = some (boxR g t #[x, y, z])) : w.cell? ⟨g, 0, none⟩ = some x ∧ w.cell? ⟨g, 1, none⟩ = some y ∧ w.cell? ⟨g, 2, none⟩ = some z := by
 have h' := box_at h i hi
 refine ⟨?_, ?_, ?_⟩ <;> (rw [h'.cell]; rfl)
end Go.Proofs.YthljdhfgphebnaaGreat.L4

namespace Go.Proofs.YthljdhfgphebnaaGreat.Bag
open Go.ChangeShapes Go.WideShapes Go.ChangeAt Go.RowKit Mem Sl Sv

structure RowS where
 e : TypeId
 k : Nat
 a : Option Addr
 c : Nat
 n : Nat
 xs : List Value
def RowS.fp (r : RowS) : List Nat := (Value.slice r.a r.n r.c).ownBlock.toList
def RowS.Own (w : World) (B : Nat) (r : RowS) : Prop := OwnV w B r.e r.k r.a r.c r.n r.xs
def RowS.res (r : RowS) : Res := ownV r.e r.k r.a r.c r.n r.xs
structure RowS.Rd (w : World) (B : Nat) (r : RowS) : Prop where
 reads : Reads w B r.a r.xs
 cap : r.n ≤ r.c
 zero : r.a = none → r.c = 0
def Apart (r s : RowS) : Prop := ∀ b ∈ r.fp, b ∉ s.fp
theorem Apart.symm {r s : RowS} (h : Apart r s) : Apart s r := fun b hs hr => h b hr hs
structure BagOwn (w : World) (B : Nat) (rows : List RowS) : Prop where
 own : ∀ r ∈ rows, r.Own w B
 apart : rows.Pairwise Apart
def RowsRd (w : World) (B : Nat) (rows : List RowS) : Prop := ∀ r ∈ rows, r.Rd w B

section
variable {w w' : World} {B B' : Nat} {rows ys : List RowS} {r : RowS}
theorem RowS.Own.lt (h : r.Own w B) : ∀ b ∈ r.fp, B ≤ b ∧ b < w.heap.size := fun b hb => by
 rcases h.form with ⟨e, _⟩ | ⟨g, e, h1, h2, _⟩
 ·
  simp [RowS.fp, e, Value.ownBlock] at hb
 ·
  simp [RowS.fp, e, Value.ownBlock] at hb
  subst hb
  exact ⟨h1, h2⟩
theorem RowS.Own.rd (h : r.Own w B) : r.Rd w w.heap.size := ⟨h.reads, h.cap, fun e => by
 rcases h.form with ⟨_, _, _, h1⟩ | ⟨g, e2, _⟩
 ·
  exact h1
 ·
  rw [e] at e2; cases e2⟩
theorem RowS.Rd.below (h : r.Rd w B) (hb : Below B w w') : r.Rd w' B := ⟨h.reads.below hb, h.cap, h.zero⟩
theorem RowS.Rd.more (h : r.Rd w B) (hB : B ≤ B') : r.Rd w B' := ⟨h.reads.more hB, h.cap, h.zero⟩
theorem RowsRd.below (h : RowsRd w B rows) (hb : Below B w w') : RowsRd w' B rows := fun r hr => (h r hr).below hb
theorem RowsRd.more (h : RowsRd w B rows) (hB : B ≤ B') : RowsRd w B' rows := fun r hr => (h r hr).more hB
theorem RowsRd.sub (h : RowsRd w B rows) (hs : ∀ r ∈ ys, r ∈ rows) : RowsRd w B ys := fun r hr => h r (hs r hr)
theorem RowsRd.at_ (h : RowsRd w B rows) (hr : r ∈ rows) : r.Rd w B := h r hr
theorem BagOwn.rd (h : BagOwn w B rows) : RowsRd w w.heap.size rows := fun r hr => (h.own r hr).rd
theorem BagOwn.nil (w : World) (B : Nat) : BagOwn w B [] := ⟨fun r hr => (by cases hr), List.Pairwise.nil⟩
theorem BagOwn.base (h : BagOwn w B rows) (hB : B' ≤ B) : BagOwn w B' rows := ⟨fun r hr => OwnV.base (h.own r hr) hB, h.apart⟩
theorem BagOwn.lt (h : BagOwn w B rows) : ∀ b ∈ rows.flatMap RowS.fp, B ≤ b ∧ b < w.heap.size := fun b hb => by
 obtain ⟨r, hr, hm⟩ := List.mem_flatMap.1 hb
 exact (h.own r hr).lt b hm
theorem BagOwn.one (h : r.Own w B) : BagOwn w B [r] := ⟨fun s hs => by rw [List.mem_singleton] at hs; rw [hs]; exact h, List.pairwise_singleton ..⟩
theorem BagOwn.lift (h : BagOwn w B rows) (hB : ∀ b ∈ rows.flatMap RowS.fp, B' ≤ b) : BagOwn w B' rows := ⟨fun r hr => OwnV.lift (h.own r hr) fun b hb => hB b (List.mem_flatMap.2 ⟨r, hr, hb⟩), h.apart⟩
theorem BagOwn.app (h : BagOwn w B rows) (k : BagOwn w B ys) (ha : ∀ b ∈ rows.flatMap RowS.fp, b ∉ ys.flatMap RowS.fp) : BagOwn w B (rows ++ ys) :=
 ⟨fun r hr => by
  rcases List.mem_append.1 hr with h1 | h1
  ·
   exact h.own r h1
  ·
   exact k.own r h1, List.pairwise_append.2 ⟨h.apart, k.apart, fun r hr s hs b hb hb2 => ha b (List.mem_flatMap.2 ⟨r, hr, hb⟩) (List.mem_flatMap.2 ⟨s, hs, hb2⟩)⟩⟩
theorem BagOwn.perm (h : BagOwn w B rows) (hp : rows.Perm ys) : BagOwn w B ys := ⟨fun r hr => h.own r (hp.mem_iff.2 hr), (hp.pairwise_iff (fun h => Apart.symm h)).1 h.apart⟩
theorem BagOwn.sub (h : BagOwn w B rows) (hs : ys.Sublist rows) : BagOwn w B ys := ⟨fun r hr => h.own r (hs.subset hr), h.apart.sublist hs⟩
end

def bag (rows : List RowS) : Res where
 fp := rows.flatMap RowS.fp
 is w := BagOwn w 0 rows
 loc := fun hs h => ⟨fun r hr => r.res.loc (fun b hb => hs b (List.mem_flatMap.2 ⟨r, hr, hb⟩)) (h.own r hr), h.apart⟩

section
variable {W w w' : World} {rs : List Res} {rows xs ys : List RowS} {r : RowS}
theorem turn {r r' : Res} (h : Sep W w rs) (i : Nat) (hi : rs[i]? = some r) (hr : r.is w → r'.is w) (hf : ∀ b ∈ r'.fp, b ∈ r.fp) : Sep W w (rs.set i r') := h.put i hi (Turned.refl _ _) (hr (h.is i r hi)) hf
theorem bag_at (h : Sep W w rs) (i : Nat) (hi : rs[i]? = some (bag rows)) : BagOwn w 0 rows := h.is i _ hi
theorem bag_rd (h : Sep W w rs) (i : Nat) (hi : rs[i]? = some (bag rows)) : RowsRd w w.heap.size rows := (bag_at h i hi).rd
theorem bag_from (h : Sep W w rs) (i : Nat) (hi : rs[i]? = some (bag rows)) : BagOwn w W.heap.size rows := (bag_at h i hi).lift fun b hb => (h.lies i _ hi b hb).1
theorem push_bag (h : Sep W w rs) (hb : Below w.heap.size w w') (ho : BagOwn w' w.heap.size rows) : Sep W w' (rs ++ [bag rows]) :=
 h.push hb (ho.base (Nat.zero_le _)) fun b hm => ho.lt b hm
theorem bag_of_one (h : Sep W w rs) (i : Nat) (hi : rs[i]? = some r.res) : Sep W w (rs.set i (bag [r])) :=
 turn h i hi (fun ho => BagOwn.one ho) (fun b hb => by simpa [bag, RowS.res, RowS.fp, ownV] using hb)
theorem one_of_bag (h : Sep W w rs) (i : Nat) (hi : rs[i]? = some (bag [r])) : Sep W w (rs.set i r.res) :=
 turn h i hi (fun ho => ho.own r (List.mem_singleton_self r)) (fun b hb => by simpa [bag, RowS.res, RowS.fp, ownV] using hb)
theorem bag_perm (h : Sep W w rs) (i : Nat) (hi : rs[i]? = some (bag xs)) (hp : xs.Perm ys) : Sep W w (rs.set i (bag ys)) :=
 turn h i hi (fun ho => BagOwn.perm ho hp) (fun b hb => by
  obtain ⟨r, hr, hm⟩ := List.mem_flatMap.1 hb
  exact List.mem_flatMap.2 ⟨r, hp.mem_iff.2 hr, hm⟩)
theorem bag_join (h : Sep W w rs) (i j : Nat) (hij : i ≠ j) (hi : rs[i]? = some (bag xs)) (hj : rs[j]? = some (bag ys)) : Sep W w ((rs.set j (bag [])).set i (bag (xs ++ ys))) := by
 have hli : i < rs.length := (List.getElem?_eq_some_iff.1 hi).1
 have hlj : j < rs.length := (List.getElem?_eq_some_iff.1 hj).1
 have key : ∀ (q : Nat) (s : Res), ((rs.set j (bag [])).set i (bag (xs ++ ys)))[q]? = some s → (q = i ∧ s = bag (xs ++ ys)) ∨ (q = j ∧ s = bag []) ∨ (q ≠ i ∧ q ≠ j ∧ rs[q]? = some s) := fun q s hq => by
  by_cases e : i = q
  ·
   subst e
   rw [List.getElem?_set_self (by simpa using hli)] at hq
   exact .inl ⟨rfl, (Option.some.inj hq).symm⟩
  ·
   rw [List.getElem?_set_ne e] at hq
   by_cases e2 : j = q
   ·
    subst e2
    rw [List.getElem?_set_self hlj] at hq
    exact .inr (.inl ⟨rfl, (Option.some.inj hq).symm⟩)
   ·
    rw [List.getElem?_set_ne e2] at hq
    exact .inr (.inr ⟨fun h => e h.symm, fun h => e2 h.symm, hq⟩)
 have hfp : ∀ b, b ∈ (bag (xs ++ ys)).fp → b ∈ (bag xs).fp ∨ b ∈ (bag ys).fp := fun b hb => by
  have : b ∈ (xs ++ ys).flatMap RowS.fp := hb
  rw [List.flatMap_append] at this
  exact List.mem_append.1 this
 refine ⟨h.old, fun q s hq => ?_, fun q s hq b hb => ?_, fun p q s t hp hq hne b hb hb2 => ?_⟩
 ·
  rcases key q s hq with ⟨_, rfl⟩ | ⟨_, rfl⟩ | ⟨_, _, h1⟩
  ·
   exact BagOwn.app (h.is i _ hi) (h.is j _ hj) (fun b hb => h.apart i j _ _ hi hj hij b hb)
  ·
   exact BagOwn.nil _ _
  ·
   exact h.is q s h1
 ·
  rcases key q s hq with ⟨_, rfl⟩ | ⟨_, rfl⟩ | ⟨_, _, h1⟩
  ·
   rcases hfp b hb with h2 | h2
   ·
    exact h.lies i _ hi b h2
   ·
    exact h.lies j _ hj b h2
  ·
   simp [bag] at hb
  ·
   exact h.lies q s h1 b hb
 ·
  rcases key p s hp with ⟨e1, rfl⟩ | ⟨e1, rfl⟩ | ⟨n1, n2, h1⟩ <;> rcases key q t hq with ⟨e2, rfl⟩ | ⟨e2, rfl⟩ | ⟨n3, n4, h2⟩
  ·
   exact hne (e1.trans e2.symm)
  ·
   simp [bag] at hb2
  ·
   rcases hfp b hb with h3 | h3
   ·
    exact h.apart i q _ t hi h2 (fun e => n3 e.symm) b h3 hb2
   ·
    exact h.apart j q _ t hj h2 (fun e => n4 e.symm) b h3 hb2
  ·
   simp [bag] at hb
  ·
   simp [bag] at hb
  ·
   simp [bag] at hb
  ·
   rcases hfp b hb2 with h3 | h3
   ·
    exact h.apart p i s _ h1 hi n1 b hb h3
   ·
    exact h.apart p j s _ h1 hj n2 b hb h3
  ·
   simp [bag] at hb2
  ·
   exact h.apart p q s t h1 h2 hne b hb hb2
theorem bag_split (h : Sep W w rs) (i : Nat) (hi : rs[i]? = some (bag (xs ++ ys))) : Sep W w (rs.set i (bag xs) ++ [bag ys]) := by
 have hli : i < rs.length := (List.getElem?_eq_some_iff.1 hi).1
 have ho : BagOwn w 0 (xs ++ ys) := h.is i _ hi
 have hap := List.pairwise_append.1 ho.apart
 have hfp : ∀ b, b ∈ (bag xs).fp ∨ b ∈ (bag ys).fp → b ∈ (bag (xs ++ ys)).fp := fun b hb => by
  show b ∈ (xs ++ ys).flatMap RowS.fp
  rw [List.flatMap_append]
  exact List.mem_append.2 hb
 have hno : ∀ b, b ∈ (bag xs).fp → b ∉ (bag ys).fp := fun b hb hb2 => by
  obtain ⟨r, hr, hm⟩ := List.mem_flatMap.1 (show b ∈ xs.flatMap RowS.fp from hb)
  obtain ⟨s, hs, hm2⟩ := List.mem_flatMap.1 (show b ∈ ys.flatMap RowS.fp from hb2)
  exact hap.2.2 r hr s hs b hm hm2
 have key : ∀ (q : Nat) (s : Res), (rs.set i (bag xs) ++ [bag ys])[q]? = some s → (q = i ∧ s = bag xs) ∨ (q = rs.length ∧ s = bag ys) ∨ (q ≠ i ∧ q ≠ rs.length ∧ rs[q]? = some s) := fun q s hq => by
  rcases Nat.lt_trichotomy q rs.length with hl | hl | hl
  ·
   rw [List.getElem?_append_left (by simpa using hl)] at hq
   by_cases e : i = q
   ·
    subst e
    rw [List.getElem?_set_self hli] at hq
    exact .inl ⟨rfl, (Option.some.inj hq).symm⟩
   ·
    rw [List.getElem?_set_ne e] at hq
    exact .inr (.inr ⟨fun h => e h.symm, by omega, hq⟩)
  ·
   subst hl
   rw [List.getElem?_append_right (by simp)] at hq
   simp at hq
   exact .inr (.inl ⟨rfl, hq.symm⟩)
  ·
   rw [List.getElem?_eq_none (by simp; omega)] at hq
   cases hq
 refine ⟨h.old, fun q s hq => ?_, fun q s hq b hb => ?_, fun p q s t hp hq hne b hb hb2 => ?_⟩
 ·
  rcases key q s hq with ⟨_, rfl⟩ | ⟨_, rfl⟩ | ⟨_, _, h1⟩
  ·
   exact ho.sub (List.sublist_append_left ..)
  ·
   exact ho.sub (List.sublist_append_right ..)
  ·
   exact h.is q s h1
 ·
  rcases key q s hq with ⟨_, rfl⟩ | ⟨_, rfl⟩ | ⟨_, _, h1⟩
  ·
   exact h.lies i _ hi b (hfp b (.inl hb))
  ·
   exact h.lies i _ hi b (hfp b (.inr hb))
  ·
   exact h.lies q s h1 b hb
 ·
  rcases key p s hp with ⟨e1, rfl⟩ | ⟨e1, rfl⟩ | ⟨n1, n2, h1⟩ <;> rcases key q t hq with ⟨e2, rfl⟩ | ⟨e2, rfl⟩ | ⟨n3, n4, h2⟩
  ·
   exact hne (e1.trans e2.symm)
  ·
   exact hno b hb hb2
  ·
   exact h.apart i q _ t hi h2 (fun e => n3 e.symm) b (hfp b (.inl hb)) hb2
  ·
   exact hno b hb2 hb
  ·
   exact hne (e1.trans e2.symm)
  ·
   exact h.apart i q _ t hi h2 (fun e => n3 e.symm) b (hfp b (.inr hb)) hb2
  ·
   exact h.apart p i s _ h1 hi n1 b hb (hfp b (.inl hb2))
  ·
   exact h.apart p i s _ h1 hi n1 b hb (hfp b (.inr hb2))
  ·
   exact h.apart p q s t h1 h2 hne b hb hb2
end
section
variable {W w : World} {rs ts : List Res} {g : Nat} {t : TypeId} {cs : Array Value} {v : Value}
theorem cell_at (h : Sep W w rs) (i : Nat) (hi : rs[i]? = some (L4.boxR g t cs)) (j : Nat) (hj : cs[j]? = some v) : w.cell? ⟨g, j, none⟩ = some v := by rw [(L4.box_at h i hi).cell, hj]
theorem cs1 {a0 : Value} (h : Sep W w rs) (i : Nat) (hi : rs[i]? = some (L4.boxR g t #[a0])) : w.cell? ⟨g, 0, none⟩ = some a0 := cell_at h i hi 0 rfl
theorem cs2 {a0 a1 : Value} (h : Sep W w rs) (i : Nat) (hi : rs[i]? = some (L4.boxR g t #[a0, a1])) : w.cell? ⟨g, 0, none⟩ = some a0 ∧ w.cell? ⟨g, 1, none⟩ = some a1 := ⟨cell_at h i hi 0 rfl, cell_at h i hi 1 rfl⟩
theorem cs3 {a0 a1 a2 : Value} (h : Sep W w rs) (i : Nat) (hi : rs[i]? = some (L4.boxR g t #[a0, a1, a2])) : w.cell? ⟨g, 0, none⟩ = some a0 ∧ w.cell? ⟨g, 1, none⟩ = some a1 ∧ w.cell? ⟨g, 2, none⟩ = some a2 := ⟨cell_at h i hi 0 rfl, cell_at h i hi 1 rfl, cell_at h i hi 2 rfl⟩
theorem cs4 {a0 a1 a2 a3 : Value} (h : Sep W w rs) (i : Nat) (hi : rs[i]? = some (L4.boxR g t #[a0, a1, a2, a3])) : w.cell? ⟨g, 0, none⟩ = some a0 ∧ w.cell? ⟨g, 1, none⟩ = some a1 ∧ w.cell? ⟨g, 2, none⟩ = some a2 ∧ w.cell? ⟨g, 3, none⟩ = some a3 := ⟨cell_at h i hi 0 rfl, cell_at h i hi 1 rfl, cell_at h i hi 2 rfl, cell_at h i hi 3 rfl⟩
theorem free_at (h : Sep W w rs) (i : Nat) (hi : rs[i]? = some (L4.boxR g t cs)) (j : Nat) : w.frozen? ⟨g, j, none⟩ = false := (L4.box_at h i hi).free j
theorem fs2 {a0 a1 : Value} (h : Sep W w rs) (i : Nat) (hi : rs[i]? = some (L4.boxR g t #[a0, a1])) : w.frozen? ⟨g, 0, none⟩ = false ∧ w.frozen? ⟨g, 1, none⟩ = false := ⟨free_at h i hi 0, free_at h i hi 1⟩
theorem fs3 {a0 a1 a2 : Value} (h : Sep W w rs) (i : Nat) (hi : rs[i]? = some (L4.boxR g t #[a0, a1, a2])) : w.frozen? ⟨g, 0, none⟩ = false ∧ w.frozen? ⟨g, 1, none⟩ = false ∧ w.frozen? ⟨g, 2, none⟩ = false := ⟨free_at h i hi 0, free_at h i hi 1, free_at h i hi 2⟩
theorem fs4 {a0 a1 a2 a3 : Value} (h : Sep W w rs) (i : Nat) (hi : rs[i]? = some (L4.boxR g t #[a0, a1, a2, a3])) : w.frozen? ⟨g, 0, none⟩ = false ∧ w.frozen? ⟨g, 1, none⟩ = false ∧ w.frozen? ⟨g, 2, none⟩ = false ∧ w.frozen? ⟨g, 3, none⟩ = false := ⟨free_at h i hi 0, free_at h i hi 1, free_at h i hi 2, free_at h i hi 3⟩
theorem drew1 (h : Sep W w rs) : Sep W w.drew rs := h.drews 1
theorem take (h : Sep W w rs) (is : List Nat) (he : is.map (fun i => rs[i]?) = ts.map some) (hd : is.Nodup) : Sep W w ts := by
 have hl : is.length = ts.length := by simpa using congrArg List.length he
 refine sep_sub h (fun i => is.getD i 0) (fun i r hr => ?_) (fun i j hi hj e => ?_)
 ·
  have hi : i < ts.length := (List.getElem?_eq_some_iff.1 hr).1
  have h2 := congrArg (fun l => l[i]?) he
  simp only [List.getElem?_map, List.getElem?_eq_getElem (show i < is.length by omega), hr, Option.map_some] at h2
  rw [List.getD_eq_getElem?_getD, List.getElem?_eq_getElem (show i < is.length by omega)]
  simpa using h2
 ·
  simp only [List.getD_eq_getElem?_getD, List.getElem?_eq_getElem (show i < is.length by omega), List.getElem?_eq_getElem (show j < is.length by omega), Option.getD_some] at e
  exact (List.getElem_inj hd).1 e
end
end Go.Proofs.YthljdhfgphebnaaGreat.Bag

namespace Go.Proofs.YthljdhfgphebnaaGreat.Run
open Go.ChangeShapes Go.WideShapes Go.ChangeAt Go.RowKit Mem Sl Sv Bag

def over (xs : List Value) (o : Nat) (vs : List Value) : List Value := xs.take o ++ (vs ++ xs.drop (o + vs.length))
theorem over_nil (xs : List Value) (o : Nat) : over xs o [] = xs := by simp [over]
theorem over_all (xs vs : List Value) (h : xs.length = vs.length) : over xs 0 vs = vs := by simp [over, ← h]
theorem over_at (A Z : List Value) (o : Nat) (vs : List Value) (ho : A.length = o) (hv : vs.length ≤ Z.length) : over (A ++ Z) o vs = A ++ (vs ++ Z.drop vs.length) := by
 subst ho
 simp [over, List.take_left', List.drop_append]
theorem over_cons (xs : List Value) (o : Nat) (v : Value) (vs : List Value) (h : o < xs.length) : over (xs.set o v) (o + 1) vs = over xs o (v :: vs) := by
 unfold over
 rw [List.drop_set_of_lt (by omega), List.take_add_one, List.take_set_of_le (Nat.le_refl o)]
 simp [h, Nat.add_comm]
 congr 1
 omega
section
variable {w w' : World} {B : Nat} {e : TypeId} {k c n g : Nat} {a : Option Addr} {xs : List Value}
theorem own_run (vs : List Value) : ∀ {w : World} {xs : List Value} (o : Nat), OwnV w B e k (some ⟨g, 0, none⟩) c n xs → o + vs.length ≤ xs.length → OwnV (w.setCells g o vs) B e k (some ⟨g, 0, none⟩) c n (over xs o vs) := by
 induction vs with
 | nil => intro w xs o h _; rw [over_nil]; exact h
 | cons v vs ih =>
  intro w xs o h hl
  simp only [List.length_cons] at hl
  have h1 := ih (o + 1) (h.set o (by omega) v) (by rw [List.length_set]; omega)
  rw [over_cons xs o v vs (by omega)] at h1
  exact h1
theorem turned_run (vs : List Value) : ∀ (w : World) (o : Nat), Turned [g] w (w.setCells g o vs) := by
 induction vs with
 | nil => intro w o; exact Turned.refl _ _
 | cons v vs ih => intro w o; exact (Turned.of_grown (grownBy_put w g o v)).trans (ih _ _)
theorem own_shorter (h : OwnV w B e k a c n xs) (m : Nat) (hm : m ≤ n) : OwnV w B e k a c m (xs.take (m * k)) := by
 have hmk : m * k ≤ n * k := Nat.mul_le_mul_right _ hm
 refine ⟨by rw [List.length_take, h.1]; omega, ?_⟩
 rcases h.2 with ⟨hv, hn⟩ | ⟨g, cap, cur, hv, hB, hg, h1, h2, h3, h4⟩
 ·
  injection hv with e1 e2 e3
  subst e1
  subst e3
  exact .inl ⟨by rw [show m = 0 by omega], by omega⟩
 ·
  injection hv with e1 e2 e3
  subst e1
  subst e3
  exact .inr ⟨g, c, cur, rfl, hB, hg, by omega, h2, h3, by rw [← h4, List.take_take, Nat.min_eq_left hmk]⟩
end
section
variable {W w w' : World} {rs : List Res} {e : TypeId} {k c n g : Nat} {a : Option Addr} {xs : List Value}
theorem put_run (h : Sep W w rs) (i : Nat) (hi : rs[i]? = some (ownV e k (some ⟨g, 0, none⟩) c n xs)) (o : Nat) (vs : List Value) (ho : o + vs.length ≤ xs.length) : Sep W (w.setCells g o vs) (rs.set i (ownV e k (some ⟨g, 0, none⟩) c n (over xs o vs))) :=
 h.put i hi (turned_run vs w o) (own_run vs o (own_at h i hi) ho) (fun b hb => hb)
theorem shorter (h : Sep W w rs) (i : Nat) (hi : rs[i]? = some (ownV e k a c n xs)) (m : Nat) (hm : m ≤ n) : Sep W w (rs.set i (ownV e k a c m (xs.take (m * k)))) :=
 turn h i hi (fun ho => own_shorter (w := w) (B := 0) ho m hm) (fun b hb => by
  cases a with
  | none => simp [ownV, Value.ownBlock] at hb
  | some ad => simpa [ownV, Value.ownBlock] using hb)
end
section
variable {P : Program}
theorem run_copy_src (w : World) (dT sT ty e : TypeId) (i : TypeInfo) (k g q dl dc sl sc : Nat) (A : Option Addr) (cs : List Value) (hu : P.underlying dT = some (.slice e)) (hi : P.info? e = some i) (hs : i.size = k) (hn : cs.length = Nat.min sl dl * k)
  (B : Nat) (hr : Reads w B A cs) (hc : ∀ j, j < cs.length → (w.cell? ⟨g, q + j, none⟩).isSome = true) (hf : ∀ j, j < cs.length → w.frozen? ⟨g, q + j, none⟩ = false) (h1 : ∀ v ∈ cs, v.oneCell' = true) :
  (Builtin.copy_ #[dT, sT] ty #[.slice (some ⟨g, q, none⟩) dl dc, .slice A sl sc]).run P w = .ok (goInt (Nat.min sl dl)) (w.setCells g q cs) := by
 have hst := run_storeCells_cells (P := P) g q cs 0 w (by simpa using hc) (by simpa using hf) h1
 cases A with
 | none =>
  have hcs : cs = [] := by
   rcases cs with _ | ⟨x, xs⟩
   ·
    rfl
   ·
    obtain ⟨ad, h, _⟩ := hr 0 (by simp)
    cases h
  subst hcs
  simp [Builtin.copy_, run_underlying hu, Builtin.lenOf, Builtin.firstCells, sizeOf, typeInfo, hi, storeCells, World.setCells]
 | some ad =>
  have hl := run_loadCells_list (P := P) w ad cs (fun j v hj => by
   obtain ⟨hjl, rfl⟩ := List.getElem?_eq_some_iff.1 hj
   obtain ⟨ad', h, _, h2⟩ := hr j hjl
   injection h with h
   subst h
   exact h2)
  simp [Builtin.copy_, run_underlying hu, Builtin.lenOf, Builtin.firstCells, sizeOf, typeInfo, hi, hs, ← hn, hl, hst]
theorem run_clear_rows (w : World) (t e ty : TypeId) (i : TypeInfo) (z : Value) (g o n c : Nat) (ht : P.underlying t = some (.slice e)) (hi : P.info? e = some i) (hz : i.zero = some z)
  (hc : ∀ j, j < n * z.cells.size → (w.cell? ⟨g, o + j, none⟩).isSome = true) (hf : ∀ j, j < n * z.cells.size → w.frozen? ⟨g, o + j, none⟩ = false) (h1 : ∀ v ∈ (Builtin.zeroCells z.cells n).toList, v.oneCell' = true) :
  (Builtin.clear_ #[t] ty #[.slice (some ⟨g, o, none⟩) n c]).run P w = .ok (.tuple #[]) (w.setCells g o (Builtin.zeroCells z.cells n).toList) := by
 have hlen : (Builtin.zeroCells z.cells n).toList.length = n * z.cells.size := by rw [Array.length_toList, size_zeroCells]
 have hst := run_storeCells_cells (P := P) g o (Builtin.zeroCells z.cells n).toList 0 w (by rw [hlen]; simpa using hc) (by rw [hlen]; simpa using hf) h1
 simp only [Nat.add_zero] at hst
 rcases n with _ | m
 ·
  simp [Builtin.clear_, run_underlying ht, Builtin.zeroCells, World.setCells]
 ·
  simp [Builtin.clear_, run_underlying ht, zeroValue, typeInfo, hi, hz, hst]
end
section
variable {P : Program} {W w : World} {rs : List Res} {e : TypeId} {k g c n : Nat} {xs : List Value}
theorem run_copy_s (S : Sep W w rs) (j : Nat) (hj : rs[j]? = some (ownV e k (some ⟨g, 0, none⟩) c n xs)) (dT sT ty : TypeId) (i : TypeInfo) (hu : P.underlying dT = some (.slice e)) (hi : P.info? e = some i) (hs : i.size = k)
  (q dl dc sl sc : Nat) (A : Option Addr) (cs : List Value) (hn : cs.length = Nat.min sl dl * k) (B : Nat) (hr : Reads w B A cs) (hq : q + cs.length ≤ xs.length) (h1 : ∀ v ∈ cs, v.oneCell' = true) :
  (Builtin.copy_ #[dT, sT] ty #[.slice (some ⟨g, q, none⟩) dl dc, .slice A sl sc]).run P w = .ok (goInt (Nat.min sl dl)) (w.setCells g q cs) :=
 run_copy_src w dT sT ty e i k g q dl dc sl sc A cs hu hi hs hn B hr (fun m hm => by rw [(own_at S j hj).cell (q + m) (by omega)]; rfl) (fun m hm => (own_at S j hj).free (q + m)) h1
theorem step_copy_s (S : Sep W w rs) (j : Nat) (hj : rs[j]? = some (ownV e k (some ⟨g, 0, none⟩) c n xs)) {ops : Array Oper} {o : Oper} {act : Act} {K : Act → World → Prop} {Q : Exit → Act → World → Prop} {E : Prop} (hgd : o.guard = none) (d s : Operand) (t t' : TypeId)
  (ho : o.op = .call { callee := .builtin .copy, args := #[d, s], argTypes := #[t, t'] }) (i : TypeInfo) (hu : P.underlying t = some (.slice e)) (hi : P.info? e = some i) (hs : i.size = k)
  (q dl dc : Nat) (hd : act.eval d = .slice (some ⟨g, q, none⟩) dl dc) (A : Option Addr) (sl sc : Nat) (hx : act.eval s = .slice A sl sc) (B : Nat) (cs : List Value) (hr : Reads w B A cs) (hn : cs.length = Nat.min sl dl * k) (hq : q + cs.length ≤ xs.length) (h1 : ∀ v ∈ cs, v.oneCell' = true)
  (h : ∀ w', Sep W w' (rs.set j (ownV e k (some ⟨g, 0, none⟩) c n (over xs q cs))) → K (act.put o.dst (goInt (Nat.min sl dl))) w') : if Region.wanted o (yielded ops act.tmps) = true then Oper.wp P o act w K Q else E := by
 have hw : Region.wanted o (yielded ops act.tmps) = true := by simp [Region.wanted, hgd]
 rw [if_pos hw]
 have hrun := run_copy_s (P := P) S j hj t t' o.type i hu hi hs q dl dc sl sc A cs hn B hr hq h1
 unfold Oper.wp execOp
 simp only [ho, resolve, invoke, builtin, Sem.run_bind, Sem.run_pure, Result.andThen_ok, List.map_toArray, List.map_cons, List.map_nil, hd, hx, hrun]
 exact h _ (put_run S j hj q cs hq)
theorem wpList_make_s (S : Sep W w rs) {ops : Array Oper} {rest : List Oper} {o : Oper} {act : Act} {Q : Exit → Act → World → Prop} (hg : o.guard = none) (l cc : Operand) (t : TypeId) (hop : o.op = Op.makeSlice t l cc)
  (e : TypeId) (i : TypeInfo) (z : Value) (k : Nat) (h1 : P.underlying t = some (.slice e)) (h2 : P.info? e = some i) (h3 : i.zero = some z) (h4 : i.size = k)
  (kl kc : IntKind) (n : Nat) (hl : act.eval l = .int kl n) (hc : act.eval cc = .int kc n) (b2 : i.bytes * n ≤ 281474976710656) (b3 : n ≤ maxLen)
  (hK : ∀ w', Sep W w' (rs ++ [ownV e k (some ⟨w.heap.size, 0, none⟩) n n (madeCells z.cells (n * k)).toList]) → wpList P ops Q rest (act.put o.dst (.slice (some ⟨w.heap.size, 0, none⟩) n n)) w') : wpList P ops Q (o :: rest) act w :=
 wpList_make_full w hg l cc t hop w.heap.size e i z k h1 h2 h3 h4 kl kc n n n hl hc rfl rfl b2 b3 (Nat.le_refl _) fun w' h5 h6 =>
  hK w' (push_own S (by
   have := Turned.of_grown h6
   exact this.below (Nat.le_refl _) (fun b hb => by simp at hb)) h5)
theorem wpList_zeros_s (S : Sep W w rs) {ops : Array Oper} {rest : List Oper} {o : Oper} {act : Act} {Q : Exit → Act → World → Prop} (hgd : o.guard = none) (s x : Operand) (t tn : TypeId)
  (ho : o.op = .call { callee := .builtin .append, args := #[s, x], argTypes := #[t, tn] }) (e : TypeId) (i : TypeInfo) (z : Value) (k bytes : Nat) (kq kn : IntKind) (ht : P.underlying t = some (.slice e)) (htn : P.underlying tn = some (.int kn)) (hi : P.info? e = some i) (hz : i.zero = some z)
  (hs : i.size = k) (hby : i.bytes = bytes) (hzs : z.cells.size = k) (hk : 0 < k) (ad : Addr) (l c m : Nat) (hsv : act.eval s = .slice (some ad) l c) (hxv : act.eval x = .int kq m) (B : Nat) (ys : List Value) (hr : Reads w B (some ad) ys) (hl : ys.length = l * k)
  (h0 : 0 < m) (hg : c < l + m) (h63 : l + m ≤ maxLen) (hbytes : (l + m) * bytes ≤ 140737488355328)
  (h : ∀ w' C, l + m ≤ C → Sep W w' (rs ++ [ownV e k (some ⟨w.heap.size, 0, none⟩) C (l + m) (ys ++ (Builtin.zeroCells z.cells m).toList)]) → wpList P ops Q rest (act.put o.dst (.slice (some ⟨w.heap.size, 0, none⟩) (l + m) C)) w') : wpList P ops Q (o :: rest) act w := by
 refine wpList_plain hgd fun K hK => ?_
 have hold : (Builtin.firstCells i.size l (.slice (some ad) l c)).run P w.drew = .ok ys.toArray w.drew := by
  rw [hs]
  exact run_firstCells_some w.drew k l ad l c ys hl (fun j v hj => by
   obtain ⟨hjl, rfl⟩ := List.getElem?_eq_some_iff.1 hj
   obtain ⟨ad', h, _, h2⟩ := hr j hjl
   injection h with h
   subst h
   exact h2)
 have hm : ((l + m : Nat) : Int) ≤ 9223372036854775807 := by
  have := h63
  unfold maxLen at this
  omega
 have hrun := Lib.run_append_grow_zeros (P := P) w t tn o.type e i z kq kn ht htn hi hz (some ad) l c ys hold m h0 (by omega) hg hm (by rw [hby]; have := Nat.mul_le_mul_right bytes (show m ≤ l + m by omega); omega) (by rw [hby]; exact growslice_fits hg hbytes)
 have hge := grownCap_ge w (l + m) c e
 have hle := grownCap_le_maxLen w (l + m) c e h63
 obtain ⟨G, hG⟩ : ∃ G, G = grownCap w (l + m) c e := ⟨_, rfl⟩
 rw [← hG] at hrun hge hle
 unfold Oper.wp execOp
 simp only [ho, resolve, invoke, builtin, Sem.run_bind, Sem.run_pure, Result.andThen_ok, List.map_toArray, List.map_cons, List.map_nil, hsv, hxv, hrun]
 refine hK _ _ (h _ G hge (push_own S ((Below.refl _ _).drew.alloc (Nat.le_refl _) _) ?_))
 refine ⟨by simp only [List.length_append, Array.length_toList, size_zeroCells, hl, hzs, Nat.add_mul], .inr ⟨w.heap.size, G, _, rfl, Nat.le_refl _, heap_alloc_new w.drew _, hge, hle, ?_, ?_⟩⟩
 ·
  simp only [Array.size_append, size_zeroCells, hzs, List.size_toArray, hl]
  rw [← Nat.add_mul, ← Nat.add_mul]
  congr 1
  omega
 ·
  simp only [Array.toList_append, List.append_assoc]
  rw [← List.append_assoc, List.take_left' (by simp only [List.length_append, Array.length_toList, size_zeroCells, hl, hzs, Nat.add_mul])]
theorem wpList_grow_s (S : Sep W w rs) {ops : Array Oper} {rest : List Oper} {o : Oper} {act : Act} {Q : Exit → Act → World → Prop} (hgd : o.guard = none) (s x : Operand) (t : TypeId)
  (ho : o.op = .call { callee := .builtin .append, args := #[s, x], argTypes := #[t, t] }) (e : TypeId) (i : TypeInfo) (z : Value) (k bytes : Nat) (ht : P.underlying t = some (.slice e)) (hi : P.info? e = some i) (hz : i.zero = some z)
  (hs : i.size = k) (hby : i.bytes = bytes) (hzs : z.cells.size = k) (ad : Addr) (l c : Nat) (hsv : act.eval s = .slice (some ad) l c) (B : Nat) (ys : List Value) (hr : Reads w B (some ad) ys) (hl : ys.length = l * k)
  (ad2 : Addr) (m c2 : Nat) (hxv : act.eval x = .slice (some ad2) m c2) (B2 : Nat) (vs : List Value) (hv : Reads w B2 (some ad2) vs) (hvl : vs.length = m * k) (h1 : ∀ u ∈ vs, u.oneCell' = true)
  (hg : c < l + m) (h63 : l + m ≤ maxLen) (hbytes : (l + m) * bytes ≤ 140737488355328)
  (h : ∀ w' C, l + m ≤ C → Sep W w' (rs ++ [ownV e k (some ⟨w.heap.size, 0, none⟩) C (l + m) (ys ++ vs)]) → wpList P ops Q rest (act.put o.dst (.slice (some ⟨w.heap.size, 0, none⟩) (l + m) C)) w') : wpList P ops Q (o :: rest) act w := by
 refine wpList_plain hgd fun K hK => ?_
 have rd : ∀ {w' : World} {B : Nat} {ad : Addr} {ys : List Value}, Reads w' B (some ad) ys → ∀ j v, ys[j]? = some v → w'.cell? (ad.add j) = some v := fun hr j v hj => by
  obtain ⟨hjl, rfl⟩ := List.getElem?_eq_some_iff.1 hj
  obtain ⟨ad', h, _, h2⟩ := hr j hjl
  injection h with h
  subst h
  exact h2
 have hold : (Builtin.firstCells i.size l (.slice (some ad) l c)).run P w.drew = .ok ys.toArray w.drew := by
  rw [hs]
  exact run_firstCells_some w.drew k l ad l c ys hl (rd (w' := w) hr)
 have hsrc : Src P i.size t (.slice (some ad2) m c2) m vs w := Src.ofSlice w ht ad2 m c2 vs (by rw [hs]; exact hvl) (rd hv) h1
 have hm : ((l + m : Nat) : Int) ≤ 9223372036854775807 := by
  have := h63
  unfold maxLen at this
  omega
 have hrun := run_append_grow_src (P := P) w t t o.type e i z ht hi hz (some ad) l c ys hold _ m vs hsrc hg hm (by rw [hby]; exact growslice_fits hg hbytes)
 have hge := grownCap_ge w (l + m) c e
 have hle := grownCap_le_maxLen w (l + m) c e h63
 obtain ⟨G, hG⟩ : ∃ G, G = grownCap w (l + m) c e := ⟨_, rfl⟩
 rw [← hG] at hrun hge hle
 unfold Oper.wp execOp
 simp only [ho, resolve, invoke, builtin, Sem.run_bind, Sem.run_pure, Result.andThen_ok, List.map_toArray, List.map_cons, List.map_nil, hsv, hxv, hrun]
 refine hK _ _ (h _ G hge (push_own S ((Below.refl _ _).drew.alloc (Nat.le_refl _) _) ?_))
 refine ⟨by rw [List.length_append, hl, hvl, Nat.add_mul], .inr ⟨w.heap.size, G, _, rfl, Nat.le_refl _, heap_alloc_new w.drew _, hge, hle, ?_, ?_⟩⟩
 ·
  simp only [Array.size_append, size_zeroCells, hzs, List.size_toArray, List.length_append, hl, hvl]
  rw [← Nat.add_mul, ← Nat.add_mul]
  congr 1
  omega
 ·
  simp only [Array.toList_append]
  rw [List.take_left' (by rw [List.length_append, hl, hvl, Nat.add_mul])]
end
end Go.Proofs.YthljdhfgphebnaaGreat.Run

namespace Go.Proofs.YthljdhfgphebnaaGreat.Run
open Go.ChangeShapes Go.WideShapes Go.ChangeAt Go.RowKit Mem Sl Sv Bag

def restR (W w0 : World) (g : Nat) : Res where
 fp := (List.range w0.heap.size).filter fun b => decide (W.heap.size ≤ b) && decide (b ≠ g)
 is w := ∀ b, b < w0.heap.size → W.heap.size ≤ b → b ≠ g → w.heap[b]? = w0.heap[b]?
 loc := fun hs h b h1 h2 h3 => (hs b (List.mem_filter.2 ⟨List.mem_range.2 h1, by simp [h2, h3]⟩)).trans (h b h1 h2 h3)
theorem over_mid (A C vs old : List Value) (o : Nat) (h : A.length = o) (hv : vs.length = old.length) : over (A ++ (old ++ C)) o vs = A ++ (vs ++ C) := by
 rw [over_at _ _ _ _ h (by rw [List.length_append]; omega), hv, List.drop_left]
section
variable {W w w0 w' : World} {rs : List Res} {e : TypeId} {k c n g : Nat} {xs : List Value}
theorem rest_start (h : Sep W w rs) (i : Nat) (hi : rs[i]? = some (ownV e k (some ⟨g, 0, none⟩) c n xs)) : Sep W w [ownV e k (some ⟨g, 0, none⟩) c n xs, restR W w g] := by
 refine ⟨h.old, fun j r hj => ?_, fun j r hj b hb => ?_, fun j q r s hj hq hne b hb hb2 => ?_⟩
 ·
  rcases j with _ | _ | j
  ·
   simp at hj; subst hj; exact h.is i _ hi
  ·
   simp at hj; subst hj; exact fun b _ _ _ => rfl
  ·
   simp at hj
 ·
  rcases j with _ | _ | j
  ·
   simp at hj; subst hj; exact h.lies i _ hi b hb
  ·
   simp at hj; subst hj
   obtain ⟨h1, h2⟩ := List.mem_filter.1 hb
   simp only [Bool.and_eq_true, decide_eq_true_eq] at h2
   exact ⟨h2.1, List.mem_range.1 h1⟩
  ·
   simp at hj
 ·
  have own : ∀ b, b ∈ (ownV e k (some ⟨g, 0, none⟩) c n xs).fp → b = g := fun b hb => by simpa [ownV, Value.ownBlock] using hb
  have rst : ∀ b, b ∈ (restR W w g).fp → b ≠ g := fun b hb => by
   obtain ⟨_, h2⟩ := List.mem_filter.1 hb
   simp only [Bool.and_eq_true, decide_eq_true_eq] at h2
   exact h2.2
  rcases j with _ | _ | j <;> rcases q with _ | _ | q
  ·
   exact hne rfl
  ·
   simp at hj hq; subst hj; subst hq; exact rst b hb2 (own b hb)
  ·
   simp at hq
  ·
   simp at hj hq; subst hj; subst hq; exact rst b hb (own b hb2)
  ·
   exact hne rfl
  ·
   simp at hq
  ·
   simp at hj
  ·
   simp at hj
  ·
   simp at hj
theorem rest_block (h0 : Below W.heap.size W w0) (h : Sep W w' (ownV e k (some ⟨g, 0, none⟩) c n xs :: restR W w0 g :: rs)) (b : Nat) (hb : b < w0.heap.size) (hg : b ≠ g) : w'.heap[b]? = w0.heap[b]? := by
 rcases Nat.lt_or_ge b W.heap.size with h1 | h1
 ·
  exact (h.old.block b h1).trans (h0.block b h1).symm
 ·
  exact (h.is 1 (restR W w0 g) rfl) b hb h1 hg
theorem rest_turned (h0 : Below W.heap.size W w0) (h : Sep W w' (ownV e k (some ⟨g, 0, none⟩) c n xs :: restR W w0 g :: rs)) : Turned [g] w0 w' := by
 have key := rest_block h0 h
 refine ⟨h.old.os.trans h0.os.symm, h.old.tape.trans h0.tape.symm, h.old.output.trans h0.output.symm, ?_, fun b hb hn => key b hb (by simpa using hn)⟩
 rcases Nat.eq_zero_or_pos w0.heap.size with h1 | h1
 ·
  omega
 ·
  by_cases e1 : w0.heap.size - 1 = g
  ·
   have h2 := (h.lies 0 _ rfl g (by simp [ownV, Value.ownBlock])).2
   omega
  ·
   have h2 := key (w0.heap.size - 1) (by omega) e1
   have h3 := (Array.getElem?_eq_some_iff.1 (h2.trans (Array.getElem?_eq_getElem (show w0.heap.size - 1 < w0.heap.size by omega)))).1
   omega
theorem rest_back {c' n' : Nat} {xs' : List Value} (h : Sep W w rs) (i : Nat) (hi : rs[i]? = some (ownV e k (some ⟨g, 0, none⟩) c n xs)) (h' : Sep W w' [ownV e k (some ⟨g, 0, none⟩) c' n' xs', restR W w g]) : Sep W w' (rs.set i (ownV e k (some ⟨g, 0, none⟩) c' n' xs')) :=
 h.put i hi (by have := rest_turned h.old h'; simpa [ownV, Value.ownBlock] using this) (h'.is 0 _ rfl) (fun b hb => by simpa [ownV, Value.ownBlock] using hb)
theorem reads_app {B o : Nat} {A Bs : List Value} (h : Reads w B (some ⟨g, o, none⟩) (A ++ Bs)) : Reads w B (some ⟨g, o + A.length, none⟩) Bs := fun j hj => by
 obtain ⟨ad, e, hb, hc⟩ := h (A.length + j) (by rw [List.length_append]; omega)
 injection e with e
 subst e
 refine ⟨_, rfl, hb, ?_⟩
 rw [Addr.add_lit] at hc ⊢
 rw [Nat.add_assoc, hc, List.getElem_append_right (by omega)]
 congr 2
 omega
def restL (W w0 : World) (fps : List Nat) : Res where
 fp := (List.range w0.heap.size).filter fun b => decide (W.heap.size ≤ b) && decide (b ∉ fps)
 is w := ∀ b, b < w0.heap.size → W.heap.size ≤ b → b ∉ fps → w.heap[b]? = w0.heap[b]?
 loc := fun hs h b h1 h2 h3 => (hs b (List.mem_filter.2 ⟨List.mem_range.2 h1, by simp [h2, h3]⟩)).trans (h b h1 h2 h3)
theorem restL_start {r : Res} (h : Sep W w rs) (i : Nat) (hi : rs[i]? = some r) : Sep W w [r, restL W w r.fp] := by
 have rst : ∀ b, b ∈ (restL W w r.fp).fp → b ∉ r.fp := fun b hb => by
  obtain ⟨_, h2⟩ := List.mem_filter.1 hb
  simp only [Bool.and_eq_true, decide_eq_true_eq] at h2
  exact h2.2
 refine ⟨h.old, fun j s hj => ?_, fun j s hj b hb => ?_, fun j q s t hj hq hne b hb hb2 => ?_⟩
 ·
  rcases j with _ | _ | j
  ·
   simp at hj; subst hj; exact h.is i _ hi
  ·
   simp at hj; subst hj; exact fun b _ _ _ => rfl
  ·
   simp at hj
 ·
  rcases j with _ | _ | j
  ·
   simp at hj; subst hj; exact h.lies i _ hi b hb
  ·
   simp at hj; subst hj
   obtain ⟨h1, h2⟩ := List.mem_filter.1 hb
   simp only [Bool.and_eq_true, decide_eq_true_eq] at h2
   exact ⟨h2.1, List.mem_range.1 h1⟩
  ·
   simp at hj
 ·
  rcases j with _ | _ | j <;> rcases q with _ | _ | q
  ·
   exact hne rfl
  ·
   simp at hj hq; subst hj; subst hq; exact rst b hb2 hb
  ·
   simp at hq
  ·
   simp at hj hq; subst hj; subst hq; exact rst b hb hb2
  ·
   exact hne rfl
  ·
   simp at hq
  ·
   simp at hj
  ·
   simp at hj
  ·
   simp at hj
theorem restL_turned {r : Res} {fps : List Nat} (h0 : Below W.heap.size W w0) (h : Sep W w' [r, restL W w0 fps]) (hfp : ∀ b ∈ fps, b ∈ r.fp) : Turned fps w0 w' := by
 have key : ∀ b, b < w0.heap.size → b ∉ fps → w'.heap[b]? = w0.heap[b]? := fun b hb hn => by
  rcases Nat.lt_or_ge b W.heap.size with h1 | h1
  ·
   exact (h.old.block b h1).trans (h0.block b h1).symm
  ·
   exact (h.is 1 (restL W w0 fps) rfl) b hb h1 hn
 refine ⟨h.old.os.trans h0.os.symm, h.old.tape.trans h0.tape.symm, h.old.output.trans h0.output.symm, ?_, key⟩
 rcases Nat.eq_zero_or_pos w0.heap.size with h1 | h1
 ·
  omega
 ·
  by_cases e1 : w0.heap.size - 1 ∈ fps
  ·
   have h2 := (h.lies 0 _ rfl _ (hfp _ e1)).2
   omega
  ·
   have h2 := key (w0.heap.size - 1) (by omega) e1
   have h3 := (Array.getElem?_eq_some_iff.1 (h2.trans (Array.getElem?_eq_getElem (show w0.heap.size - 1 < w0.heap.size by omega)))).1
   omega
theorem restL_back {r r' : Res} (h : Sep W w rs) (i : Nat) (hi : rs[i]? = some r) (h' : Sep W w' [r', restL W w r.fp]) (hfp : r'.fp = r.fp) : Sep W w' (rs.set i r') :=
 h.put i hi (restL_turned h.old h' (fun b hb => by rw [hfp]; exact hb)) (h'.is 0 _ rfl) (fun b hb => by rw [← hfp]; exact hb)
end
end Go.Proofs.YthljdhfgphebnaaGreat.Run

namespace Go.Proofs.YthljdhfgphebnaaGreat.L5
open Go.Op (bytesLess)
open L4 (less_irrefl less_total less_asymm less_trans)

structure F where
 name : ByteArray
 n : Int
def F.t (f : F) : List UInt8 := f.name.data.toList
def low (b : UInt8) : Bool := decide (97 ≤ b.toNat) && decide (b.toNat ≤ 122)
def isN (l : List UInt8) : Bool := l.all low && (decide (1 ≤ l.length) && decide (l.length ≤ 8))
def okF (f : F) : Bool := isN f.t && L1.inB f.n 0 1000000000
def asc : List F → Bool
 | [] => true
 | [_] => true
 | x :: y :: r => bytesLess x.t y.t && asc (y :: r)
def isR (l : List F) : Bool := l.all okF && asc l && decide (l.length ≤ 6)
def getO (l : List F) (name : List UInt8) : Option Int := (l.find? fun f => f.t == name).map F.n

def okTo (l : List F) (k : Nat) : Prop := ∀ j (h : j < l.length), j < k → okF l[j] = true ∧ (0 < j → bytesLess (l[j - 1]'(by omega)).t l[j].t = true)
theorem asc_at : ∀ (l : List F), asc l = true ↔ ∀ j (h : j < l.length), 0 < j → bytesLess (l[j - 1]'(by omega)).t l[j].t = true
 | [] => by simp [asc]
 | [x] => by
  simp only [asc, true_iff]
  intro j h h0
  simp at h
  omega
 | x :: y :: r => by
  have ih := asc_at (y :: r)
  simp only [asc, Bool.and_eq_true, ih]
  constructor
  ·
   rintro ⟨h1, h2⟩ j hj h0
   rcases j with _ | _ | j
   ·
    omega
   ·
    simpa using h1
   ·
    have := h2 (j + 1) (by simp at hj ⊢; omega) (by omega)
    simpa using this
  ·
   intro h
   refine ⟨h 1 (by simp) (by omega), fun j hj h0 => ?_⟩
   have := h (j + 1) (by simp at hj ⊢; omega) (by omega)
   rcases j with _ | j
   ·
    omega
   ·
    simpa using this
theorem isR_iff {l : List F} : isR l = true ↔ okTo l l.length ∧ l.length ≤ 6 := by
 unfold isR okTo
 simp only [Bool.and_eq_true, decide_eq_true_eq, asc_at, List.all_eq_true]
 constructor
 ·
  rintro ⟨⟨h1, h2⟩, h3⟩
  exact ⟨fun j hj _ => ⟨h1 _ (List.getElem_mem hj), fun h0 => h2 j hj h0⟩, h3⟩
 ·
  rintro ⟨h1, h3⟩
  refine ⟨⟨fun x hx => ?_, fun j hj h0 => (h1 j hj hj).2 h0⟩, h3⟩
  obtain ⟨i, hi, rfl⟩ := List.getElem_of_mem hx
  exact (h1 i hi hi).1
theorem isR_no {l : List F} (j : Nat) (h : j < l.length) (hb : okF l[j] = false ∨ (0 < j ∧ bytesLess (l[j - 1]'(by omega)).t l[j].t = false)) : isR l = false := by
 cases hr : isR l with
 | false => rfl
 | true =>
  have := (isR_iff.1 hr).1 j h h
  rcases hb with hb | ⟨h0, hb⟩
  ·
   rw [this.1] at hb; cases hb
  ·
   rw [this.2 h0] at hb; cases hb
theorem isN_no {s : List UInt8} (j : Nat) (b : UInt8) (hb : s[j]? = some b) (h : low b = false) : isN s = false := by
 unfold isN
 rw [Bool.and_eq_false_iff]
 left
 rw [List.all_eq_false]
 exact ⟨b, List.mem_of_getElem? hb, by simp [h]⟩
theorem isN_all {s : List UInt8} (h : ∀ j (hj : j < s.length), low s[j] = true) : isN s = L1.inB (s.length : Int) 1 8 := by
 unfold isN L1.inB
 rw [show s.all low = true by rw [List.all_eq_true]; intro x hx; obtain ⟨i, hi, rfl⟩ := List.getElem_of_mem hx; exact h i hi, Bool.true_and]
 congr 1 <;> (rw [decide_eq_decide]; omega)
theorem getO_at {l : List F} {name : List UInt8} (k : Nat) (hk : k < l.length) (h : l[k].t = name) (hb : ∀ j (hj : j < l.length), j < k → l[j].t ≠ name) : getO l name = some l[k].n := by
 unfold getO
 have : l.find? (fun f => f.t == name) = some l[k] := by
  rw [List.find?_eq_some_iff_getElem]
  refine ⟨by simp [h], k, hk, rfl, fun j hj => ?_⟩
  have := hb j (by omega) hj
  simpa using this
 rw [this]
 rfl
theorem getO_none {l : List F} {name : List UInt8} (hb : ∀ j (hj : j < l.length), l[j].t ≠ name) : getO l name = none := by
 unfold getO
 have : l.find? (fun f => f.t == name) = none := by
  rw [List.find?_eq_none]
  intro x hx
  obtain ⟨i, hi, rfl⟩ := List.getElem_of_mem hx
  simpa using hb i hi
 rw [this]
 rfl
end Go.Proofs.YthljdhfgphebnaaGreat.L5

namespace Go.Proofs.YthljdhfgphebnaaGreat.L5
open Go.Op (bytesLess)
open Go.ChangeShapes Go.WideShapes Go.ChangeAt Go.RowKit Mem Sl Ex L2 Sv

def F.cells (f : F) : List Value := [.string f.name, .int .i64 f.n]
def cellsF (l : List F) : List Value := l.flatMap F.cells
theorem cellsF_cons (f : F) (l : List F) : cellsF (f :: l) = .string f.name :: .int .i64 f.n :: cellsF l := rfl
@[simp] theorem cellsF_length : ∀ (l : List F), (cellsF l).length = l.length * 2
  | [] => rfl
  | f :: l => by rw [cellsF_cons, List.length_cons, List.length_cons, cellsF_length l, List.length_cons]; omega
theorem cellsF_at : ∀ (l : List F) (j : Nat) (h : j < l.length), (cellsF l)[j * 2]? = some (.string l[j].name) ∧ (cellsF l)[j * 2 + 1]? = some (.int .i64 l[j].n)
  | f :: l, 0, _ => ⟨rfl, rfl⟩
  | f :: l, j + 1, h => by
    have := cellsF_at l j (by simpa using h)
    rw [cellsF_cons, show (j + 1) * 2 = j * 2 + 1 + 1 by omega]
    exact this
theorem cellsF_one (l : List F) : ∀ u ∈ cellsF l, u.oneCell' = true := by
  intro u hu
  obtain ⟨f, _, hf⟩ := List.mem_flatMap.1 hu
  simp [F.cells] at hf
  rcases hf with rfl | rfl <;> rfl
theorem add_next (ad : Addr) (j : Nat) : ad.add (j + 1) = ⟨(ad.add j).block, (ad.add j).off + 1, none⟩ := by
  unfold Addr.add
  by_cases h : j = 0 <;> simp [h, Nat.add_assoc]
theorem readsF {w : World} {B : Nat} {a : Option Addr} {l : List F} (h : Reads w B a (cellsF l)) (j : Nat) (hj : j < l.length) :
    ∃ ad, a = some ad ∧ ad.block < B ∧ w.cell? (ad.add (j * 2)) = some (.string l[j].name) ∧ w.cell? ⟨(ad.add (j * 2)).block, (ad.add (j * 2)).off + 1, none⟩ = some (.int .i64 l[j].n) := by
  obtain ⟨ad, e, hb, h1⟩ := h (j * 2) (by simp; omega)
  obtain ⟨ad', e', _, h2⟩ := h (j * 2 + 1) (by simp; omega)
  rw [e] at e'
  injection e' with e'
  subst e'
  obtain ⟨c1, c2⟩ := cellsF_at l j hj
  refine ⟨ad, e, hb, by rw [h1, ← c1, List.getElem?_eq_getElem], by rw [← add_next, h2, ← c2, List.getElem?_eq_getElem]⟩

theorem specIsName_any (s : ByteArray) (hs : s.size ≤ 281474976710656) (w : World) :
    Calls Tryz.prog 63 #[.string s] w fun e w' => e = .returned (.bool (isN s.data.toList)) ∧ w = w' := by
  have hsz : s.data.toList.length = s.size := by rw [Array.length_toList]; rfl
  have HZ := Lib.hid hsz
  clear hsz
  have HI := Lib.hid (fun w => L1.l1In_any (s.size : Int) 1 8 w)
  obtain ⟨bi, hbi⟩ : ∃ b, L1.inB (s.size : Int) 1 8 = b := ⟨_, rfl⟩
  rw [hbi] at HI
  go_enter Tryz.func63, Tryz.ntmps63
  go_wp2
  go_loop [3] (fun i => ∃ k : Nat, k ≤ s.size ∧ i = .int .i64 k ∧ Hid (∀ j (hj : j < s.data.toList.length), j < k → low s.data.toList[j] = true)) (fun i => s.size - (intOf i).toNat)
  case atStart => exact ⟨0, Nat.zero_le _, rfl, fun j hj h => by omega⟩
  case round =>
    obtain ⟨k, hk, rfl, hrel⟩ := hrel
    by_cases hlt : k < s.size
    · have hb : s.data.toList[k]? = some s[k] := by
        rw [List.getElem?_eq_getElem (by rw [HZ.out]; exact hlt)]
        rfl
      have HB := Lib.hid hb
      clear hb
      have hT : ∀ b : Bool, low s[k] = b → Hid (low s[k] = b) := fun b h => h
      rcases (show ((s[k].toNat : Int) < 97 ∧ low s[k] = false) ∨ ((¬ (s[k].toNat : Int) < 97 ∧ (s[k].toNat : Int) ≤ 122) ∧ low s[k] = true) ∨ ((¬ (s[k].toNat : Int) < 97 ∧ 122 < (s[k].toNat : Int)) ∧ low s[k] = false) by
        unfold low
        simp only [Bool.and_eq_true, Bool.and_eq_false_iff, decide_eq_true_eq, decide_eq_false_iff_not]
        omega) with ⟨h1, h2⟩ | ⟨⟨h1, h3⟩, h2⟩ | ⟨⟨h1, h3⟩, h2⟩
      all_goals
        have H2 := hT _ h2
        clear h2 hT
        go_wp2
        first
        | (go_round
           case rel => exact ⟨k + 1, by omega, by go_num, fun j hj h => by
              by_cases e : j < k
              · exact hrel.out j hj e
              · obtain rfl : j = k := by omega
                have := HB.out
                rw [List.getElem?_eq_getElem hj] at this
                rw [Option.some.inj this]
                exact H2.out⟩
           case measure => simp [intOf]; omega)
        | (go_ret
           exact ⟨by rw [isN_no k _ HB.out H2.out]; rfl, rfl⟩)
    · go_wp2_with (go_at_call 65; refine (HI.out _).mono ?_; rintro e w1 ⟨rfl, rfl⟩)
      go_ret
      obtain rfl : k = s.size := by omega
      have e1 := isN_all (fun j hj => hrel.out j hj (by rw [HZ.out] at hj; exact hj))
      rw [HZ.out, hbi] at e1
      exact ⟨by rw [e1]; rfl, rfl⟩

def getN (l : List F) (name : List UInt8) : Int := (getO l name).getD 0
def getB (l : List F) (name : List UInt8) : Bool := (getO l name).isSome
set_option maxHeartbeats 1000000 in
theorem specGetField_any (a : Option Addr) (c : Nat) (l : List F) (s : ByteArray) (hl : l.length ≤ 1099511627776) (w : World) (hr : Reads w w.heap.size a (cellsF l)) :
    Calls Tryz.prog 98 #[.agg #[.slice a l.length c], .string s] w fun e w' => e = .returned (.tuple #[.int .i64 (getN l s.data.toList), .bool (getB l s.data.toList)]) ∧ Below w.heap.size w w' := by
  have HBL := Lib.hid (below_alloc (Below.refl w.heap.size w) (.cells #[.slice a l.length c] 131) (Nat.le_refl _))
  have HR := Lib.hid (hr.below HBL.out)
  obtain ⟨n, hn⟩ : ∃ n, n = l.length := ⟨_, rfl⟩
  rw [← hn] at HBL ⊢
  rw [← hn] at hl HR
  have HN := Lib.hid hn
  clear hn hr
  have hl' : (n : Int) ≤ 1099511627776 := by omega
  go_enter Tryz.func98, Tryz.ntmps98
  go_wp2
  go_loop [6] (fun i => ∃ k : Nat, k ≤ n ∧ i = .int .i64 k ∧ Hid (∀ j (hj : j < l.length), j < k → l[j].t ≠ s.data.toList)) (fun i => n - (intOf i).toNat)
  case atStart => exact ⟨0, Nat.zero_le _, rfl, fun j hj h => by omega⟩
  case round =>
    obtain ⟨k, hk, rfl, hrel⟩ := hrel
    by_cases hlt : (k : Int) < (n : Int)
    · have hkl : k < l.length := by have := HN.out; omega
      obtain ⟨ad, rfl, had, h1, h2⟩ := readsF HR.out k hkl
      obtain ⟨t, ht⟩ : ∃ t, t = l[k].name := ⟨_, rfl⟩
      obtain ⟨m, hm⟩ : ∃ m, m = l[k].n := ⟨_, rfl⟩
      rw [← ht] at h1
      rw [← hm] at h2
      by_cases he : t.data.toList = s.data.toList
      · have heq : (t.toList == s.toList) = true := by rw [ByteArray.toList_eq, ByteArray.toList_eq, he, beq_self_eq_true]
        have HG := Lib.hid (getO_at k hkl (show l[k].t = s.data.toList by unfold F.t; rw [← ht]; exact he) hrel.out)
        rw [← hm] at HG
        clear ht hm he
        go_wp2
        go_ret2
        exact ⟨by unfold getN getB; rw [HG.out]; rfl, HBL.out⟩
      · have heq : (t.toList == s.toList) = false := by rw [ByteArray.toList_eq, ByteArray.toList_eq, beq_eq_false_iff_ne]; exact he
        have HT := Lib.hid (show l[k].t ≠ s.data.toList by unfold F.t; rw [← ht]; exact he)
        clear ht hm he
        go_wp2
        go_round
        case rel => exact ⟨k + 1, by omega, by go_num, fun j hj h => by
          by_cases e : j < k
          · exact hrel.out j hj e
          · obtain rfl : j = k := by omega
            exact HT.out⟩
        case measure => simp [intOf]; omega
    · go_wp2
      go_ret2
      have HG := getO_none (l := l) (name := s.data.toList) (fun j hj => hrel.out j hj (by have := HN.out; omega))
      exact ⟨by unfold getN getB; rw [HG]; rfl, HBL.out⟩
end Go.Proofs.YthljdhfgphebnaaGreat.L5

set_option linter.unusedSimpArgs false
namespace Go.Proofs.YthljdhfgphebnaaGreat.L5
open Go.Op (bytesLess)
open Go.ChangeShapes Go.WideShapes Go.ChangeAt Go.RowKit Mem Sl Ex L2 Sv

theorem string_geq (t : TypeId) (a b : ByteArray) : binOp .geq t (.string a) (.string b) = pure (.bool (!(bytesLess a.toList b.toList))) := by simp [binOp, Op.stringOp]
def Small (l : List F) : Prop := ∀ f ∈ l, f.name.size ≤ 281474976710656
set_option maxHeartbeats 8000000 in
theorem specIsRecord_any (a : Option Addr) (c : Nat) (l : List F) (hl : l.length ≤ 1099511627776) (hsm : Small l) (w : World) (hr : Reads w w.heap.size a (cellsF l)) :
  Calls Tryz.prog 95 #[.agg #[.slice a l.length c]] w fun e w' => e = .returned (.bool (isR l)) ∧ Below w.heap.size w w' := by
 obtain ⟨W1, hW1⟩ : ∃ u, u = w.alloc (.cells #[.slice a l.length c] 131) := ⟨_, rfl⟩
 have HBL := Lib.hid (show Below w.heap.size w W1 by rw [hW1]; exact below_alloc (Below.refl w.heap.size w) _ (Nat.le_refl _))
 have HR := Lib.hid (hr.below HBL.out)
 have HX0 := Lib.hid (show Row W1 w.heap.size 131 #[.slice a l.length c] by rw [hW1]; exact Row.made w _ _)
 obtain ⟨n, hn⟩ : ∃ n, n = l.length := ⟨_, rfl⟩
 rw [← hn] at HX0 hW1 ⊢
 rw [← hn] at hl
 have HN0 := Lib.hid hn
 have HS := Lib.hid hsm
 clear hn hr hsm
 have hl' : (n : Int) ≤ 1099511627776 := by omega
 go_enter Tryz.func95, Tryz.ntmps95
 go_upto_region 1 with fail
 rw [← hW1]
 clear hW1
 go_wp2
 go_loopw [3] (fun i wr => ∃ k : Nat, k ≤ n ∧ i = .int .i64 k ∧ Hid (okTo l k ∧ Drew W1 wr)) (fun i _ => n - (intOf i).toNat)
 case atStart => exact ⟨0, Nat.zero_le _, rfl, fun j hj h => by omega, Drew.refl _⟩
 case round =>
  obtain ⟨k, hk, rfl, hrel⟩ := hrel
  have hb0 : wr.cell? ⟨w.heap.size, 0, none⟩ = some (.slice a n c) := by
   have := ((HX0.out.below (hrel.out.2.below _) HX0.out.inside) : Row wr w.heap.size 131 #[.slice a n c]).cell 0
   simpa using this
  by_cases hlt : (k : Int) < (n : Int)
  ·
   have hkl : k < l.length := by have := HN0.out; omega
   have HRr := Lib.hid (HR.out.below ((hrel.out.2.below _).mono HBL.out.size))
   obtain ⟨ad, rfl, had, h1, h2⟩ := readsF HRr.out k hkl
   have HN := Lib.hid (fun w => specIsName_any l[k].name (HS.out _ (List.getElem_mem hkl)) w)
   have HI := Lib.hid (fun w => L1.l1In_any l[k].n 0 1000000000 w)
   obtain ⟨bn, hbn⟩ : ∃ b, isN l[k].name.data.toList = b := ⟨_, rfl⟩
   obtain ⟨bi, hbi⟩ : ∃ b, L1.inB l[k].n 0 1000000000 = b := ⟨_, rfl⟩
   have HO := Lib.hid (show okF l[k] = (bn && bi) by unfold okF; rw [hbi]; unfold F.t; rw [hbn])
   rw [hbn] at HN
   rw [hbi] at HI
   obtain ⟨t, ht⟩ : ∃ t, t = l[k].name := ⟨_, rfl⟩
   obtain ⟨m, hm⟩ : ∃ m, m = l[k].n := ⟨_, rfl⟩
   rw [← ht] at h1 HN
   rw [← hm] at h2 HI
   clear hbn hbi
   cases bn with
   | false =>
    have HX := Lib.hid (isR_no k hkl (.inl (by rw [HO.out]; rfl)))
    clear ht hm HO
    go_wp2_with fail
    refine wp_region_held_drew (S := (fun w' => w'.cell? ⟨w.heap.size, 0, none⟩ = some (.slice (some ad) n c) ∧ w'.cell? (ad.add (k * 2)) = some (.string t) ∧ w'.cell? ⟨(ad.add (k * 2)).block, (ad.add (k * 2)).off + 1, none⟩ = some (.int .i64 m))) (by kernel_rfl) ⟨hb0, h1, h2⟩ (fun hS => ?_)
    refine tk 0 rfl ?_
    try simp only [zp0, zp1, zp2, zp3, zp4]
    refine tk 1 rfl ?_
    try simp only [zp0, zp1, zp2, zp3, zp4]
    refine tk 2 rfl ?_
    try simp only [zp0, zp1, zp2, zp3, zp4]
    refine tk 3 rfl ?_
    try simp only [zp0, zp1, zp2, zp3, zp4]
    refine tk 4 rfl ?_
    try simp only [zp0, zp1, zp2, zp3, zp4]
    refine tk 5 rfl ?_
    try simp only [zp0, zp1, zp2, zp3, zp4]
    refine Reg.one_op (i := 6) rfl (by kernel_rfl) (fun K hK => ?_)
    go_simp
    go_at_call 63
    refine (HN.out _).mono ?_
    rintro e w1 ⟨rfl, rfl⟩
    go_wp2_with fail
    refine hK.out _ _ hS (fun hS => ?_)
    clear hK K
    try simp only [zp0, zp1, zp2, zp3, zp4]
    refine tk 7 rfl ?_
    try simp only [zp0, zp1, zp2, zp3, zp4]
    refine tk 8 rfl ?_
    try simp only [zp0, zp1, zp2, zp3, zp4]
    refine sk 9 rfl ?_
    try simp only [zp0, zp1, zp2, zp3, zp4]
    refine sk 10 rfl ?_
    try simp only [zp0, zp1, zp2, zp3, zp4]
    refine sk 11 rfl ?_
    try simp only [zp0, zp1, zp2, zp3, zp4]
    refine sk 12 rfl ?_
    try simp only [zp0, zp1, zp2, zp3, zp4]
    refine sk 13 rfl ?_
    try simp only [zp0, zp1, zp2, zp3, zp4]
    refine sk 14 rfl ?_
    try simp only [zp0, zp1, zp2, zp3, zp4]
    refine Reg.skip_one (i := 15) rfl (by kernel_rfl) (by rfl) (by assumption) ?_
    try simp only [zp0, zp1, zp2, zp3, zp4]
    refine sk 16 rfl ?_
    try simp only [zp0, zp1, zp2, zp3, zp4]
    refine tk 17 rfl ?_
    try simp only [zp0, zp1, zp2, zp3, zp4]
    refine tk 18 rfl ?_
    try simp only [zp0, zp1, zp2, zp3, zp4]
    refine sk 19 rfl ?_
    try simp only [zp0, zp1, zp2, zp3, zp4]
    refine sk 20 rfl ?_
    try simp only [zp0, zp1, zp2, zp3, zp4]
    refine sk 21 rfl ?_
    try simp only [zp0, zp1, zp2, zp3, zp4]
    refine sk 22 rfl ?_
    try simp only [zp0, zp1, zp2, zp3, zp4]
    refine sk 23 rfl ?_
    try simp only [zp0, zp1, zp2, zp3, zp4]
    refine sk 24 rfl ?_
    try simp only [zp0, zp1, zp2, zp3, zp4]
    refine sk 25 rfl ?_
    try simp only [zp0, zp1, zp2, zp3, zp4]
    refine sk 26 rfl ?_
    try simp only [zp0, zp1, zp2, zp3, zp4]
    refine sk 27 rfl ?_
    try simp only [zp0, zp1, zp2, zp3, zp4]
    refine sk 28 rfl ?_
    try simp only [zp0, zp1, zp2, zp3, zp4]
    refine sk 29 rfl ?_
    try simp only [zp0, zp1, zp2, zp3, zp4]
    refine sk 30 rfl ?_
    try simp only [zp0, zp1, zp2, zp3, zp4]
    refine sk 31 rfl ?_
    try simp only [zp0, zp1, zp2, zp3, zp4]
    refine sk 32 rfl ?_
    try simp only [zp0, zp1, zp2, zp3, zp4]
    refine sk 33 rfl ?_
    try simp only [zp0, zp1, zp2, zp3, zp4]
    refine sk 34 rfl ?_
    try simp only [zp0, zp1, zp2, zp3, zp4]
    refine sk 35 rfl ?_
    try simp only [zp0, zp1, zp2, zp3, zp4]
    refine sk 36 rfl ?_
    try simp only [zp0, zp1, zp2, zp3, zp4]
    refine tk 37 rfl ?_
    try simp only [zp0, zp1, zp2, zp3, zp4]
    refine wpAnyH_done (by kernel_rfl) ?_ _
    go_wp2_with fail
    go_ret
    exact ⟨by rw [HX.out]; rfl, HBL.out.trans (((hrel.out.2.below _).drew).mono HBL.out.size)⟩
   | true =>
    cases bi with
    | false =>
     have HX := Lib.hid (isR_no k hkl (.inl (by rw [HO.out]; rfl)))
     clear ht hm HO
     go_wp2_with fail
     refine wp_region_held_drew (S := (fun w' => w'.cell? ⟨w.heap.size, 0, none⟩ = some (.slice (some ad) n c) ∧ w'.cell? (ad.add (k * 2)) = some (.string t) ∧ w'.cell? ⟨(ad.add (k * 2)).block, (ad.add (k * 2)).off + 1, none⟩ = some (.int .i64 m))) (by kernel_rfl) ⟨hb0, h1, h2⟩ (fun hS => ?_)
     refine tk 0 rfl ?_
     try simp only [zp0, zp1, zp2, zp3, zp4]
     refine tk 1 rfl ?_
     try simp only [zp0, zp1, zp2, zp3, zp4]
     refine tk 2 rfl ?_
     try simp only [zp0, zp1, zp2, zp3, zp4]
     refine tk 3 rfl ?_
     try simp only [zp0, zp1, zp2, zp3, zp4]
     refine tk 4 rfl ?_
     try simp only [zp0, zp1, zp2, zp3, zp4]
     refine tk 5 rfl ?_
     try simp only [zp0, zp1, zp2, zp3, zp4]
     refine Reg.one_op (i := 6) rfl (by kernel_rfl) (fun K hK => ?_)
     go_simp
     go_at_call 63
     refine (HN.out _).mono ?_
     rintro e w1 ⟨rfl, rfl⟩
     go_wp2_with fail
     refine hK.out _ _ hS (fun hS => ?_)
     clear hK K
     try simp only [zp0, zp1, zp2, zp3, zp4]
     refine tk 7 rfl ?_
     try simp only [zp0, zp1, zp2, zp3, zp4]
     refine tk 8 rfl ?_
     try simp only [zp0, zp1, zp2, zp3, zp4]
     refine tk 9 rfl ?_
     try simp only [zp0, zp1, zp2, zp3, zp4]
     refine tk 10 rfl ?_
     try simp only [zp0, zp1, zp2, zp3, zp4]
     refine tk 11 rfl ?_
     try simp only [zp0, zp1, zp2, zp3, zp4]
     refine tk 12 rfl ?_
     try simp only [zp0, zp1, zp2, zp3, zp4]
     refine tk 13 rfl ?_
     try simp only [zp0, zp1, zp2, zp3, zp4]
     refine tk 14 rfl ?_
     try simp only [zp0, zp1, zp2, zp3, zp4]
     refine Reg.one_op (i := 15) rfl (by kernel_rfl) (fun K hK => ?_)
     go_simp
     go_at_call 65
     refine (HI.out _).mono ?_
     rintro e w1 ⟨rfl, rfl⟩
     go_wp2_with fail
     refine hK.out _ _ hS (fun hS => ?_)
     clear hK K
     try simp only [zp0, zp1, zp2, zp3, zp4]
     refine tk 16 rfl ?_
     try simp only [zp0, zp1, zp2, zp3, zp4]
     refine tk 17 rfl ?_
     try simp only [zp0, zp1, zp2, zp3, zp4]
     refine tk 18 rfl ?_
     try simp only [zp0, zp1, zp2, zp3, zp4]
     refine sk 19 rfl ?_
     try simp only [zp0, zp1, zp2, zp3, zp4]
     refine sk 20 rfl ?_
     try simp only [zp0, zp1, zp2, zp3, zp4]
     refine sk 21 rfl ?_
     try simp only [zp0, zp1, zp2, zp3, zp4]
     refine sk 22 rfl ?_
     try simp only [zp0, zp1, zp2, zp3, zp4]
     refine sk 23 rfl ?_
     try simp only [zp0, zp1, zp2, zp3, zp4]
     refine sk 24 rfl ?_
     try simp only [zp0, zp1, zp2, zp3, zp4]
     refine sk 25 rfl ?_
     try simp only [zp0, zp1, zp2, zp3, zp4]
     refine sk 26 rfl ?_
     try simp only [zp0, zp1, zp2, zp3, zp4]
     refine sk 27 rfl ?_
     try simp only [zp0, zp1, zp2, zp3, zp4]
     refine sk 28 rfl ?_
     try simp only [zp0, zp1, zp2, zp3, zp4]
     refine sk 29 rfl ?_
     try simp only [zp0, zp1, zp2, zp3, zp4]
     refine sk 30 rfl ?_
     try simp only [zp0, zp1, zp2, zp3, zp4]
     refine sk 31 rfl ?_
     try simp only [zp0, zp1, zp2, zp3, zp4]
     refine sk 32 rfl ?_
     try simp only [zp0, zp1, zp2, zp3, zp4]
     refine sk 33 rfl ?_
     try simp only [zp0, zp1, zp2, zp3, zp4]
     refine sk 34 rfl ?_
     try simp only [zp0, zp1, zp2, zp3, zp4]
     refine sk 35 rfl ?_
     try simp only [zp0, zp1, zp2, zp3, zp4]
     refine sk 36 rfl ?_
     try simp only [zp0, zp1, zp2, zp3, zp4]
     refine tk 37 rfl ?_
     try simp only [zp0, zp1, zp2, zp3, zp4]
     refine wpAnyH_done (by kernel_rfl) ?_ _
     go_wp2_with fail
     go_ret
     exact ⟨by rw [HX.out]; rfl, HBL.out.trans (((hrel.out.2.below _).drew).mono HBL.out.size)⟩
    | true =>
     rcases Nat.eq_zero_or_pos k with rfl | hk0
     ·
      clear ht hm
      rw [Nat.zero_mul, show ad.add 0 = ad by simp [Addr.add]] at h1 h2
      go_wp2_with fail
      refine wp_region_held_drew (S := (fun w' => w'.cell? ⟨w.heap.size, 0, none⟩ = some (.slice (some ad) n c) ∧ w'.cell? ad = some (.string t) ∧ w'.cell? ⟨ad.block, ad.off + 1, none⟩ = some (.int .i64 m))) (by kernel_rfl) ⟨hb0, h1, h2⟩ (fun hS => ?_)
      refine tk 0 rfl ?_
      try simp only [zp0, zp1, zp2, zp3, zp4]
      refine tk 1 rfl ?_
      try simp only [zp0, zp1, zp2, zp3, zp4]
      refine tk 2 rfl ?_
      try simp only [zp0, zp1, zp2, zp3, zp4]
      refine tk 3 rfl ?_
      try simp only [zp0, zp1, zp2, zp3, zp4]
      refine tk 4 rfl ?_
      try simp only [zp0, zp1, zp2, zp3, zp4]
      refine tk 5 rfl ?_
      try simp only [zp0, zp1, zp2, zp3, zp4]
      refine Reg.one_op (i := 6) rfl (by kernel_rfl) (fun K hK => ?_)
      go_simp
      go_at_call 63
      refine (HN.out _).mono ?_
      rintro e w1 ⟨rfl, rfl⟩
      go_wp2_with fail
      refine hK.out _ _ hS (fun hS => ?_)
      clear hK K
      try simp only [zp0, zp1, zp2, zp3, zp4]
      refine tk 7 rfl ?_
      try simp only [zp0, zp1, zp2, zp3, zp4]
      refine tk 8 rfl ?_
      try simp only [zp0, zp1, zp2, zp3, zp4]
      refine tk 9 rfl ?_
      try simp only [zp0, zp1, zp2, zp3, zp4]
      refine tk 10 rfl ?_
      try simp only [zp0, zp1, zp2, zp3, zp4]
      refine tk 11 rfl ?_
      try simp only [zp0, zp1, zp2, zp3, zp4]
      refine tk 12 rfl ?_
      try simp only [zp0, zp1, zp2, zp3, zp4]
      refine tk 13 rfl ?_
      try simp only [zp0, zp1, zp2, zp3, zp4]
      refine tk 14 rfl ?_
      try simp only [zp0, zp1, zp2, zp3, zp4]
      refine Reg.one_op (i := 15) rfl (by kernel_rfl) (fun K hK => ?_)
      go_simp
      go_at_call 65
      refine (HI.out _).mono ?_
      rintro e w1 ⟨rfl, rfl⟩
      go_wp2_with fail
      refine hK.out _ _ hS (fun hS => ?_)
      clear hK K
      try simp only [zp0, zp1, zp2, zp3, zp4]
      refine tk 16 rfl ?_
      try simp only [zp0, zp1, zp2, zp3, zp4]
      refine tk 17 rfl ?_
      try simp only [zp0, zp1, zp2, zp3, zp4]
      refine tk 18 rfl ?_
      try simp only [zp0, zp1, zp2, zp3, zp4]
      refine tk 19 rfl ?_
      try simp only [zp0, zp1, zp2, zp3, zp4]
      refine tk 20 rfl ?_
      try simp only [zp0, zp1, zp2, zp3, zp4]
      refine tk 21 rfl ?_
      try simp only [zp0, zp1, zp2, zp3, zp4]
      refine sk 22 rfl ?_
      try simp only [zp0, zp1, zp2, zp3, zp4]
      refine sk 23 rfl ?_
      try simp only [zp0, zp1, zp2, zp3, zp4]
      refine sk 24 rfl ?_
      try simp only [zp0, zp1, zp2, zp3, zp4]
      refine sk 25 rfl ?_
      try simp only [zp0, zp1, zp2, zp3, zp4]
      refine sk 26 rfl ?_
      try simp only [zp0, zp1, zp2, zp3, zp4]
      refine sk 27 rfl ?_
      try simp only [zp0, zp1, zp2, zp3, zp4]
      refine sk 28 rfl ?_
      try simp only [zp0, zp1, zp2, zp3, zp4]
      refine sk 29 rfl ?_
      try simp only [zp0, zp1, zp2, zp3, zp4]
      refine sk 30 rfl ?_
      try simp only [zp0, zp1, zp2, zp3, zp4]
      refine sk 31 rfl ?_
      try simp only [zp0, zp1, zp2, zp3, zp4]
      refine sk 32 rfl ?_
      try simp only [zp0, zp1, zp2, zp3, zp4]
      refine sk 33 rfl ?_
      try simp only [zp0, zp1, zp2, zp3, zp4]
      refine sk 34 rfl ?_
      try simp only [zp0, zp1, zp2, zp3, zp4]
      refine sk 35 rfl ?_
      try simp only [zp0, zp1, zp2, zp3, zp4]
      refine tk 36 rfl ?_
      try simp only [zp0, zp1, zp2, zp3, zp4]
      refine tk 37 rfl ?_
      try simp only [zp0, zp1, zp2, zp3, zp4]
      refine wpAnyH_done (by kernel_rfl) ?_ _
      go_wp2_with fail
      go_roundw
      case rel => exact ⟨1, by omega, by go_num, And.intro (fun j hj h => by
       obtain rfl : j = 0 := by omega
       exact ⟨by rw [HO.out]; rfl, fun h0 => by omega⟩) (Drew.more hrel.out.2 1)⟩
      case measure => simp [intOf]; omega
     ·
      obtain ⟨j, rfl⟩ : ∃ j, k = j + 1 := ⟨k - 1, by omega⟩
      obtain ⟨ad', e', -, h3, -⟩ := readsF HRr.out j (by omega)
      injection e' with e'
      subst e'
      obtain ⟨p, hp⟩ : ∃ p, p = (l[j]'(by omega)).name := ⟨_, rfl⟩
      rw [← hp] at h3
      have hwj : IntKind.i64.wrap (j : Int) = (j : Int) := IntWalk.i64_in _ ⟨by omega, by omega⟩
      have k1 : (0 : Int) ≤ (j : Int) + 1 := by omega
      have k2 : (j : Int) + 1 < (n : Int) := by omega
      have k3 : (0 : Int) ≤ (j : Int) := by omega
      have k4 : (j : Int) < (n : Int) := by omega
      have hge := string_geq
      obtain ⟨bo, hbo⟩ : ∃ b, bytesLess p.toList t.toList = b := ⟨_, rfl⟩
      have HB := Lib.hid (show bytesLess (l[j]'(by omega)).t l[j + 1].t = bo by unfold F.t; rw [← hp, ← ht, ← hbo, ByteArray.toList_eq, ByteArray.toList_eq])
      clear ht hm hp
      cases bo with
      | false =>
       have HX := Lib.hid (isR_no (j + 1) hkl (.inr ⟨Nat.succ_pos j, HB.out⟩))
       go_wp2_with fail
       refine wp_region_held_drew (S := (fun w' => w'.cell? ⟨w.heap.size, 0, none⟩ = some (.slice (some ad) n c) ∧ w'.cell? (ad.add ((j + 1) * 2)) = some (.string t) ∧ w'.cell? ⟨(ad.add ((j + 1) * 2)).block, (ad.add ((j + 1) * 2)).off + 1, none⟩ = some (.int .i64 m) ∧ w'.cell? (ad.add (j * 2)) = some (.string p))) (by kernel_rfl) ⟨hb0, h1, h2, h3⟩ (fun hS => ?_)
       refine tk 0 rfl ?_
       try simp only [zp0, zp1, zp2, zp3, zp4]
       refine tk 1 rfl ?_
       try simp only [zp0, zp1, zp2, zp3, zp4]
       refine tk 2 rfl ?_
       try simp only [zp0, zp1, zp2, zp3, zp4]
       refine tk 3 rfl ?_
       try simp only [zp0, zp1, zp2, zp3, zp4]
       refine tk 4 rfl ?_
       try simp only [zp0, zp1, zp2, zp3, zp4]
       refine tk 5 rfl ?_
       try simp only [zp0, zp1, zp2, zp3, zp4]
       refine Reg.one_op (i := 6) rfl (by kernel_rfl) (fun K hK => ?_)
       go_simp
       go_at_call 63
       refine (HN.out _).mono ?_
       rintro e w1 ⟨rfl, rfl⟩
       go_wp2_with fail
       refine hK.out _ _ hS (fun hS => ?_)
       clear hK K
       try simp only [zp0, zp1, zp2, zp3, zp4]
       refine tk 7 rfl ?_
       try simp only [zp0, zp1, zp2, zp3, zp4]
       refine tk 8 rfl ?_
       try simp only [zp0, zp1, zp2, zp3, zp4]
       refine tk 9 rfl ?_
       try simp only [zp0, zp1, zp2, zp3, zp4]
       refine tk 10 rfl ?_
       try simp only [zp0, zp1, zp2, zp3, zp4]
       refine tk 11 rfl ?_
       try simp only [zp0, zp1, zp2, zp3, zp4]
       refine tk 12 rfl ?_
       try simp only [zp0, zp1, zp2, zp3, zp4]
       refine tk 13 rfl ?_
       try simp only [zp0, zp1, zp2, zp3, zp4]
       refine tk 14 rfl ?_
       try simp only [zp0, zp1, zp2, zp3, zp4]
       refine Reg.one_op (i := 15) rfl (by kernel_rfl) (fun K hK => ?_)
       go_simp
       go_at_call 65
       refine (HI.out _).mono ?_
       rintro e w1 ⟨rfl, rfl⟩
       go_wp2_with fail
       refine hK.out _ _ hS (fun hS => ?_)
       clear hK K
       try simp only [zp0, zp1, zp2, zp3, zp4]
       refine tk 16 rfl ?_
       try simp only [zp0, zp1, zp2, zp3, zp4]
       refine tk 17 rfl ?_
       try simp only [zp0, zp1, zp2, zp3, zp4]
       refine tk 18 rfl ?_
       try simp only [zp0, zp1, zp2, zp3, zp4]
       refine tk 19 rfl ?_
       try simp only [zp0, zp1, zp2, zp3, zp4]
       refine tk 20 rfl ?_
       try simp only [zp0, zp1, zp2, zp3, zp4]
       refine tk 21 rfl ?_
       try simp only [zp0, zp1, zp2, zp3, zp4]
       refine tk 22 rfl ?_
       try simp only [zp0, zp1, zp2, zp3, zp4]
       refine tk 23 rfl ?_
       try simp only [zp0, zp1, zp2, zp3, zp4]
       refine tk 24 rfl ?_
       try simp only [zp0, zp1, zp2, zp3, zp4]
       refine tk 25 rfl ?_
       try simp only [zp0, zp1, zp2, zp3, zp4]
       refine tk 26 rfl ?_
       try simp only [zp0, zp1, zp2, zp3, zp4]
       refine tk 27 rfl ?_
       try simp only [zp0, zp1, zp2, zp3, zp4]
       refine tk 28 rfl ?_
       try simp only [zp0, zp1, zp2, zp3, zp4]
       refine tk 29 rfl ?_
       try simp only [zp0, zp1, zp2, zp3, zp4]
       refine tk 30 rfl ?_
       try simp only [zp0, zp1, zp2, zp3, zp4]
       refine tk 31 rfl ?_
       try simp only [zp0, zp1, zp2, zp3, zp4]
       refine tk 32 rfl ?_
       try simp only [zp0, zp1, zp2, zp3, zp4]
       refine tk 33 rfl ?_
       try simp only [zp0, zp1, zp2, zp3, zp4]
       refine tk 34 rfl ?_
       try simp only [zp0, zp1, zp2, zp3, zp4]
       refine tk 35 rfl ?_
       try simp only [zp0, zp1, zp2, zp3, zp4]
       refine tk 36 rfl ?_
       try simp only [zp0, zp1, zp2, zp3, zp4]
       refine tk 37 rfl ?_
       try simp only [zp0, zp1, zp2, zp3, zp4]
       refine wpAnyH_done (by kernel_rfl) ?_ _
       go_wp2_with fail
       go_ret
       exact ⟨by rw [HX.out]; rfl, HBL.out.trans (((hrel.out.2.below _).drew).mono HBL.out.size)⟩
      | true =>
       go_wp2_with fail
       refine wp_region_held_drew (S := (fun w' => w'.cell? ⟨w.heap.size, 0, none⟩ = some (.slice (some ad) n c) ∧ w'.cell? (ad.add ((j + 1) * 2)) = some (.string t) ∧ w'.cell? ⟨(ad.add ((j + 1) * 2)).block, (ad.add ((j + 1) * 2)).off + 1, none⟩ = some (.int .i64 m) ∧ w'.cell? (ad.add (j * 2)) = some (.string p))) (by kernel_rfl) ⟨hb0, h1, h2, h3⟩ (fun hS => ?_)
       refine tk 0 rfl ?_
       try simp only [zp0, zp1, zp2, zp3, zp4]
       refine tk 1 rfl ?_
       try simp only [zp0, zp1, zp2, zp3, zp4]
       refine tk 2 rfl ?_
       try simp only [zp0, zp1, zp2, zp3, zp4]
       refine tk 3 rfl ?_
       try simp only [zp0, zp1, zp2, zp3, zp4]
       refine tk 4 rfl ?_
       try simp only [zp0, zp1, zp2, zp3, zp4]
       refine tk 5 rfl ?_
       try simp only [zp0, zp1, zp2, zp3, zp4]
       refine Reg.one_op (i := 6) rfl (by kernel_rfl) (fun K hK => ?_)
       go_simp
       go_at_call 63
       refine (HN.out _).mono ?_
       rintro e w1 ⟨rfl, rfl⟩
       go_wp2_with fail
       refine hK.out _ _ hS (fun hS => ?_)
       clear hK K
       try simp only [zp0, zp1, zp2, zp3, zp4]
       refine tk 7 rfl ?_
       try simp only [zp0, zp1, zp2, zp3, zp4]
       refine tk 8 rfl ?_
       try simp only [zp0, zp1, zp2, zp3, zp4]
       refine tk 9 rfl ?_
       try simp only [zp0, zp1, zp2, zp3, zp4]
       refine tk 10 rfl ?_
       try simp only [zp0, zp1, zp2, zp3, zp4]
       refine tk 11 rfl ?_
       try simp only [zp0, zp1, zp2, zp3, zp4]
       refine tk 12 rfl ?_
       try simp only [zp0, zp1, zp2, zp3, zp4]
       refine tk 13 rfl ?_
       try simp only [zp0, zp1, zp2, zp3, zp4]
       refine tk 14 rfl ?_
       try simp only [zp0, zp1, zp2, zp3, zp4]
       refine Reg.one_op (i := 15) rfl (by kernel_rfl) (fun K hK => ?_)
       go_simp
       go_at_call 65
       refine (HI.out _).mono ?_
       rintro e w1 ⟨rfl, rfl⟩
       go_wp2_with fail
       refine hK.out _ _ hS (fun hS => ?_)
       clear hK K
       try simp only [zp0, zp1, zp2, zp3, zp4]
       refine tk 16 rfl ?_
       try simp only [zp0, zp1, zp2, zp3, zp4]
       refine tk 17 rfl ?_
       try simp only [zp0, zp1, zp2, zp3, zp4]
       refine tk 18 rfl ?_
       try simp only [zp0, zp1, zp2, zp3, zp4]
       refine tk 19 rfl ?_
       try simp only [zp0, zp1, zp2, zp3, zp4]
       refine tk 20 rfl ?_
       try simp only [zp0, zp1, zp2, zp3, zp4]
       refine tk 21 rfl ?_
       try simp only [zp0, zp1, zp2, zp3, zp4]
       refine tk 22 rfl ?_
       try simp only [zp0, zp1, zp2, zp3, zp4]
       refine tk 23 rfl ?_
       try simp only [zp0, zp1, zp2, zp3, zp4]
       refine tk 24 rfl ?_
       try simp only [zp0, zp1, zp2, zp3, zp4]
       refine tk 25 rfl ?_
       try simp only [zp0, zp1, zp2, zp3, zp4]
       refine tk 26 rfl ?_
       try simp only [zp0, zp1, zp2, zp3, zp4]
       refine tk 27 rfl ?_
       try simp only [zp0, zp1, zp2, zp3, zp4]
       refine tk 28 rfl ?_
       try simp only [zp0, zp1, zp2, zp3, zp4]
       refine tk 29 rfl ?_
       try simp only [zp0, zp1, zp2, zp3, zp4]
       refine tk 30 rfl ?_
       try simp only [zp0, zp1, zp2, zp3, zp4]
       refine tk 31 rfl ?_
       try simp only [zp0, zp1, zp2, zp3, zp4]
       refine tk 32 rfl ?_
       try simp only [zp0, zp1, zp2, zp3, zp4]
       refine tk 33 rfl ?_
       try simp only [zp0, zp1, zp2, zp3, zp4]
       refine tk 34 rfl ?_
       try simp only [zp0, zp1, zp2, zp3, zp4]
       refine tk 35 rfl ?_
       try simp only [zp0, zp1, zp2, zp3, zp4]
       refine tk 36 rfl ?_
       try simp only [zp0, zp1, zp2, zp3, zp4]
       refine tk 37 rfl ?_
       try simp only [zp0, zp1, zp2, zp3, zp4]
       refine wpAnyH_done (by kernel_rfl) ?_ _
       go_wp2_with fail
       go_roundw
       case rel => exact ⟨j + 1 + 1, by omega, by go_num, And.intro (fun q hq h => by
        by_cases e : q < j + 1
        ·
         exact hrel.out.1 q hq e
        ·
         obtain rfl : q = j + 1 := by omega
         exact ⟨by rw [HO.out]; rfl, fun _ => HB.out⟩) (Drew.more hrel.out.2 1)⟩
       case measure => simp [intOf]; omega
  ·
   obtain rfl : k = n := by omega
   have HX := Lib.hid (show isR l = decide ((k : Int) ≤ 6) by
    have e := HN0.out
    by_cases h6 : (k : Int) ≤ 6
    ·
     rw [decide_eq_true h6, isR_iff]
     exact ⟨by rw [← e]; exact hrel.out.1, by omega⟩
    ·
     rw [decide_eq_false h6]
     cases hr : isR l with
     | false => rfl
     | true => have := (isR_iff.1 hr).2; omega)
   go_wp2
   go_ret
   exact ⟨by rw [HX.out]; rfl, HBL.out.trans ((hrel.out.2.below _).mono HBL.out.size)⟩
end Go.Proofs.YthljdhfgphebnaaGreat.L5

namespace Go.Proofs.YthljdhfgphebnaaGreat.L5
open Go.ChangeShapes Go.WideShapes Go.ChangeAt Go.RowKit Mem Sl Ex L2 Sv

theorem infoField : (Tryz.prog.info? 184).map (fun i => (i.zero, i.size, i.bytes)) = some (some (.agg #[.string ⟨#[]⟩, .int .i64 0]), 2, 24) := by kernel_rfl
theorem below_rows {B : Nat} {w w' : World} {e : TypeId} {k : Nat} {a : Option Addr} {c n : Nat} {xs : List Value} (ho : OwnV w B e k a c n xs) (hg : w.grownBy w' (Value.slice a n c).ownBlock) (hB : B ≤ w.heap.size) : Below B w w' :=
 (Below.refl _ _).grown hg hB (fun k hk => (World.ownsRow.lt ho k hk).1)
theorem Row.madeAt (w : World) (t : TypeId) (cs : Array Value) (g : Nat) (hg : g = w.heap.size) : Row (w.alloc (.cells cs t)) g t cs := by
 subst hg
 exact Row.made w t cs
set_option maxHeartbeats 1000000 in
theorem l5Copy_any (a : Option Addr) (c : Nat) (l : List F) (hl : l.length ≤ 1099511627776) (w : World) (hr : Reads w w.heap.size a (cellsF l)) :
  Calls Tryz.prog 120 #[.agg #[.slice a l.length c]] w fun e w' => ∃ a' c', e = .returned (.agg #[.slice a' l.length c']) ∧ OwnV w' w.heap.size 184 2 a' c' l.length (cellsF l) ∧ Below w.heap.size w w' := by
 obtain ⟨i0, hi, hz0, hz1, hz2⟩ : ∃ i, Tryz.prog.info? 184 = some i ∧ i.zero = some (.agg #[.string ⟨#[]⟩, .int .i64 0]) ∧ i.size = 2 ∧ i.bytes = 24 := by
  have h := infoField
  rw [Option.map_eq_some_iff] at h
  obtain ⟨i, h1, h2⟩ := h
  simp only [Prod.mk.injEq] at h2
  exact ⟨i, h1, h2⟩
 obtain ⟨n, hn⟩ : ∃ n, n = l.length := ⟨_, rfl⟩
 rw [← hn] at hl ⊢
 have W0 := Lib.hid (fun (b1 b2 b3 : Obj) => below_alloc (below_alloc (below_alloc (Below.refl w.heap.size w) b1 (Nat.le_refl _)) b2 (Nat.le_refl _)) b3 (Nat.le_refl _))
 have HR := Lib.hid (fun w' (h : Below w.heap.size w w') => hr.below h)
 have HC := Lib.hid (show (cellsF l).length = n * 2 by rw [cellsF_length, hn])
 have HI := Lib.hid (And.intro hi (And.intro hz0 (And.intro hz1 hz2)))
 clear hn hr
 go_enter Tryz.func120, Tryz.ntmps120
 go_wp2_with (at_builtin; refine wpList_append_rows _ rfl _ _ 129 rfl (w.heap.size + 1 + 1) 184 i0 (.agg #[.string ⟨#[]⟩, .int .i64 0]) 2 24 Tryz.underlying129 HI.out.1 HI.out.2.1 HI.out.2.2.1 HI.out.2.2.2 rfl (by omega) _ 0 0 _ [] rfl rfl (OwnV.emptyAt _ _ _ _ (by simp) (by simp)) w.heap.size _ n n _ (cellsF l) rfl rfl (HR.out _ (W0.out _ _ _)) HC.out (cellsF_one l) (by unfold maxLen; omega) (by omega) (by simp) ?_; intro a9 c9 w9 ho9 hg9; have q9 := below_rows (OwnV.emptyAt (B := w.heap.size + 1 + 1) _ 184 2 _ (by simp) (by simp)) hg9 (by simp); have r9 := Row.below ((Row.madeAt (w.alloc (.cells #[.slice a n c] 131)) 131 #[.slice none 0 0] (w.heap.size + 1) (by simp)).more (.cells #[] 184)) q9 (by omega); have r0 := r9.cell 0; have r1 := r9.free 0; simp at r0)
 refine bodyPost_ret (v := .agg #[.slice a9 n c9]) (by simp [results, Tryz.results120, go_sem, r0]) rfl ?_
 have q0 := (W0.out (.cells #[.slice a n c] 131) (.cells #[.slice none 0 0] 131) (.cells #[] 184)).trans (q9.mono (by omega))
 refine ⟨a9, c9, rfl, (OwnV.far (by simpa using ho9) (w.heap.size + 1) 0 _ (by omega)).base (by omega), q0.setCell (p := ⟨w.heap.size + 1, 0, none⟩) (by show w.heap.size ≤ w.heap.size + 1; omega) _⟩
end Go.Proofs.YthljdhfgphebnaaGreat.L5

namespace Go.Proofs.YthljdhfgphebnaaGreat.L5
open Go.ChangeShapes Go.WideShapes Go.ChangeAt Go.RowKit Mem Sl Ex L2 Sv

theorem fieldInfo : ∃ i, Tryz.prog.info? 184 = some i ∧ i.zero = some (.agg #[.string ⟨#[]⟩, .int .i64 0]) ∧ i.size = 2 ∧ i.bytes = 24 := by
 have h := infoField
 rw [Option.map_eq_some_iff] at h
 obtain ⟨i, h1, h2⟩ := h
 simp only [Prod.mk.injEq] at h2
 exact ⟨i, h1, h2⟩
structure Tri5 (w wr : World) (sl : Value) (a1 : Option Addr) (c1 m : Nat) (q : List F) : Prop where
 r : Row wr w.heap.size 131 #[sl]
 z : Row wr (w.heap.size + 1) 131 #[.slice none 0 0]
 o : Row wr (w.heap.size + 1 + 1) 131 #[.slice a1 m c1]
 own : OwnV wr (w.heap.size + 1 + 1 + 1) 184 2 a1 c1 m (cellsF q)
 b : Below w.heap.size w wr
theorem Row.one {w : World} {g : Nat} {t : TypeId} {x : Value} (h : Row w g t #[x]) : w.cell? ⟨g, 0, none⟩ = some x ∧ w.frozen? ⟨g, 0, none⟩ = false := ⟨by rw [h.cell]; rfl, h.free 0⟩
theorem Tri5.size {w wr : World} {sl : Value} {a1 : Option Addr} {c1 m : Nat} {q : List F} (h : Tri5 w wr sl a1 c1 m q) : w.heap.size + 1 + 1 + 1 ≤ wr.heap.size := by
 have := Row.inside h.o
 omega
theorem Tri5.start (w : World) (sl : Value) : Tri5 w (((w.alloc (.cells #[sl] 131)).alloc (.cells #[.slice none 0 0] 131)).alloc (.cells #[.slice none 0 0] 131)) sl none 0 0 [] :=
 ⟨((Row.made w _ _).more _).more _, (Row.madeAt _ _ _ _ (by simp)).more _, Row.madeAt _ _ _ _ (by simp), OwnV.nil _ _ _ _, below_alloc (below_alloc (below_alloc (Below.refl _ _) _ (Nat.le_refl _)) _ (Nat.le_refl _)) _ (Nat.le_refl _)⟩
end Go.Proofs.YthljdhfgphebnaaGreat.L5

namespace Go.Proofs.YthljdhfgphebnaaGreat.L3

def hstep (d v : Int) : Int := (d * 1000003 + v % 2147483647 + 13) % 2147483647
def hfold (d : Int) (l : List Int) : Int := l.foldl hstep d
def hs (l : List Int) : Int := hfold 11 l
def kh (k : Int) (l : List Int) : Int := hs (k :: (l ++ [k]))
def encB (k : Int) (i : Nat) (b : Int) : Int := (b + kh k [(i : Int)] % 256) % 256
def decB (k : Int) (i : Nat) (b : Int) : Int := (b - kh k [(i : Int)] % 256) % 256
def encL (k : Int) (l : List Int) : List Int := l.mapIdx (encB k)
def decL (k : Int) (l : List Int) : List Int := l.mapIdx (decB k)
@[simp] theorem encL_length (k : Int) (l : List Int) : (encL k l).length = l.length := by simp [encL]
@[simp] theorem decL_length (k : Int) (l : List Int) : (decL k l).length = l.length := by simp [decL]
end Go.Proofs.YthljdhfgphebnaaGreat.L3

namespace Go.Proofs.YthljdhfgphebnaaGreat.L3
open Go.ChangeShapes Go.WideShapes Go.ChangeAt Go.RowKit Mem Sl Ex L2



def strB (s : ByteArray) : List Int := s.data.toList.map fun b => (b.toNat : Int)
end Go.Proofs.YthljdhfgphebnaaGreat.L3

namespace Go.Proofs.YthljdhfgphebnaaGreat.L5
open L4 (boxR push_box box_at)
open Go.ChangeShapes Go.WideShapes Go.ChangeAt Go.RowKit Mem Sl Ex L2 Sv

def encF (f : F) : List Int := (enc (L3.strB f.name).length ++ L3.strB f.name) ++ enc f.n
def encB (l : List F) : List Int := l.flatMap encF
def encR (l : List F) : List Int := if isR l then enc l.length ++ encB l else []
end Go.Proofs.YthljdhfgphebnaaGreat.L5

namespace Go.Proofs.YthljdhfgphebnaaGreat.L5
open L4 (boxR push_box box_at)
open Go.ChangeShapes Go.WideShapes Go.ChangeAt Go.RowKit Mem Sl Ex L2 Sv

def eqF (f g : F) : Bool := f.t == g.t && f.n == g.n
def eqR (l m : List F) : Bool := l.length == m.length && (l.zip m).all fun p => eqF p.1 p.2
end Go.Proofs.YthljdhfgphebnaaGreat.L5

namespace Go.Proofs.YthljdhfgphebnaaGreat.L4
open Go.Op (bytesLess)
open Go.ChangeShapes Go.WideShapes Go.ChangeAt Go.RowKit Mem Sl Ex L2

def toI (u : List UInt8) : List Int := u.map fun b => (b.toNat : Int)
@[simp] theorem toI_length (u : List UInt8) : (toI u).length = u.length := by simp [toI]
theorem toI_toU (l : List Int) (h : Byt l) : toI (toU l) = l := by
 unfold toI toU
 rw [List.map_map]
 have : ∀ x ∈ l, ((fun b : UInt8 => (b.toNat : Int)) ∘ fun n : Int => UInt8.ofNat n.toNat) x = x := fun x hx => by
  have := h x hx
  simp only [Function.comp, UInt8.toNat_ofNat']
  omega
 rw [List.map_congr_left this, List.map_id']
theorem toU_toI (u : List UInt8) : toU (toI u) = u := by
 unfold toI toU
 rw [List.map_map]
 have : ∀ x ∈ u, ((fun n : Int => UInt8.ofNat n.toNat) ∘ fun b : UInt8 => (b.toNat : Int)) x = x := fun x _ => by simp
 rw [List.map_congr_left this, List.map_id']
end Go.Proofs.YthljdhfgphebnaaGreat.L4

namespace Go.Proofs.YthljdhfgphebnaaGreat.L6
open L4 (K isK cmpK R inR encU)
open L5 (F isR isN cellsF encR eqR Small)
open Go.ChangeShapes Go.WideShapes Go.ChangeAt Go.RowKit Mem Sl Sv Bag

structure It where
 k : K
 l : List F
structure S6 where
 name : ByteArray
 items : List It
 auto : Int
def behind (xs : List It) (x : It) : Nat → Bool
 | 0 => true
 | j + 1 => match xs[j]? with
  | none => true
  | some y => decide (cmpK y.k x.k < 0)
def okIx (xs : List It) (i : Nat) : Bool := match xs[i]? with
 | none => true
 | some x => isK x.k && (isR x.l && behind xs x i)
theorem okIx_at {xs : List It} {k : Nat} {x : It} (h : xs[k]? = some x) : okIx xs k = (isK x.k && (isR x.l && behind xs x k)) := by
 unfold okIx
 rw [h]
theorem behind_at {xs : List It} {m : Nat} {x y : It} (h2 : xs[m]? = some y) : behind xs x (m + 1) = decide (cmpK y.k x.k < 0) := by
 simp only [behind, h2]
def isI (xs : List It) : Bool := (List.range xs.length).all (okIx xs)
def isS (s : S6) : Bool := isI s.items && (isN s.name.data.toList && (decide (s.items.length ≤ 16) && L1.inB s.auto 0 1000000))
theorem isI_no {xs : List It} (i : Nat) (hi : i < xs.length) (h : okIx xs i = false) : isI xs = false := by
 cases h1 : isI xs with
 | false => rfl
 | true =>
  unfold isI at h1
  have := (List.all_eq_true.1 h1) i (List.mem_range.2 hi)
  rw [h] at this
  cases this
theorem isI_all {xs : List It} (h : ∀ i, i < xs.length → okIx xs i = true) : isI xs = true := by
 unfold isI
 exact List.all_eq_true.2 fun i hi => h i (List.mem_range.1 hi)
def zK : K := ⟨0, 0, ⟨#[]⟩⟩
structure FitI (x : It) : Prop where
 text : x.k.text.size ≤ 1099511627776
 len : x.l.length ≤ 1048576
 small : Small x.l
structure FitS (s : S6) : Prop where
 name : s.name.size ≤ 281474976710656
 len : s.items.length ≤ 1048576
 items : ∀ x ∈ s.items, FitI x

structure LI where
 k : K
 a : Option Addr
 c : Nat
 l : List F
def LI.con (x : LI) : It := ⟨x.k, x.l⟩
def LI.cells (x : LI) : List Value := [.int .i64 x.k.kind, .int .i64 x.k.n, .string x.k.text, .slice x.a x.l.length x.c]
def LI.row (x : LI) : RowS := ⟨184, 2, x.a, x.c, x.l.length, cellsF x.l⟩
def cellsI (xs : List LI) : List Value := xs.flatMap LI.cells
def conI (xs : List LI) : List It := xs.map LI.con
@[simp] theorem conI_length (xs : List LI) : (conI xs).length = xs.length := List.length_map ..
theorem conI_get (xs : List LI) (j : Nat) (h : j < xs.length) : (conI xs)[j]'(by simpa using h) = xs[j].con := List.getElem_map ..
theorem cellsI_cons (x : LI) (xs : List LI) : cellsI (x :: xs) = .int .i64 x.k.kind :: .int .i64 x.k.n :: .string x.k.text :: .slice x.a x.l.length x.c :: cellsI xs := rfl
theorem cellsI_append (xs ys : List LI) : cellsI (xs ++ ys) = cellsI xs ++ cellsI ys := by unfold cellsI; rw [List.flatMap_append]
@[simp] theorem cellsI_length : ∀ (xs : List LI), (cellsI xs).length = xs.length * 4
 | [] => rfl
 | x :: xs => by rw [cellsI_cons, List.length_cons, List.length_cons, List.length_cons, List.length_cons, cellsI_length xs, List.length_cons]; omega
theorem cellsI_at : ∀ (xs : List LI) (j : Nat) (h : j < xs.length), (cellsI xs)[j * 4]? = some (.int .i64 xs[j].k.kind) ∧ (cellsI xs)[j * 4 + 1]? = some (.int .i64 xs[j].k.n) ∧ (cellsI xs)[j * 4 + 2]? = some (.string xs[j].k.text) ∧ (cellsI xs)[j * 4 + 3]? = some (.slice xs[j].a xs[j].l.length xs[j].c)
 | x :: xs, 0, _ => ⟨rfl, rfl, rfl, rfl⟩
 | x :: xs, j + 1, h => by
  have := cellsI_at xs j (by simpa using h)
  rw [cellsI_cons, show (j + 1) * 4 = j * 4 + 1 + 1 + 1 + 1 by omega]
  exact this
theorem cellsI_one (xs : List LI) : ∀ u ∈ cellsI xs, u.oneCell' = true := by
 intro u hu
 obtain ⟨x, _, hx⟩ := List.mem_flatMap.1 hu
 simp [LI.cells] at hx
 rcases hx with rfl | rfl | rfl | rfl <;> rfl
theorem readsI {w : World} {B : Nat} {a : Option Addr} {xs : List LI} (h : Reads w B a (cellsI xs)) (j : Nat) (hj : j < xs.length) :
  ∃ ad, a = some ad ∧ ad.block < B ∧ w.cell? (ad.add (j * 4)) = some (.int .i64 xs[j].k.kind) ∧ w.cell? ⟨(ad.add (j * 4)).block, (ad.add (j * 4)).off + 1, none⟩ = some (.int .i64 xs[j].k.n) ∧ w.cell? ⟨(ad.add (j * 4)).block, (ad.add (j * 4)).off + 2, none⟩ = some (.string xs[j].k.text) ∧ w.cell? ⟨(ad.add (j * 4)).block, (ad.add (j * 4)).off + 3, none⟩ = some (.slice xs[j].a xs[j].l.length xs[j].c) := by
 obtain ⟨c0, c1, c2, c3⟩ := cellsI_at xs j hj
 have key : ∀ q, q < 4 → ∃ ad, a = some ad ∧ ad.block < B ∧ (cellsI xs)[j * 4 + q]? = w.cell? (ad.add (j * 4 + q)) := fun q hq => by
  have hq2 : j * 4 + q < (cellsI xs).length := by rw [cellsI_length]; omega
  obtain ⟨ad, e, hb, h1⟩ := h (j * 4 + q) hq2
  exact ⟨ad, e, hb, by rw [List.getElem?_eq_getElem hq2, h1]⟩
 obtain ⟨ad, e, hb, h0⟩ := key 0 (by omega)
 obtain ⟨ad1, e1, _, h1⟩ := key 1 (by omega)
 obtain ⟨ad2, e2, _, h2⟩ := key 2 (by omega)
 obtain ⟨ad3, e3, _, h3⟩ := key 3 (by omega)
 rw [e] at e1 e2 e3
 cases e1; cases e2; cases e3
 have nx : ∀ q, w.cell? (ad.add (j * 4 + (q + 1))) = w.cell? ⟨(ad.add (j * 4)).block, (ad.add (j * 4)).off + (q + 1), none⟩ := fun q => by
  congr 1
  unfold Addr.add
  by_cases hz : j * 4 = 0 <;> simp [hz, Nat.add_assoc]
 refine ⟨ad, e, hb, ?_, ?_, ?_, ?_⟩
 ·
  rw [Nat.add_zero] at h0
  rw [← h0, c0]
 ·
  rw [← nx 0, ← h1, c1]
 ·
  rw [← nx 1, ← h2, c2]
 ·
  rw [← nx 2, ← h3, c3]
structure LS where
 name : ByteArray
 a : Option Addr
 c : Nat
 xs : List LI
 auto : Int
def LS.con (s : LS) : S6 := ⟨s.name, conI s.xs, s.auto⟩
def LS.cells (s : LS) : Array Value := #[.string s.name, .slice s.a s.xs.length s.c, .int .i64 s.auto]
def LS.v (s : LS) : Value := .agg s.cells
def rowI (a : Option Addr) (c : Nat) (xs : List LI) : RowS := ⟨135, 4, a, c, xs.length, cellsI xs⟩
def rowsI (xs : List LI) : List RowS := xs.map LI.row
def LS.rows (s : LS) : List RowS := rowI s.a s.c s.xs :: rowsI s.xs
theorem rowsI_append (xs ys : List LI) : rowsI (xs ++ ys) = rowsI xs ++ rowsI ys := List.map_append
theorem rowsI_at (xs : List LI) (j : Nat) (h : j < xs.length) : xs[j].row ∈ rowsI xs := List.mem_map.2 ⟨_, List.getElem_mem h, rfl⟩
section
variable {w : World} {B : Nat} {s : LS}
theorem LS.outer (h : RowsRd w B s.rows) : Reads w B s.a (cellsI s.xs) := (h.at_ (r := rowI s.a s.c s.xs) (List.mem_cons_self ..)).reads
theorem LS.inner (h : RowsRd w B s.rows) : RowsRd w B (rowsI s.xs) := h.sub fun r hr => List.mem_cons_of_mem _ hr
end
def GaveI (w : World) (x : It) (e : Ending) (w' : World) : Prop :=
 ∃ a c, e = .returned (.agg #[.int .i64 x.k.kind, .int .i64 x.k.n, .string x.k.text, .slice a x.l.length c]) ∧ BagOwn w' w.heap.size [(LI.mk x.k a c x.l).row] ∧ Below w.heap.size w w'
def GaveIs (w : World) (xs : List It) (e : Ending) (w' : World) : Prop :=
 ∃ (a : Option Addr) (c : Nat) (ys : List LI), e = .returned (.slice a ys.length c) ∧ conI ys = xs ∧ BagOwn w' w.heap.size (rowI a c ys :: rowsI ys) ∧ Below w.heap.size w w'
def GaveS (w : World) (s : S6) (e : Ending) (w' : World) : Prop :=
 ∃ y : LS, e = .returned y.v ∧ y.con = s ∧ BagOwn w' w.heap.size y.rows ∧ Below w.heap.size w w'
end Go.Proofs.YthljdhfgphebnaaGreat.L6

namespace Go.Proofs.YthljdhfgphebnaaGreat.L5
open L2
open L4 (toU toI toI_toU)

def rdF (l : List Int) (off : Int) : Option (F × Int) :=
 if rbB l off 8 && rdB l (rbE l off 8) then some (⟨⟨(toU (rbL l off 8)).toArray⟩, rdN l (rbE l off 8)⟩, rdE l (rbE l off 8)) else none
def rdFs (l : List Int) : Int → Nat → Option (List F × Int)
 | off, 0 => some ([], off)
 | off, k + 1 => match rdF l off with
  | none => none
  | some (f, e) => match rdFs l e k with
   | none => none
   | some (fs, e2) => some (f :: fs, e2)
def RfMid (l : List Int) (off : Int) (n k : Nat) (acc : List F) (o : Int) : Prop := acc.length = k ∧ rdFs l off n = (rdFs l o (n - k)).map fun p => (acc ++ p.1, p.2)
theorem RfMid.start (l : List Int) (off : Int) (n : Nat) : RfMid l off n 0 [] off := ⟨rfl, by simp⟩
theorem RfMid.none {l : List Int} {off : Int} {n k : Nat} {acc : List F} {o : Int} (h : RfMid l off n k acc o) (hk : k < n) (hr : rdF l o = Option.none) : rdFs l off n = Option.none := by
 rw [h.2, show n - k = (n - (k + 1)) + 1 by omega, rdFs, hr]
 rfl
end Go.Proofs.YthljdhfgphebnaaGreat.L5

namespace Go.Proofs.YthljdhfgphebnaaGreat.L6
open L4 (K isK cmpK R inR encU)
open L5 (F isR isN cellsF encR eqR Small)
open Go.ChangeShapes Go.WideShapes Go.ChangeAt Go.RowKit Mem Sl Ex L2 Sv Bag

theorem conI_snoc (ys : List LI) (x : LI) : conI (ys ++ [x]) = conI ys ++ [x.con] := List.map_append
end Go.Proofs.YthljdhfgphebnaaGreat.L6

namespace Go.Proofs.YthljdhfgphebnaaGreat.L7
open L4 (K isK cmpK R inR encU)
open L5 (F isR isN cellsF encR eqR Small getO getN getB)
open L6 (It)

def less7 (t : List UInt8) (a b : It) : Bool := decide (getN a.l t < getN b.l t) || (getN a.l t == getN b.l t && decide (cmpK a.k b.k < 0))
def backP (t : List UInt8) (x : It) (l : List It) : Nat → Nat
 | 0 => 0
 | n + 1 => match l[n]? with
  | none => n + 1
  | some y => if less7 t x y then backP t x l n else n + 1
theorem backP_le (t : List UInt8) (x : It) (l : List It) : ∀ n, backP t x l n ≤ n
 | 0 => Nat.le_refl _
 | n + 1 => by
  unfold backP
  split
  ·
   exact Nat.le_refl _
  ·
   split
   ·
    exact Nat.le_succ_of_le (backP_le t x l n)
   ·
    exact Nat.le_refl _
theorem backP_go {t : List UInt8} {x y : It} {l : List It} {n : Nat} (h : l[n]? = some y) (hl : less7 t x y = true) : backP t x l (n + 1) = backP t x l n := by
 rw [backP, h]
 dsimp only
 rw [if_pos hl]
theorem backP_stop {t : List UInt8} {x y : It} {l : List It} {n : Nat} (h : l[n]? = some y) (hl : less7 t x y = false) : backP t x l (n + 1) = n + 1 := by
 rw [backP, h]
 dsimp only
 rw [if_neg (by rw [hl]; exact Bool.false_ne_true)]
def insX (t : List UInt8) (l : List It) (x : It) : List It := l.take (backP t x l l.length) ++ x :: l.drop (backP t x l l.length)
def stepX (t : List UInt8) (l : List It) (x : It) : List It := if getB x.l t then insX t l x else l
def idxI (xs : List It) (t : List UInt8) : List It := xs.foldl (stepX t) []
theorem insX_len (t : List UInt8) (l : List It) (x : It) : (insX t l x).length = l.length + 1 := by
 have := backP_le t x l l.length
 unfold insX
 simp only [List.length_append, List.length_take, List.length_cons, List.length_drop]
 omega
theorem idxI_take {xs : List It} {t : List UInt8} {k : Nat} {x : It} (h : xs[k]? = some x) : idxI (xs.take (k + 1)) t = stepX t (idxI (xs.take k) t) x := by
 obtain ⟨hk, rfl⟩ := List.getElem?_eq_some_iff.1 h
 unfold idxI
 rw [List.take_succ_eq_append_getElem hk, List.foldl_append]
 rfl
theorem idxI_len (xs : List It) (t : List UInt8) : (idxI xs t).length ≤ xs.length := by
 have key : ∀ (xs l : List It), (xs.foldl (stepX t) l).length ≤ l.length + xs.length := by
  intro xs
  induction xs with
  | nil => intro l; exact Nat.le_refl _
  | cons x xs ih =>
   intro l
   have h1 := ih (stepX t l x)
   have h2 : (stepX t l x).length ≤ l.length + 1 := by
    unfold stepX
    split
    ·
     rw [insX_len]; exact Nat.le_refl _
    ·
     omega
   rw [List.foldl_cons, List.length_cons]
   omega
 have := key xs []
 simpa [idxI] using this
theorem idxI_mem {xs : List It} {t : List UInt8} : ∀ x ∈ idxI xs t, x ∈ xs ∧ getB x.l t = true := by
 have key : ∀ (xs l : List It), ∀ x ∈ xs.foldl (stepX t) l, x ∈ l ∨ (x ∈ xs ∧ getB x.l t = true) := by
  intro xs
  induction xs with
  | nil => intro l x hx; exact .inl hx
  | cons y ys ih =>
   intro l x hx
   rcases ih _ x hx with h | ⟨h, h2⟩
   ·
    unfold stepX at h
    split at h
    ·
     rename_i hb
     unfold insX at h
     rcases List.mem_append.1 h with h | h
     ·
      exact .inl (List.mem_of_mem_take h)
     ·
      rcases List.mem_cons.1 h with rfl | h
      ·
       exact .inr ⟨List.mem_cons_self .., hb⟩
      ·
       exact .inl (List.mem_of_mem_drop h)
    ·
     exact .inl h
   ·
    exact .inr ⟨List.mem_cons_of_mem _ h, h2⟩
 intro x hx
 rcases key xs [] x hx with h | h
 ·
  cases h
 ·
  exact h
def adj7 (t : List UInt8) (l : List It) (i : Nat) : Bool := match l[i]?, l[i + 1]? with
 | some a, some b => getN a.l t == getN b.l t
 | _, _ => false
def ufO (t : List UInt8) (l : List It) : Option Nat := (List.range (l.length - 1)).find? (adj7 t l)
def zK : K := ⟨0, 0, ⟨#[]⟩⟩
def keyAt (l : List It) (i : Nat) : K := match l[i]? with
 | some x => x.k
 | none => zK
def ufA (t : List UInt8) (l : List It) : K := match ufO t l with
 | some i => keyAt l i
 | none => zK
def ufZ (t : List UInt8) (l : List It) : K := match ufO t l with
 | some i => keyAt l (i + 1)
 | none => zK
def ufB (t : List UInt8) (l : List It) : Bool := (ufO t l).isSome
theorem ufO_none {t : List UInt8} {l : List It} (h : ∀ j, j + 1 < l.length → adj7 t l j = false) : ufO t l = none := by
 unfold ufO
 rw [List.find?_eq_none]
 intro j hj
 have := List.mem_range.1 hj
 rw [h j (by omega)]
 exact Bool.false_ne_true
theorem ufO_some {t : List UInt8} {l : List It} {i : Nat} (hi : i + 1 < l.length) (h : adj7 t l i = true) (ha : ∀ j, j < i → adj7 t l j = false) : ufO t l = some i := by
 unfold ufO
 rw [List.find?_range_eq_some]
 refine ⟨h, List.mem_range.2 (by omega), fun j hj => ?_⟩
 rw [ha j hj]
 rfl

structure Cu where
 r : R
 back : Bool
 st : Bool
 k : K
def Cu.v (x : Cu) : Value := .agg #[.bool x.r.hl, .bool x.r.hh, .int .i64 x.r.lo.kind, .int .i64 x.r.lo.n, .string x.r.lo.text, .int .i64 x.r.hi.kind, .int .i64 x.r.hi.n, .string x.r.hi.text, .bool x.back, .bool x.st, .int .i64 x.k.kind, .int .i64 x.k.n, .string x.k.text]
def Cu.to (x : Cu) (k : K) : Cu := ⟨x.r, x.back, true, k⟩
end Go.Proofs.YthljdhfgphebnaaGreat.L7

namespace Go.Proofs.YthljdhfgphebnaaGreat.L5
open Go.ChangeShapes Go.WideShapes Go.ChangeAt Go.RowKit Mem Sl Ex L2

theorem list_of {P : Nat → F → Prop} : ∀ (n : Nat), (∀ i, i < n → ∃ f, P i f) → ∃ l : List F, l.length = n ∧ ∀ i (hi : i < l.length), P i l[i]
 | 0, _ => ⟨[], rfl, fun i hi => absurd hi (by simp)⟩
 | n + 1, h => by
  obtain ⟨l, hl, hp⟩ := list_of n (fun i hi => h i (by omega))
  obtain ⟨f, hf⟩ := h n (by omega)
  refine ⟨l ++ [f], by simp [hl], fun i hi => ?_⟩
  by_cases hlt : i < l.length
  ·
   rw [List.getElem_append_left hlt]; exact hp i hlt
  ·
   have e : i = n := by simp at hi; omega
   subst e
   rw [List.getElem_append_right (by omega)]
   simpa using hf
section
variable {H : Type} {enc : TypeId × Value → H} {W : World} {b : Nat} {sp : Nat → Bool} {hd : Bool}
end
end Go.Proofs.YthljdhfgphebnaaGreat.L5

namespace Go.Proofs.YthljdhfgphebnaaGreat.V
open Go.ChangeShapes Go.WideShapes Go.ChangeAt Go.RowKit Mem Sl Sv Bag

section
variable {α β : Type}
theorem map_same {f : α → β} {xs ys : List α} (h : xs.map f = ys.map f) {k : Nat} {x : α} (hx : xs[k]? = some x) : ∃ y, ys[k]? = some y ∧ f y = f x := by
 have h1 : (xs.map f)[k]? = some (f x) := by rw [List.getElem?_map, hx]; rfl
 rw [h, List.getElem?_map, Option.map_eq_some_iff] at h1
 exact h1
theorem take_next {xs : List α} {k : Nat} {x : α} (hx : xs[k]? = some x) : xs.take (k + 1) = xs.take k ++ [x] := by
 obtain ⟨hk, rfl⟩ := List.getElem?_eq_some_iff.1 hx
 exact List.take_succ_eq_append_getElem hk
theorem drop_next {xs : List α} {k : Nat} {x : α} (hx : xs[k]? = some x) : xs.drop k = x :: xs.drop (k + 1) := by
 obtain ⟨hk, rfl⟩ := List.getElem?_eq_some_iff.1 hx
 exact List.drop_eq_getElem_cons hk
theorem split_next {xs : List α} {k : Nat} {x : α} (hx : xs[k]? = some x) : xs = xs.take k ++ x :: xs.drop (k + 1) := by
 rw [← drop_next hx, List.take_append_drop]
theorem flat_len {cl : α → List Value} {m : Nat} (hm : ∀ x, (cl x).length = m) : ∀ xs : List α, (xs.flatMap cl).length = xs.length * m
 | [] => by simp
 | x :: xs => by rw [List.flatMap_cons, List.length_append, hm, flat_len hm xs, List.length_cons]; rw [Nat.add_mul, Nat.one_mul, Nat.add_comm]
theorem flat_at {cl : α → List Value} {m : Nat} (hm : ∀ x, (cl x).length = m) {xs : List α} {k : Nat} {x : α} (hx : xs[k]? = some x) {j : Nat} {v : Value} (hj : (cl x)[j]? = some v) : (xs.flatMap cl)[k * m + j]? = some v := by
 have hk : k < xs.length := (List.getElem?_eq_some_iff.1 hx).1
 have h1 : j < (cl x).length := (List.getElem?_eq_some_iff.1 hj).1
 have h2 : ((xs.take k).flatMap cl).length = k * m := by rw [flat_len hm, List.length_take, Nat.min_eq_left (Nat.le_of_lt hk)]
 have h3 : xs.flatMap cl = (xs.take k).flatMap cl ++ (cl x ++ (xs.drop (k + 1)).flatMap cl) := by
  conv => lhs; rw [split_next hx, List.flatMap_append, List.flatMap_cons]
 rw [h3, List.getElem?_append_right (by rw [h2]; omega), h2, Nat.add_sub_cancel_left, List.getElem?_append_left h1]
 exact hj
theorem one_flat {cl : α → List Value} (h : ∀ x, ∀ u ∈ cl x, u.oneCell' = true) (xs : List α) : ∀ u ∈ xs.flatMap cl, u.oneCell' = true := fun u hu => by
 obtain ⟨x, _, hx⟩ := List.mem_flatMap.1 hu
 exact h x u hx
theorem add_far (ad : Addr) (q j : Nat) : ad.add (q + (j + 1)) = ⟨(ad.add q).block, (ad.add q).off + (j + 1), none⟩ := by
 rw [← Nat.add_assoc, L5.add_next, Addr.mk.injEq]
 unfold Addr.add
 by_cases h : q = 0 <;> by_cases h2 : j = 0 <;> simp [h, h2, Nat.add_assoc]
theorem reads_cell {w : World} {B : Nat} {ad : Addr} {vs : List Value} (h : Reads w B (some ad) vs) {j : Nat} {v : Value} (hj : vs[j]? = some v) : w.cell? (ad.add j) = some v := by
 obtain ⟨h1, rfl⟩ := List.getElem?_eq_some_iff.1 hj
 obtain ⟨a', e, _, hc⟩ := h j h1
 injection e with e
 rw [e]
 exact hc
theorem reads_some {w : World} {B : Nat} {a : Option Addr} {vs : List Value} (h : Reads w B a vs) (hl : 0 < vs.length) : ∃ ad, a = some ad := by
 obtain ⟨ad, e, _⟩ := h 0 hl
 exact ⟨ad, e⟩
theorem el_some {cl : α → List Value} {m : Nat} (hm : ∀ x, (cl x).length = m) (hp : 0 < m) {w : World} {B k : Nat} {a : Option Addr} {xs : List α} (h : Reads w B a (xs.flatMap cl)) (hk : k < xs.length) : ∃ ad, a = some ad := by
 refine reads_some h ?_
 rw [flat_len hm]
 exact Nat.mul_pos (by omega) hp
theorem el_first {cl : α → List Value} {m : Nat} (hm : ∀ x, (cl x).length = m) {w : World} {B k : Nat} {ad : Addr} {xs : List α} {x : α} {v : Value} (h : Reads w B (some ad) (xs.flatMap cl)) (hx : xs[k]? = some x) (hv : (cl x)[0]? = some v) : w.cell? (ad.add (k * m)) = some v := reads_cell h (flat_at hm hx hv)
theorem el_next {cl : α → List Value} {m : Nat} (hm : ∀ x, (cl x).length = m) {w : World} {B k : Nat} {ad : Addr} {xs : List α} {x : α} {v : Value} (h : Reads w B (some ad) (xs.flatMap cl)) (hx : xs[k]? = some x) (j : Nat) (hv : (cl x)[j + 1]? = some v) : w.cell? ⟨(ad.add (k * m)).block, (ad.add (k * m)).off + (j + 1), none⟩ = some v := by
 rw [← add_far]
 exact reads_cell h (flat_at hm hx hv)
theorem el2 {cl : α → List Value} (hm : ∀ x, (cl x).length = 2) {w : World} {B k : Nat} {ad : Addr} {xs : List α} {x : α} {v0 v1 : Value} (h : Reads w B (some ad) (xs.flatMap cl)) (hx : xs[k]? = some x) (hc : cl x = [v0, v1]) : w.cell? (ad.add (k * 2)) = some v0 ∧ w.cell? ⟨(ad.add (k * 2)).block, (ad.add (k * 2)).off + 1, none⟩ = some v1 := ⟨el_first hm h hx (by rw [hc]; rfl), el_next hm h hx 0 (by rw [hc]; rfl)⟩
theorem el3 {cl : α → List Value} (hm : ∀ x, (cl x).length = 3) {w : World} {B k : Nat} {ad : Addr} {xs : List α} {x : α} {v0 v1 v2 : Value} (h : Reads w B (some ad) (xs.flatMap cl)) (hx : xs[k]? = some x) (hc : cl x = [v0, v1, v2]) : w.cell? (ad.add (k * 3)) = some v0 ∧ w.cell? ⟨(ad.add (k * 3)).block, (ad.add (k * 3)).off + 1, none⟩ = some v1 ∧ w.cell? ⟨(ad.add (k * 3)).block, (ad.add (k * 3)).off + 2, none⟩ = some v2 := ⟨el_first hm h hx (by rw [hc]; rfl), el_next hm h hx 0 (by rw [hc]; rfl), el_next hm h hx 1 (by rw [hc]; rfl)⟩
theorem el4 {cl : α → List Value} (hm : ∀ x, (cl x).length = 4) {w : World} {B k : Nat} {ad : Addr} {xs : List α} {x : α} {v0 v1 v2 v3 : Value} (h : Reads w B (some ad) (xs.flatMap cl)) (hx : xs[k]? = some x) (hc : cl x = [v0, v1, v2, v3]) : w.cell? (ad.add (k * 4)) = some v0 ∧ w.cell? ⟨(ad.add (k * 4)).block, (ad.add (k * 4)).off + 1, none⟩ = some v1 ∧ w.cell? ⟨(ad.add (k * 4)).block, (ad.add (k * 4)).off + 2, none⟩ = some v2 ∧ w.cell? ⟨(ad.add (k * 4)).block, (ad.add (k * 4)).off + 3, none⟩ = some v3 := ⟨el_first hm h hx (by rw [hc]; rfl), el_next hm h hx 0 (by rw [hc]; rfl), el_next hm h hx 1 (by rw [hc]; rfl), el_next hm h hx 2 (by rw [hc]; rfl)⟩
theorem rd_nil (w : World) (B : Nat) : RowsRd w B [] := fun r hr => (by cases hr)
theorem rd_app {w : World} {B : Nat} {xs ys : List RowS} (h : RowsRd w B xs) (k : RowsRd w B ys) : RowsRd w B (xs ++ ys) := fun r hr => by
 rcases List.mem_append.1 hr with h1 | h1
 ·
  exact h r h1
 ·
  exact k r h1
theorem rd_left {w : World} {B : Nat} {xs ys : List RowS} (h : RowsRd w B (xs ++ ys)) : RowsRd w B xs := h.sub fun r hr => List.mem_append_left _ hr
theorem rd_right {w : World} {B : Nat} {xs ys : List RowS} (h : RowsRd w B (xs ++ ys)) : RowsRd w B ys := h.sub fun r hr => List.mem_append_right _ hr
theorem rd_cons {w : World} {B : Nat} {r : RowS} {ys : List RowS} (h : r.Rd w B) (k : RowsRd w B ys) : RowsRd w B (r :: ys) := fun s hs => by
 rcases List.mem_cons.1 hs with rfl | h1
 ·
  exact h
 ·
  exact k s h1
theorem rd_head {w : World} {B : Nat} {r : RowS} {ys : List RowS} (h : RowsRd w B (r :: ys)) : r.Rd w B := h r (List.mem_cons_self ..)
theorem rd_tail {w : World} {B : Nat} {r : RowS} {ys : List RowS} (h : RowsRd w B (r :: ys)) : RowsRd w B ys := h.sub fun s hs => List.mem_cons_of_mem _ hs
theorem rd_el {w : World} {B : Nat} {rw_ : α → List RowS} {xs : List α} (h : RowsRd w B (xs.flatMap rw_)) {k : Nat} {x : α} (hx : xs[k]? = some x) : RowsRd w B (rw_ x) := h.sub fun r hr => List.mem_flatMap.2 ⟨x, List.mem_of_getElem? hx, hr⟩
theorem flat_out {rw_ : α → List RowS} (ds es : List α) (x : α) : (ds.flatMap rw_ ++ (x :: es).flatMap rw_).Perm ((ds.flatMap rw_ ++ es.flatMap rw_) ++ rw_ x) := by
 rw [List.flatMap_cons, List.append_assoc]
 exact List.Perm.append_left _ List.perm_append_comm
theorem flat_back {rw_ : α → List RowS} (ds es : List α) (x : α) : ((ds.flatMap rw_ ++ es.flatMap rw_) ++ rw_ x).Perm ((ds ++ [x]).flatMap rw_ ++ es.flatMap rw_) := by
 rw [List.flatMap_append, List.append_assoc, List.append_assoc]
 refine List.Perm.append_left _ ?_
 rw [show [x].flatMap rw_ = rw_ x by simp]
 exact List.perm_append_comm
def fsum (f : α → Nat) (xs : List α) : Nat := (xs.map f).sum
theorem fsum_nil (f : α → Nat) : fsum f [] = 0 := rfl
theorem fsum_cons (f : α → Nat) (x : α) (xs : List α) : fsum f (x :: xs) = f x + fsum f xs := by unfold fsum; rw [List.map_cons, List.sum_cons]
theorem fsum_app (f : α → Nat) (xs ys : List α) : fsum f (xs ++ ys) = fsum f xs + fsum f ys := by unfold fsum; rw [List.map_append, List.sum_append]
theorem fsum_take {f : α → Nat} {xs : List α} {k : Nat} {x : α} (hx : xs[k]? = some x) : fsum f (xs.take (k + 1)) = fsum f (xs.take k) + f x := by rw [take_next hx, fsum_app, fsum_cons, fsum_nil, Nat.add_zero]
theorem fsum_le (f : α → Nat) (xs : List α) (k : Nat) : fsum f (xs.take k) ≤ fsum f xs := by
 have h : fsum f xs = fsum f (xs.take k) + fsum f (xs.drop k) := by rw [← fsum_app, List.take_append_drop]
 omega
theorem fsum_at {f : α → Nat} {xs : List α} {k : Nat} {x : α} (hx : xs[k]? = some x) : fsum f (xs.take k) + f x ≤ fsum f xs := by
 have h1 := fsum_take (f := f) hx
 have h2 := fsum_le f xs (k + 1)
 omega
theorem fsum_map (f : β → Nat) (g : α → β) (xs : List α) : fsum f (xs.map g) = fsum (fun x => f (g x)) xs := by unfold fsum; rw [List.map_map]; rfl
def wsum (f : α → Nat) (xs : List α) : Nat := xs.length + fsum f xs
theorem wsum_len (f : α → Nat) (xs : List α) : xs.length ≤ wsum f xs := Nat.le_add_right _ _
theorem wsum_mem {f : α → Nat} {xs : List α} {x : α} (h : x ∈ xs) : f x + 1 ≤ wsum f xs := by
 obtain ⟨k, hk, rfl⟩ := List.getElem_of_mem h
 have := fsum_at (f := f) (List.getElem?_eq_getElem hk)
 unfold wsum
 omega
def lft (q : Int) (m : Nat) : Int := if q - m < 0 then -1 else q - m
theorem lft_pos {q : Int} {m : Nat} (h : ¬ q - m < 0) : lft q m = q - m := if_neg h
theorem lft_neg {q : Int} {m : Nat} (h : q - m < 0) : lft q m = -1 := if_pos h
theorem lft_range {q : Int} (m : Nat) (h : q ≤ 1048576) : -1 ≤ lft q m ∧ lft q m ≤ 1048576 := by unfold lft; split <;> omega
theorem lft_small {q : Int} {m : Nat} (h : ¬ lft q m < 0) (hq : q ≤ 1048576) : m ≤ 1048576 ∧ lft q m = q - m := by
 by_cases h1 : q - m < 0
 ·
  rw [lft_neg h1] at h; omega
 ·
  rw [lft_pos h1]; omega
theorem lft_cases {q : Int} {m : Nat} {u : Int} (h : lft q m = u) : (u = -1 ∧ q - m < 0) ∨ (0 ≤ u ∧ u = q - m) := by
 by_cases h1 : q - m < 0
 ·
  rw [lft_neg h1] at h; exact .inl ⟨h.symm, h1⟩
 ·
  rw [lft_pos h1] at h; exact .inr ⟨by omega, h.symm⟩
theorem wsum_map (f : β → Nat) (g : α → β) (xs : List α) : wsum f (xs.map g) = xs.length + fsum (fun x => f (g x)) xs := by unfold wsum; rw [List.length_map, fsum_map]
def mks (em : Int → α → α) (cnt : α → Nat) : Int → List α → List α
 | _, [] => []
 | k, x :: xs => em k x :: mks em cnt (k + cnt x) xs
theorem mks_len (em : Int → α → α) (cnt : α → Nat) : ∀ (k : Int) (xs : List α), (mks em cnt k xs).length = xs.length
 | _, [] => rfl
 | k, x :: xs => by unfold mks; rw [List.length_cons, List.length_cons, mks_len]
theorem mks_app (em : Int → α → α) (cnt : α → Nat) : ∀ (xs ys : List α) (k : Int), mks em cnt k (xs ++ ys) = mks em cnt k xs ++ mks em cnt (k + fsum cnt xs) ys
 | [], ys, k => by rw [fsum_nil]; simp [mks]
 | x :: xs, ys, k => by
  show em k x :: mks em cnt _ (xs ++ ys) = _
  rw [mks_app em cnt xs ys, fsum_cons]
  show em k x :: (mks em cnt _ xs ++ mks em cnt _ ys) = em k x :: (mks em cnt (k + cnt x) xs ++ _)
  rw [show k + (cnt x : Int) + (fsum cnt xs : Int) = k + ((cnt x + fsum cnt xs : Nat) : Int) by omega]
theorem mks_next (em : Int → α → α) (cnt : α → Nat) (k : Int) {xs : List α} {j : Nat} {x : α} (hx : xs[j]? = some x) : mks em cnt k (xs.take (j + 1)) = mks em cnt k (xs.take j) ++ [em (k + fsum cnt (xs.take j)) x] := by
 rw [take_next hx, mks_app]
 rfl
theorem mks_at (em : Int → α → α) (cnt : α → Nat) (k : Int) {xs : List α} {j : Nat} {x : α} (hx : xs[j]? = some x) : (mks em cnt k xs)[j]? = some (em (k + fsum cnt (xs.take j)) x) := by
 obtain ⟨hj, rfl⟩ := List.getElem?_eq_some_iff.1 hx
 have h1 : (mks em cnt k (xs.take j)).length = j := by rw [mks_len, List.length_take, Nat.min_eq_left (Nat.le_of_lt hj)]
 have h2 : ∀ zs, zs = xs.take j ++ xs[j] :: xs.drop (j + 1) → (mks em cnt k zs)[j]? = some (em (k + fsum cnt (xs.take j)) xs[j]) := fun zs hz => by
  rw [hz, mks_app, List.getElem?_append_right (by rw [h1]; exact Nat.le_refl _), h1, Nat.sub_self]
  rfl
 exact h2 xs (split_next hx)
theorem mks_fp {em : Int → α → α} {cnt : α → Nat} {rw_ : α → List RowS} (h : ∀ k x, (rw_ (em k x)).flatMap RowS.fp = (rw_ x).flatMap RowS.fp) : ∀ (xs : List α) (k : Int), ((mks em cnt k xs).flatMap rw_).flatMap RowS.fp = (xs.flatMap rw_).flatMap RowS.fp
 | [], _ => rfl
 | x :: xs, k => by
  show (rw_ (em k x) ++ (mks em cnt _ xs).flatMap rw_).flatMap RowS.fp = (rw_ x ++ xs.flatMap rw_).flatMap RowS.fp
  rw [List.flatMap_append, List.flatMap_append, h, mks_fp h xs]
end

theorem cnt_sum {α β : Type} {cnt : α → Nat} {wt : β → Nat} {co : α → β} (h : ∀ x, cnt x ≤ 64 * (wt (co x) + 1)) : ∀ xs : List α, fsum cnt xs ≤ 64 * wsum wt (xs.map co)
 | [] => by simp [fsum_nil]
 | x :: xs => by
  have h1 := h x
  have h2 := cnt_sum h xs
  unfold wsum at h2 ⊢
  rw [List.map_cons, fsum_cons, fsum_cons, List.length_cons]
  omega
theorem list_of {α : Type} {P : Nat → α → Prop} : ∀ (n : Nat), (∀ i, i < n → ∃ f, P i f) → ∃ l : List α, l.length = n ∧ ∀ i (hi : i < l.length), P i l[i]
 | 0, _ => ⟨[], rfl, fun i hi => absurd hi (by simp)⟩
 | n + 1, h => by
  obtain ⟨l, hl, hp⟩ := list_of n (fun i hi => h i (by omega))
  obtain ⟨f, hf⟩ := h n (by omega)
  refine ⟨l ++ [f], by simp [hl], fun i hi => ?_⟩
  by_cases hlt : i < l.length
  ·
   rw [List.getElem_append_left hlt]; exact hp i hlt
  ·
   have e : i = n := by simp at hi; omega
   subst e
   rw [List.getElem_append_right (by omega)]
   simpa using hf
section
variable {H : Type} {enc : TypeId × Value → H} {W : World} {b : Nat} {sp : Nat → Bool} {hd : Bool} {α : Type}
theorem trods (cl : α → List Value) (m : Nat) (hm : ∀ x, (cl x).length = m) (hpos : 0 < m) (rw_ : α → List RowS) (wide : α → Prop) (sid eid : TypeId) (hu : Tryz.prog.underlying sid = some (.slice eid)) (hcells : Tryz.prog.cellsOf eid = m)
  (htrod : ∀ {fuel : Nat} {cs : List Value} {x : DataW H × List MemPlace}, DataW.trod enc Tryz.prog W b sp hd fuel eid cs = some x → (∀ p ∈ x.2, p.block < W.heap.size) → ∃ z : α, cs = cl z ∧ RowsRd W W.heap.size (rw_ z) ∧ wide z)
  {fuel : Nat} {cs : List Value} {x : DataW H × List MemPlace} (h : DataW.trod enc Tryz.prog W b sp hd fuel sid cs = some x) (hlt : ∀ p ∈ x.2, p.block < W.heap.size) :
  ∃ (a : Option Addr) (xs : List α) (c : Nat), cs = [.slice a xs.length c] ∧ (Reads W W.heap.size a (xs.flatMap cl) ∧ xs.length ≤ c ∧ (a = none → c = 0)) ∧ RowsRd W W.heap.size (xs.flatMap rw_) ∧ xs.length ≤ maxLen ∧ ∀ z ∈ xs, wide z := by
 rcases DataW.trod_slice hu h with ⟨rfl, _⟩ | ⟨a, len, cap, elems, rest, n, _, rfl, rfl, hxx, hll0, hmm0, hlen, hel, _, _⟩
 ·
  exact ⟨none, [], 0, rfl, ⟨Reads.nil, Nat.le_refl _, fun _ => rfl⟩, rd_nil _ _, Nat.zero_le _, fun z hz => by cases hz⟩
 ·
  rw [hcells] at hel hlt
  obtain ⟨l, hll, hp⟩ := list_of (P := fun i z => (∀ q (hq : q < m), W.cell? (a.add (i * m + q)) = (cl z)[q]?) ∧ RowsRd W W.heap.size (rw_ z) ∧ wide z) len (fun i hi => by
   have h1 := hel i hi
   rw [List.getElem?_eq_getElem (by omega), Option.bind_eq_some_iff] at h1
   obtain ⟨cs, hc, ht⟩ := h1
   obtain ⟨z, rfl, hw, hw2⟩ := htrod ht (fun p hp => hlt p (List.mem_append_right _ (List.mem_flatMap.2 ⟨_, List.mem_append_left _ (List.getElem_mem (show i < elems.length by omega)), hp⟩)))
   obtain ⟨_, _, h3⟩ := World.cells?_some hc
   refine ⟨z, fun q hq => ?_, hw, hw2⟩
   have q0 := h3 q hq
   rw [add_add] at q0
   exact q0)
  subst hll
  have hrd : Reads W W.heap.size (some a) (l.flatMap cl) := fun j hj => by
   rw [flat_len hm] at hj
   refine ⟨a, rfl, ?_, ?_⟩
   ·
    have hl0 : 0 < l.length := by
     rcases Nat.eq_zero_or_pos l.length with h0 | h0
     ·
      rw [h0, Nat.zero_mul] at hj; omega
     ·
      exact h0
    have := hlt (MemPlace.cell a.block (a.off + 0)) (List.mem_append_left _ (List.mem_map.2 ⟨0, List.mem_range.2 (Nat.mul_pos (by omega) hpos), rfl⟩))
    simpa [MemPlace.block] using this
   ·
    have hk : j / m < l.length := Nat.div_lt_of_lt_mul (by rw [Nat.mul_comm]; exact hj)
    have hq : j % m < m := Nat.mod_lt _ hpos
    have h1 := (hp (j / m) hk).1 (j % m) hq
    have e : j / m * m + j % m = j := by rw [Nat.mul_comm]; exact Nat.div_add_mod j m
    have h4 := flat_at hm (List.getElem?_eq_getElem hk) (List.getElem?_eq_getElem (show j % m < (cl l[j / m]).length by rw [hm]; exact hq))
    rw [List.getElem?_eq_getElem (show j % m < (cl l[j / m]).length by rw [hm]; exact hq)] at h1
    rw [e] at h1 h4
    exact h1.trans (h4.symm.trans (List.getElem?_eq_getElem _))
  refine ⟨some a, l, cap, rfl, ⟨hrd, hll0, fun h => (by cases h)⟩, fun r hr => ?_, Nat.le_trans hll0 hmm0, fun z hz => ?_⟩
  ·
   obtain ⟨z, hz, hr⟩ := List.mem_flatMap.1 hr
   obtain ⟨i, hi, rfl⟩ := List.getElem_of_mem hz
   exact (hp i hi).2.1 r hr
  ·
   obtain ⟨i, hi, rfl⟩ := List.getElem_of_mem hz
   exact (hp i hi).2.2
end
end Go.Proofs.YthljdhfgphebnaaGreat.V

namespace Go.Proofs.YthljdhfgphebnaaGreat.L5
open Go.Op (bytesLess)
open L4 (boxR push_box box_at)
open Go.ChangeShapes Go.WideShapes Go.ChangeAt Go.RowKit Mem Sl Ex L2 Sv

theorem put_box5 {W w : World} {rs : List Res} {g : Nat} {t : TypeId} {cs : Array Value} (h : Sep W w rs) (i : Nat) (hi : rs[i]? = some (boxR g t cs)) (j : Nat) (v : Value) : Sep W (w.setCell ⟨g, j, none⟩ v) (rs.set i (boxR g t (cs.setIfInBounds j v))) :=
 h.put i hi (Turned.of_grown (grownBy_put w g j v)) ((box_at h i hi).put j v) (fun b hb => hb)
end Go.Proofs.YthljdhfgphebnaaGreat.L5

namespace Go.Proofs.YthljdhfgphebnaaGreat.L1
open Go.ChangeShapes Go.WideShapes Go.ChangeAt Go.RowKit

def FmtRel (n : Int) (s x : Value) (w w' : World) : Prop :=
 ∃ (y : Int) (l : List UInt8), x = .int .i64 y ∧ s = .string ⟨l.toArray⟩ ∧ digs y.natAbs ++ l = digs n.natAbs ∧ (0 ≤ n → 0 ≤ y) ∧ (n ≤ 0 → y ≤ 0) ∧ -9223372036854775808 ≤ y ∧ y ≤ 9223372036854775807 ∧ Below w.heap.size w w'

theorem tmod10_nat (y : Int) : (y.tmod 10).natAbs = y.natAbs % 10 := by
 rw [Int.natAbs_tmod]; rfl
theorem tdiv10_nat (y : Int) : (y.tdiv 10).natAbs = y.natAbs / 10 := by
 rw [Int.natAbs_tdiv]; rfl
theorem conv_one (w : World) (y d : Int) (h0 : 0 ≤ d) (h : d.natAbs = y.natAbs % 10) :
  (convert 121 9 (.slice (some ⟨w.heap.size, 0, none⟩) 1 1)).run Tryz.prog (w.alloc (.cells #[.int .u8 (48 + d)] 5)) = .ok (.string ⟨[UInt8.ofNat (48 + y.natAbs % 10)].toArray⟩) (w.alloc (.cells #[.int .u8 (48 + d)] 5)) :=
 run_convert_bytes_back (P := Tryz.prog) _ 121 9 5 ⟨w.heap.size, 0, none⟩ 1 [UInt8.ofNat (48 + y.natAbs % 10)] Tryz.underlying121 Tryz.underlying5 Tryz.underlying9 (fun j hj => by
  obtain rfl : j = 0 := by simp at hj; omega
  simp [go_sem]
  omega)

theorem fmt_next (n y : Int) (l : List UInt8) (w w' : World) (hy : y ≠ 0) (hd : digs y.natAbs ++ l = digs n.natAbs) (h : (0 ≤ n → 0 ≤ y) ∧ (n ≤ 0 → y ≤ 0)) (hy0 : -9223372036854775808 ≤ y) (hy1 : y ≤ 9223372036854775807) (hb : Below w.heap.size w w') :
  FmtRel n (.string (⟨#[48 + UInt8.ofNat (y.natAbs % 10)]⟩ ++ ⟨l.toArray⟩)) (.int .i64 (y.tdiv 10)) w w' ∧ (intOf (.int .i64 (y.tdiv 10))).natAbs < (intOf (.int .i64 y)).natAbs := by
 have hq := tdiv10_nat y
 have hs : 0 ≤ y → 0 ≤ y.tdiv 10 := fun h => Int.tdiv_nonneg h (by decide)
 have hs' : y ≤ 0 → y.tdiv 10 ≤ 0 := fun h => by
  have := Int.tdiv_nonneg (a := -y) (b := 10) (by omega) (by decide)
  rw [Int.neg_tdiv] at this
  omega
 refine ⟨⟨y.tdiv 10, (48 + UInt8.ofNat (y.natAbs % 10)) :: l, rfl, rfl, ?_, fun a => hs (h.1 a), fun a => hs' (h.2 a), by omega, by omega, hb⟩, by simp only [intOf]; omega⟩
 rw [hq, ← hd, digs_step (u := y.natAbs) (by omega), List.append_assoc, UInt8.ofNat_add]
 rfl


end Go.Proofs.YthljdhfgphebnaaGreat.L1

namespace Go.Proofs.YthljdhfgphebnaaGreat.L5
open L4 (boxR push_box box_at)
open Go.ChangeShapes Go.WideShapes Go.ChangeAt Go.RowKit Mem Sl Ex L2 Sv

def Roomy (l : List F) (n u : Int) : Prop := -1 ≤ u ∧ u ≤ 1048576 ∧ (0 ≤ u → (l.length : Int) ≤ n ∧ ∀ f ∈ l, (f.name.size : Int) ≤ 1048576)
def markT (k : Int) : ByteArray := ⟨(109 :: L1.digs k.natAbs).toArray⟩
def marksF (k : Int) (n : Nat) : List F := (List.range n).map fun (j : Nat) => ⟨markT (k + 2 * (j : Int)), k + 2 * (j : Int) + 1⟩
@[simp] theorem marksF_length (k : Int) (n : Nat) : (marksF k n).length = n := by simp [marksF]
set_option maxHeartbeats 1000000 in
theorem markText_any (k : Int) (h0 : 0 < k) (h1 : k ≤ 9223372036854775807) (w : World) :
  Calls Tryz.prog 48 #[.int .i64 k] w fun e w' => e = .returned (.string (markT k)) ∧ Below w.heap.size w w' := by
 have hlen : (L1.digs k.natAbs).length ≤ 20 := Nat.le_trans (L1.digs_length _) (Lib.nDigits_le20 _ (by omega))
 go_enter Tryz.func48, Tryz.ntmps48
 go_wp2
 go_loopw [0, 3] (fun x s wr => L1.FmtRel k s x w wr) (fun x _ _ => (intOf x).natAbs)
 case atStart => exact ⟨k, [], rfl, rfl, by simp, fun h => h, fun h => h, by omega, h1, Below.refl _ _⟩
 case round =>
  obtain ⟨y, l, rfl, rfl, hd, hp, hn, hy0, hy1, hb⟩ := hrel
  have hl : l.length ≤ 20 := by rw [← hd] at hlen; simp at hlen; omega
  have HD := Lib.hid hd
  have HP := Lib.hid (And.intro hp hn)
  have hyp : 0 ≤ y := hp (by omega)
  clear hd hp hn hlen
  by_cases hy : y = 0
  ·
   subst hy
   go_wp2
   go_ret
   refine ⟨?_, hb⟩
   have hd := HD.out
   unfold markT
   rw [← hd, show (Int.natAbs 0) = 0 from rfl, L1.digs_zero]
   rfl
  ·
   have hy2 : 0 < y := by omega
   have t1 := L1.tmod10_nat y
   have b0 : 0 ≤ y % 10 := by omega
   have b1 : y % 10 ≤ 9 := by omega
   have hcv := fun W : World => L1.conv_one W y (y % 10) (by omega) (by omega)
   have T1 := Lib.hid t1
   clear t1
   go_wp2
   have hfin := L1.fmt_next k y l w _ hy HD.out HP.out hy0 hy1 (hb.alloc (hb.size) (.cells #[.int .u8 (48 + y % 10)] 5))
   rw [Int.tdiv_eq_ediv_of_nonneg hyp] at hfin
   exact hfin
theorem Roomy.out {l : List F} {n u : Int} (h : Roomy l n u) (hu : ¬ u < 0) (hn : n ≤ 1048576) : l.length ≤ 1048576 ∧ Small l := by
 obtain ⟨h1, h2⟩ := h.2.2 (by omega)
 exact ⟨by omega, fun f hf => by have := h2 f hf; omega⟩
section
variable {W w : World} {rs : List Res}
end
end Go.Proofs.YthljdhfgphebnaaGreat.L5

namespace Go.Proofs.YthljdhfgphebnaaGreat.V
open Go.ChangeShapes Go.WideShapes Go.ChangeAt Go.RowKit Mem Sl Sv Bag
open L5 (markT)
def co_Key (z : L4.K) : L4.K := z
def cl_Key (z : L4.K) : List Value := [.int .i64 z.kind, .int .i64 z.n, .string z.text]
def vv_Key (z : L4.K) : Value := .agg #[.int .i64 z.kind, .int .i64 z.n, .string z.text]
def rw_Key (z : L4.K) : List RowS := []
def wt_Key (c : L4.K) : Nat := c.text.size
theorem wt_Key_parts (z : L4.K) : wt_Key (co_Key z) = z.text.size := rfl
def Wide_Key (z : L4.K) : Prop := (-9223372036854775808 ≤ z.kind ∧ z.kind ≤ 9223372036854775807) ∧ (-9223372036854775808 ≤ z.n ∧ z.n ≤ 9223372036854775807) ∧ z.text.size ≤ maxLen
section
variable {H : Type} {enc : TypeId × Value → H} {W : World} {b : Nat} {sp : Nat → Bool} {hd : Bool}
theorem trod_Key {fuel : Nat} {cs : List Value} {x : DataW H × List MemPlace} (h : DataW.trod enc Tryz.prog W b sp hd fuel 177 cs = some x) (hlt : ∀ p ∈ x.2, p.block < W.heap.size) : ∃ z : L4.K, cs = cl_Key z ∧ RowsRd W W.heap.size (rw_Key z) ∧ Wide_Key z := by
 obtain ⟨xs, n, _, hx, hl, hlen, hf⟩ := DataW.trod_struct Tryz.underlying177 h
 have hlN : cs.length = 3 := hl.trans (by kernel_rfl)
 match cs, hlN with
 | [c0, c1, c2], _ =>
  have h0 : DataW.trod enc Tryz.prog W b sp hd n 3 (List.take (Tryz.prog.cellsOf 3) (List.drop 0 [c0, c1, c2])) = xs[0]? := hf 0 _ rfl
  rw [show Tryz.prog.cellsOf 3 = 1 by kernel_rfl, List.getElem?_eq_getElem (by rw [hlen]; decide)] at h0
  obtain ⟨x0, e0, _, w0⟩ := DataW.trod_int Tryz.underlying3 h0
  have h1 : DataW.trod enc Tryz.prog W b sp hd n 3 (List.take (Tryz.prog.cellsOf 3) (List.drop 1 [c0, c1, c2])) = xs[1]? := hf 1 _ rfl
  rw [show Tryz.prog.cellsOf 3 = 1 by kernel_rfl, List.getElem?_eq_getElem (by rw [hlen]; decide)] at h1
  obtain ⟨x1, e1, _, w1⟩ := DataW.trod_int Tryz.underlying3 h1
  have h2 : DataW.trod enc Tryz.prog W b sp hd n 9 (List.take (Tryz.prog.cellsOf 9) (List.drop 2 [c0, c1, c2])) = xs[2]? := hf 2 _ rfl
  rw [show Tryz.prog.cellsOf 9 = 1 by kernel_rfl, List.getElem?_eq_getElem (by rw [hlen]; decide)] at h2
  obtain ⟨x2, e2, _, w2⟩ := DataW.trod_string Tryz.underlying9 h2
  simp only [List.drop_succ_cons, List.drop_zero, List.take_succ_cons, List.take_zero, List.cons.injEq, and_true] at e0
  subst e0
  simp only [List.drop_succ_cons, List.drop_zero, List.take_succ_cons, List.take_zero, List.cons.injEq, and_true] at e1
  subst e1
  simp only [List.drop_succ_cons, List.drop_zero, List.take_succ_cons, List.take_zero, List.cons.injEq, and_true] at e2
  subst e2
  exact ⟨⟨x0, x1, x2⟩, rfl, rd_nil _ _, ⟨Law.wf_i64 w0, Law.wf_i64 w1, w2⟩⟩
end
set_option maxHeartbeats 4000000 in
theorem to_Key (z : L4.K) (w : World) : Calls Tryz.prog 163 #[vv_Key z] w fun e w' => e = .returned (vv_Key z) ∧ Below w.heap.size w w' := by
 unfold vv_Key
 have S1 := Lib.hid (show Sl.Sep w _ [_, _] from L4.push_box (L4.push_box (Sl.Sep.start w) 177 #[.int .i64 z.kind, .int .i64 z.n, .string z.text] (w.heap.size) (by simp)) 110 #[.int .i64 0, .int .i64 0, .string ⟨#[]⟩] (w.heap.size + 1) (by simp))
 obtain ⟨wa, hwa⟩ : ∃ u, u = ((w.alloc (.cells #[.int .i64 z.kind, .int .i64 z.n, .string z.text] 177)).alloc (.cells #[.int .i64 0, .int .i64 0, .string ⟨#[]⟩] 110)) := ⟨_, rfl⟩
 rw [← hwa] at S1
 go_enter Tryz.func163, Tryz.ntmps163
 go_upto_region 1 with fail
 rw [← hwa]
 clear hwa
 go_upto_region 2 with fail
 have S2 := Lib.hid (show Sl.Sep w _ [_, _, _] from L4.push_box S1.out 110 #[.int .i64 0, .int .i64 0, .string ⟨#[]⟩] wa.heap.size rfl)
 clear S1
 obtain ⟨g1, hg⟩ : ∃ g', g' = wa.heap.size := ⟨_, rfl⟩
 rw [← hg] at S2 ⊢
 clear hg
 generalize wa.alloc (.cells #[.int .i64 0, .int .i64 0, .string ⟨#[]⟩] 110) = w1 at S2 ⊢
 obtain ⟨f0, f1, f2⟩ := Bag.cs3 S2.out 0 rfl
 obtain ⟨f3, f4, f5⟩ := Bag.cs3 S2.out 2 rfl
 have z0 := Bag.free_at S2.out 2 rfl 0
 go_upto_region 3 with fail
 clear f0 f1 f2 f3 f4 f5 z0
 have S3 := Lib.hid (show Sl.Sep w _ [_, _, L4.boxR g1 110 #[.int .i64 z.kind, .int .i64 0, .string ⟨#[]⟩]] from L5.put_box5 (S2.out) 2 rfl 0 (.int .i64 z.kind))
 clear S2
 obtain ⟨f0, f1, f2⟩ := Bag.cs3 S3.out 0 rfl
 obtain ⟨f3, f4, f5⟩ := Bag.cs3 S3.out 2 rfl
 have z1 := Bag.free_at S3.out 2 rfl 1
 go_upto_region 4 with fail
 clear f0 f1 f2 f3 f4 f5 z1
 have S4 := Lib.hid (show Sl.Sep w _ [_, _, L4.boxR g1 110 #[.int .i64 z.kind, .int .i64 z.n, .string ⟨#[]⟩]] from L5.put_box5 (S3.out) 2 rfl 1 (.int .i64 z.n))
 clear S3
 obtain ⟨f0, f1, f2⟩ := Bag.cs3 S4.out 0 rfl
 obtain ⟨f3, f4, f5⟩ := Bag.cs3 S4.out 2 rfl
 have z2 := Bag.free_at S4.out 2 rfl 2
 go_upto_region 5 with fail
 clear f0 f1 f2 f3 f4 f5 z2
 have S5 := Lib.hid (show Sl.Sep w _ [_, _, L4.boxR g1 110 #[.int .i64 z.kind, .int .i64 z.n, .string z.text]] from L5.put_box5 (S4.out) 2 rfl 2 (.string z.text))
 clear S4
 obtain ⟨f0, f1, f2⟩ := Bag.cs3 S5.out 1 rfl
 obtain ⟨f3, f4, f5⟩ := Bag.cs3 S5.out 2 rfl
 obtain ⟨z0, z1, z2⟩ := Bag.fs3 S5.out 1 rfl
 go_wp2_with fail
 clear f0 f1 f2 f3 f4 f5 z0 z1 z2
 have S6 := Lib.hid (show Sl.Sep w _ [_, L4.boxR (w.heap.size + 1) 110 #[.int .i64 z.kind, .int .i64 z.n, .string z.text], _] from L5.put_box5 (L5.put_box5 (L5.put_box5 (S5.out) 1 rfl 0 (.int .i64 z.kind)) 1 rfl 1 (.int .i64 z.n)) 1 rfl 2 (.string z.text))
 clear S5
 obtain ⟨f0, f1, f2⟩ := Bag.cs3 S6.out 1 rfl
 refine bodyPost_ret (v := .agg #[.int .i64 z.kind, .int .i64 z.n, .string z.text]) (by simp [results, Tryz.results163, go_sem, *]) rfl ?_
 clear f0 f1 f2
 exact ⟨rfl, S6.out.old⟩
set_option maxHeartbeats 4000000 in
theorem sz_Key (z : L4.K) (q : Int) (hw : Wide_Key z) (hq0 : -1 ≤ q) (hq1 : q ≤ 1048576) (w : World) : Calls Tryz.prog 161 #[vv_Key z, .int .i64 q] w fun e w' => e = .returned (.int .i64 (lft q (wt_Key (co_Key z)))) ∧ Below w.heap.size w w' := by
 have hs2 : (z.text.size : Int) ≤ 9223372036854775807 := by have h : z.text.size ≤ maxLen := hw.2.2; unfold maxLen at h; omega
 have HW := Lib.hid (wt_Key_parts z)
 clear hw
 unfold vv_Key
 have S1 := Lib.hid (show Sl.Sep w _ [_] from L4.push_box (Sl.Sep.start w) 177 #[.int .i64 z.kind, .int .i64 z.n, .string z.text] (w.heap.size) (by simp))
 obtain ⟨wa, hwa⟩ : ∃ u, u = (w.alloc (.cells #[.int .i64 z.kind, .int .i64 z.n, .string z.text] 177)) := ⟨_, rfl⟩
 rw [← hwa] at S1
 go_enter Tryz.func161, Tryz.ntmps161
 go_upto_region 1 with fail
 rw [← hwa]
 clear hwa
 obtain ⟨f0, f1, f2⟩ := Bag.cs3 S1.out 0 rfl
 by_cases hn2 : q - (z.text.size : Int) < 0
 ·
  skip
  go_wp2_with fail
  go_ret
  exact ⟨by rw [HW.out, lft_neg (by omega)] <;> rfl, S1.out.old⟩
 ·
  skip
  go_wp2_with fail
  go_ret
  exact ⟨by rw [HW.out, lft_pos (by omega)] <;> first | rfl | (refine congrArg (fun i => Ending.returned (.int .i64 i)) ?_; omega), S1.out.old⟩
set_option maxHeartbeats 4000000 in
theorem eq_Key (z : L4.K) (w : World) : Calls Tryz.prog 174 #[vv_Key z, vv_Key z] w fun e w' => e = .returned (.bool true) ∧ Below w.heap.size w w' := by
 unfold vv_Key
 have S1 := Lib.hid (show Sl.Sep w _ [_, _] from L4.push_box (L4.push_box (Sl.Sep.start w) 110 #[.int .i64 z.kind, .int .i64 z.n, .string z.text] (w.heap.size) (by simp)) 110 #[.int .i64 z.kind, .int .i64 z.n, .string z.text] (w.heap.size + 1) (by simp))
 obtain ⟨wa, hwa⟩ : ∃ u, u = ((w.alloc (.cells #[.int .i64 z.kind, .int .i64 z.n, .string z.text] 110)).alloc (.cells #[.int .i64 z.kind, .int .i64 z.n, .string z.text] 110)) := ⟨_, rfl⟩
 rw [← hwa] at S1
 go_enter Tryz.func174, Tryz.ntmps174
 go_upto_region 1 with fail
 rw [← hwa]
 clear hwa
 obtain ⟨f0, f1, f2⟩ := Bag.cs3 S1.out 0 rfl
 obtain ⟨f3, f4, f5⟩ := Bag.cs3 S1.out 1 rfl
 go_wp2_with fail
 go_ret
 exact ⟨rfl, S1.out.old⟩
end Go.Proofs.YthljdhfgphebnaaGreat.V

set_option linter.unusedSimpArgs false
namespace Go.Proofs.YthljdhfgphebnaaGreat.V
open Go.ChangeShapes Go.WideShapes Go.ChangeAt Go.RowKit Mem Sl Sv Bag
open L5 (markT)
def co_Field (z : L5.F) : L5.F := z
def coS_Field (xs : List L5.F) : List L5.F := xs
theorem coS_Field_eq (xs : List L5.F) : coS_Field xs = xs.map co_Field := (List.map_id' xs).symm
def cl_Field (z : L5.F) : List Value := [.string z.name, .int .i64 z.n]
def vv_Field (z : L5.F) : Value := .agg #[.string z.name, .int .i64 z.n]
def rw_Field (z : L5.F) : List RowS := []
def wt_Field (c : L5.F) : Nat := c.name.size
theorem wt_Field_parts (z : L5.F) : wt_Field (co_Field z) = z.name.size := rfl
theorem cl_Field_len (z : L5.F) : (cl_Field z).length = 2 := rfl
def row_Field (a : Option Addr) (c : Nat) (xs : List L5.F) : RowS := ⟨184, 2, a, c, xs.length, xs.flatMap cl_Field⟩
def rws_Field (_ : List L5.F) : List RowS := []
theorem rws_Field_eq (xs : List L5.F) : rws_Field xs = xs.flatMap rw_Field := by
 show [] = _
 induction xs with
 | nil => rfl
 | cons x xs ih => rw [List.flatMap_cons, ← ih]; rfl
def rs_Field (a : Option Addr) (c : Nat) (xs : List L5.F) : List RowS := row_Field a c xs :: rws_Field xs
theorem rws_Field_app (xs ys : List L5.F) : rws_Field (xs ++ ys) = rws_Field xs ++ rws_Field ys := by rw [rws_Field_eq, rws_Field_eq, rws_Field_eq, List.flatMap_append]
def Wide_Field (z : L5.F) : Prop := z.name.size ≤ maxLen ∧ (-9223372036854775808 ≤ z.n ∧ z.n ≤ 9223372036854775807)
section
variable {H : Type} {enc : TypeId × Value → H} {W : World} {b : Nat} {sp : Nat → Bool} {hd : Bool}
theorem trod_Field {fuel : Nat} {cs : List Value} {x : DataW H × List MemPlace} (h : DataW.trod enc Tryz.prog W b sp hd fuel 252 cs = some x) (hlt : ∀ p ∈ x.2, p.block < W.heap.size) : ∃ z : L5.F, cs = cl_Field z ∧ RowsRd W W.heap.size (rw_Field z) ∧ Wide_Field z := by
 obtain ⟨xs, n, _, hx, hl, hlen, hf⟩ := DataW.trod_struct Tryz.underlying252 h
 have hlN : cs.length = 2 := hl.trans (by kernel_rfl)
 match cs, hlN with
 | [c0, c1], _ =>
  have h0 : DataW.trod enc Tryz.prog W b sp hd n 9 (List.take (Tryz.prog.cellsOf 9) (List.drop 0 [c0, c1])) = xs[0]? := hf 0 _ rfl
  rw [show Tryz.prog.cellsOf 9 = 1 by kernel_rfl, List.getElem?_eq_getElem (by rw [hlen]; decide)] at h0
  obtain ⟨x0, e0, _, w0⟩ := DataW.trod_string Tryz.underlying9 h0
  have h1 : DataW.trod enc Tryz.prog W b sp hd n 3 (List.take (Tryz.prog.cellsOf 3) (List.drop 1 [c0, c1])) = xs[1]? := hf 1 _ rfl
  rw [show Tryz.prog.cellsOf 3 = 1 by kernel_rfl, List.getElem?_eq_getElem (by rw [hlen]; decide)] at h1
  obtain ⟨x1, e1, _, w1⟩ := DataW.trod_int Tryz.underlying3 h1
  simp only [List.drop_succ_cons, List.drop_zero, List.take_succ_cons, List.take_zero, List.cons.injEq, and_true] at e0
  subst e0
  simp only [List.drop_succ_cons, List.drop_zero, List.take_succ_cons, List.take_zero, List.cons.injEq, and_true] at e1
  subst e1
  exact ⟨⟨x0, x1⟩, rfl, rd_nil _ _, ⟨w0, Law.wf_i64 w1⟩⟩
theorem trods_Field {fuel : Nat} {cs : List Value} {x : DataW H × List MemPlace} (h : DataW.trod enc Tryz.prog W b sp hd fuel 178 cs = some x) (hlt : ∀ p ∈ x.2, p.block < W.heap.size) :
  ∃ (a : Option Addr) (xs : List L5.F) (c : Nat), cs = [.slice a xs.length c] ∧ (Reads W W.heap.size a (xs.flatMap cl_Field) ∧ xs.length ≤ c ∧ (a = none → c = 0)) ∧ RowsRd W W.heap.size (xs.flatMap rw_Field) ∧ xs.length ≤ maxLen ∧ ∀ z ∈ xs, Wide_Field z :=
 trods cl_Field 2 cl_Field_len (by decide) rw_Field Wide_Field 178 252 Tryz.underlying178 (by kernel_rfl) (fun h hl => trod_Field h hl) h hlt
end
set_option maxHeartbeats 4000000 in
theorem to_Field (z : L5.F) (w : World) : Calls Tryz.prog 209 #[vv_Field z] w fun e w' => e = .returned (vv_Field z) ∧ Below w.heap.size w w' := by
 unfold vv_Field
 have S1 := Lib.hid (show Sl.Sep w _ [_, _] from L4.push_box (L4.push_box (Sl.Sep.start w) 252 #[.string z.name, .int .i64 z.n] (w.heap.size) (by simp)) 184 #[.string ⟨#[]⟩, .int .i64 0] (w.heap.size + 1) (by simp))
 obtain ⟨wa, hwa⟩ : ∃ u, u = ((w.alloc (.cells #[.string z.name, .int .i64 z.n] 252)).alloc (.cells #[.string ⟨#[]⟩, .int .i64 0] 184)) := ⟨_, rfl⟩
 rw [← hwa] at S1
 go_enter Tryz.func209, Tryz.ntmps209
 go_upto_region 1 with fail
 rw [← hwa]
 clear hwa
 go_upto_region 2 with fail
 have S2 := Lib.hid (show Sl.Sep w _ [_, _, _] from L4.push_box S1.out 184 #[.string ⟨#[]⟩, .int .i64 0] wa.heap.size rfl)
 clear S1
 obtain ⟨g1, hg⟩ : ∃ g', g' = wa.heap.size := ⟨_, rfl⟩
 rw [← hg] at S2 ⊢
 clear hg
 generalize wa.alloc (.cells #[.string ⟨#[]⟩, .int .i64 0] 184) = w1 at S2 ⊢
 obtain ⟨f0, f1⟩ := Bag.cs2 S2.out 0 rfl
 obtain ⟨f2, f3⟩ := Bag.cs2 S2.out 2 rfl
 have z0 := Bag.free_at S2.out 2 rfl 0
 go_upto_region 3 with fail
 clear f0 f1 f2 f3 z0
 have S3 := Lib.hid (show Sl.Sep w _ [_, _, L4.boxR g1 184 #[.string z.name, .int .i64 0]] from L5.put_box5 (S2.out) 2 rfl 0 (.string z.name))
 clear S2
 obtain ⟨f0, f1⟩ := Bag.cs2 S3.out 0 rfl
 obtain ⟨f2, f3⟩ := Bag.cs2 S3.out 2 rfl
 have z1 := Bag.free_at S3.out 2 rfl 1
 go_upto_region 4 with fail
 clear f0 f1 f2 f3 z1
 have S4 := Lib.hid (show Sl.Sep w _ [_, _, L4.boxR g1 184 #[.string z.name, .int .i64 z.n]] from L5.put_box5 (S3.out) 2 rfl 1 (.int .i64 z.n))
 clear S3
 obtain ⟨f0, f1⟩ := Bag.cs2 S4.out 1 rfl
 obtain ⟨f2, f3⟩ := Bag.cs2 S4.out 2 rfl
 obtain ⟨z0, z1⟩ := Bag.fs2 S4.out 1 rfl
 go_wp2_with fail
 clear f0 f1 f2 f3 z0 z1
 have S5 := Lib.hid (show Sl.Sep w _ [_, L4.boxR (w.heap.size + 1) 184 #[.string z.name, .int .i64 z.n], _] from L5.put_box5 (L5.put_box5 (S4.out) 1 rfl 0 (.string z.name)) 1 rfl 1 (.int .i64 z.n))
 clear S4
 obtain ⟨f0, f1⟩ := Bag.cs2 S5.out 1 rfl
 refine bodyPost_ret (v := .agg #[.string z.name, .int .i64 z.n]) (by simp [results, Tryz.results209, go_sem, *]) rfl ?_
 clear f0 f1
 exact ⟨rfl, S5.out.old⟩
theorem info_Field : ∃ i, Tryz.prog.info? 184 = some i ∧ i.zero = some (.agg #[.string ⟨#[]⟩, .int .i64 0]) ∧ i.size = 2 ∧ i.bytes = 24 := Ex.infoOf _ _ _ _ (by kernel_rfl)
set_option maxHeartbeats 4000000 in
theorem to_FieldS (a : Option Addr) (c : Nat) (xs : List L5.F) (hf : wsum wt_Field (coS_Field xs) ≤ 1048576) (w : World) (hr : Reads w w.heap.size a (xs.flatMap cl_Field)) (hx : RowsRd w w.heap.size (rws_Field xs)) :
  Calls Tryz.prog 190 #[.slice a xs.length c] w fun e w' => ∃ a' c' ys, e = .returned (.slice a' ys.length c') ∧ coS_Field ys = coS_Field xs ∧ BagOwn w' w.heap.size (rs_Field a' c' ys) ∧ Below w.heap.size w w' := by
 obtain ⟨i0, hi1, hi2, hi3, hi4⟩ := info_Field
 have HI := Lib.hid (And.intro hi1 (And.intro hi2 (And.intro hi3 hi4)))
 clear hi1 hi2 hi3 hi4
 rw [coS_Field_eq] at hf
 have HR := Lib.hid (fun w' (h : Below w.heap.size w w') => hr.below h)
 have HX := Lib.hid (fun w' (h : Below w.heap.size w w') => (hx.below h).more h.size)
 have HF := Lib.hid hf
 have hl : xs.length ≤ 1048576 := by have := wsum_len wt_Field (xs.map co_Field); rw [List.length_map] at this; omega
 obtain ⟨N, hN⟩ : ∃ n, n = xs.length := ⟨_, rfl⟩
 rw [← hN] at hl ⊢
 have hl' : (N : Int) ≤ 1048576 := by omega
 have HN := Lib.hid hN
 clear hN hr hx hf
 obtain ⟨Z, hZ⟩ : ∃ Z, Z = (madeCells (Value.agg #[.string ⟨#[]⟩, .int .i64 0]).cells (N * 2)).toList := ⟨_, rfl⟩
 have HZ := Lib.hid (show Z.length = N * 2 by rw [hZ]; simp [madeCells])
 have HZD := Lib.hid hZ
 clear hZ
 have S1 := Lib.hid (show Sl.Sep w w [] from Sl.Sep.start w)
 go_enter Tryz.func190, Tryz.ntmps190
 go_upto_region 2 with (at_make; refine Run.wpList_make_s S1.out rfl _ _ 129 rfl 184 i0 (.agg #[.string ⟨#[]⟩, .int .i64 0]) 2 Tryz.underlying129 HI.out.1 HI.out.2.1 HI.out.2.2.1 _ _ N rfl rfl (by rw [HI.out.2.2.2]; omega) (by unfold maxLen; omega) ?_; intro w1 S')
 obtain ⟨g1, hg⟩ : ∃ g', g' = w.heap.size := ⟨_, rfl⟩
 rw [← hg] at S' ⊢
 clear hg
 have S2 := Lib.hid (show Sl.Sep w _ [Sv.ownV 184 2 (some ⟨g1, 0, none⟩) N N (([] : List L5.F).flatMap cl_Field ++ Z)] from (by have h := S'; rw [← HZD.out] at h; exact h))
 clear S1
 clear S'
 have S3 := Lib.hid (show Sl.Sep w _ [_, Bag.bag (rws_Field [])] from Bag.push_bag S2.out (Below.refl _ _) (by rw [rws_Field_eq]; exact Bag.BagOwn.nil _ _))
 clear S2
 go_wp2_with fail
 go_loopw [4] (fun i wr => ∃ (k : Nat) (ys : List L5.F) (Zs : List Value), k ≤ N ∧ i = .int .i64 k ∧ Hid ((ys.map co_Field = (xs.take k).map co_Field ∧ ys.length = k ∧ Zs.length = (N - k) * 2) ∧ Sl.Sep w wr [Sv.ownV 184 2 (some ⟨g1, 0, none⟩) N N (ys.flatMap cl_Field ++ Zs), Bag.bag (rws_Field ys)])) (fun i _ => N - (intOf i).toNat)
 case atStart => exact ⟨0, [], Z, Nat.zero_le _, rfl, And.intro ⟨rfl, rfl, HZ.out⟩ S3.out⟩
 case round =>
  obtain ⟨k, ys, Zs, hk, rfl, hrel⟩ := hrel
  have HC := Lib.hid hrel.out.1
  have S4 := Lib.hid hrel.out.2
  clear hrel S3
  by_cases hlt : (k : Int) < (N : Int)
  ·
   skip
   have hkl : k < xs.length := by have := HN.out; omega
   obtain ⟨x, hx⟩ : ∃ x, xs[k]? = some x := ⟨_, List.getElem?_eq_getElem hkl⟩
   obtain ⟨ad, e'⟩ := el_some cl_Field_len (by decide) (HR.out _ S4.out.old) hkl
   subst e'
   have HK := Lib.hid (fun w' (h : Below w.heap.size w w') => el2 cl_Field_len (HR.out _ h) hx rfl)
   have HTX := Lib.hid (take_next hx)
   have HL := Lib.hid (show (ys.flatMap cl_Field).length = k * 2 ∧ k * 2 + 2 ≤ (ys.flatMap cl_Field ++ Zs).length ∧ 2 ≤ Zs.length from by have h1 := HC.out.2.1; have h2 := HC.out.2.2; rw [List.length_append, flat_len cl_Field_len, h1, h2]; omega)
   have HCI := Lib.hid (fun w' => to_Field x w')
   dsimp only [vv_Field] at HCI
   clear hx
   obtain ⟨f0, f1⟩ := HK.out _ S4.out.old
   go_wp2_with fail
   go_at_call 209
   refine (HCI.out _).mono ?_
   rintro e w2 ⟨rfl, hb⟩
   clear f0 f1
   have S5 := Lib.hid (S4.out.keep hb)
   clear S4
   clear hb
   have q0 := (Sv.own_at S5.out 0 rfl).cell (k * 2) (by have := HL.out.2.1; omega)
   have z0 := (Sv.own_at S5.out 0 rfl).free (k * 2)
   have q1 := (Sv.own_at S5.out 0 rfl).cell (k * 2 + 1) (by have := HL.out.2.1; omega)
   have z1 := (Sv.own_at S5.out 0 rfl).free (k * 2 + 1)
   go_wp2_with fail
   clear q0 z0 q1 z1
   have S6 := Lib.hid (show Sl.Sep w (World.setCells w2 g1 (k * 2) [.string x.name, .int .i64 x.n]) [Sv.ownV 184 2 (some ⟨g1, 0, none⟩) N N ((ys ++ [x]).flatMap cl_Field ++ Zs.drop 2), Bag.bag (rws_Field ys)] from (by have h := Run.put_run S5.out 0 rfl (k * 2) [.string x.name, .int .i64 x.n] (by have := HL.out.2.1; simpa using this); rw [Run.over_at _ _ _ _ HL.out.1 (by have := HL.out.2.2; simpa using this)] at h; rw [List.flatMap_append, List.append_assoc]; exact h))
   clear S5
   have S7 := Lib.hid (show Sl.Sep w _ [Sv.ownV 184 2 (some ⟨g1, 0, none⟩) N N ((ys ++ [x]).flatMap cl_Field ++ Zs.drop 2), Bag.bag (rws_Field ys)] from Bag.take S6.out [0, 1] (by rfl) (by decide))
   clear S6
   go_roundw
   case rel =>
    refine ⟨k + 1, ys ++ [x], Zs.drop 2, by omega, by go_num, And.intro ⟨?_, ?_, ?_⟩ ?_⟩
    ·
     rw [HTX.out, List.map_append, List.map_append, HC.out.1]
    ·
     rw [List.length_append, HC.out.2.1]; rfl
    ·
     rw [List.length_drop, HC.out.2.2]; omega
    ·
     exact S7.out
   case measure => simp [intOf]; omega
  ·
   skip
   obtain rfl : k = N := by omega
   go_wp2_with fail
   go_ret
   obtain ⟨hc1, hc2, hc3⟩ := HC.out
   have hZs : Zs = [] := List.eq_nil_of_length_eq_zero (by rw [hc3]; omega)
   have hcon : ys.map co_Field = xs.map co_Field := by rw [hc1, List.take_of_length_le (by have := HN.out; omega)]
   have S90 := Lib.hid (Bag.bag_of_one S4.out 0 (r := row_Field (some ⟨g1, 0, none⟩) k ys) (by unfold RowS.res row_Field; dsimp only; rw [hZs, List.append_nil, hc2]; rfl))
   have S91 := Lib.hid (Bag.bag_join S90.out 0 1 (by decide) rfl rfl)
   have hb := Bag.bag_from S91.out 0 rfl
   subst hc2
   exact ⟨_, _, ys, rfl, by rw [coS_Field_eq, coS_Field_eq]; exact hcon, hb, S91.out.old⟩
set_option maxHeartbeats 4000000 in
theorem sz_Field (z : L5.F) (q : Int) (hw : Wide_Field z) (hq0 : -1 ≤ q) (hq1 : q ≤ 1048576) (w : World) : Calls Tryz.prog 208 #[vv_Field z, .int .i64 q] w fun e w' => e = .returned (.int .i64 (lft q (wt_Field (co_Field z)))) ∧ Below w.heap.size w w' := by
 have hs0 : (z.name.size : Int) ≤ 9223372036854775807 := by have h : z.name.size ≤ maxLen := hw.1; unfold maxLen at h; omega
 have HW := Lib.hid (wt_Field_parts z)
 clear hw
 unfold vv_Field
 have S1 := Lib.hid (show Sl.Sep w _ [_] from L4.push_box (Sl.Sep.start w) 252 #[.string z.name, .int .i64 z.n] (w.heap.size) (by simp))
 obtain ⟨wa, hwa⟩ : ∃ u, u = (w.alloc (.cells #[.string z.name, .int .i64 z.n] 252)) := ⟨_, rfl⟩
 rw [← hwa] at S1
 go_enter Tryz.func208, Tryz.ntmps208
 go_upto_region 1 with fail
 rw [← hwa]
 clear hwa
 obtain ⟨f0, f1⟩ := Bag.cs2 S1.out 0 rfl
 by_cases hn0 : q - (z.name.size : Int) < 0
 ·
  skip
  go_wp2_with fail
  go_ret
  exact ⟨by rw [HW.out, lft_neg (by omega)] <;> rfl, S1.out.old⟩
 ·
  skip
  go_wp2_with fail
  go_ret
  exact ⟨by rw [HW.out, lft_pos (by omega)] <;> first | rfl | (refine congrArg (fun i => Ending.returned (.int .i64 i)) ?_; omega), S1.out.old⟩
set_option maxHeartbeats 4000000 in
theorem sz_FieldS (a : Option Addr) (c : Nat) (xs : List L5.F) (q : Int) (hw : ∀ x ∈ xs, Wide_Field x) (hm : xs.length ≤ maxLen) (hq0 : -1 ≤ q) (hq1 : q ≤ 1048576) (w : World) (hr : Reads w w.heap.size a (xs.flatMap cl_Field)) (hx : RowsRd w w.heap.size (rws_Field xs)) :
  Calls Tryz.prog 189 #[.slice a xs.length c, .int .i64 q] w fun e w' => e = .returned (.int .i64 (lft q (wsum wt_Field (coS_Field xs)))) ∧ Below w.heap.size w w' := by
 have HR := Lib.hid (fun w' (h : Below w.heap.size w w') => hr.below h)
 have HX := Lib.hid (fun w' (h : Below w.heap.size w w') => (hx.below h).more h.size)
 have HWD := Lib.hid hw
 have HW := Lib.hid (show wsum wt_Field (coS_Field xs) = xs.length + fsum (fun x => wt_Field (co_Field x)) xs from by rw [coS_Field_eq, wsum_map])
 obtain ⟨N, hN⟩ : ∃ n, n = xs.length := ⟨_, rfl⟩
 rw [← hN] at hm HW ⊢
 have HN := Lib.hid hN
 have hm' : (N : Int) ≤ 9223372036854775807 := by unfold maxLen at hm; omega
 clear hN hr hx hw hm
 have S1 := Lib.hid (show Sl.Sep w w [] from Sl.Sep.start w)
 by_cases hneg : q - (N : Int) < 0
 ·
  skip
  go_enter Tryz.func189, Tryz.ntmps189
  go_wp2_with fail
  go_ret
  exact ⟨by rw [HW.out, lft_neg (by omega)] <;> rfl, Below.refl _ _⟩
 ·
  skip
  go_enter Tryz.func189, Tryz.ntmps189
  go_wp2_with fail
  go_loopw [1, 5] (fun lv i wr => ∃ (k : Nat) (m : Int), k ≤ N ∧ i = .int .i64 k ∧ lv = .int .i64 m ∧ 0 ≤ m ∧ m ≤ 1048576 ∧ Hid (m = q - N - (fsum (fun x => wt_Field (co_Field x)) (xs.take k) : Int) ∧ Sl.Sep w wr [])) (fun _ i _ => N - (intOf i).toNat)
  case atStart => exact ⟨0, q - N, Nat.zero_le _, rfl, rfl, by omega, by omega, And.intro (by rw [List.take_zero, fsum_nil]; omega) S1.out⟩
  case round =>
   obtain ⟨k, m, hk, rfl, rfl, hm0, hm1, hrel⟩ := hrel
   have HA := Lib.hid hrel.out.1
   have S2 := Lib.hid hrel.out.2
   clear hrel S1
   by_cases hlt : (k : Int) < (N : Int)
   ·
    skip
    have hkl : k < xs.length := by have := HN.out; omega
    obtain ⟨x, hx⟩ : ∃ x, xs[k]? = some x := ⟨_, List.getElem?_eq_getElem hkl⟩
    obtain ⟨ad, e'⟩ := el_some cl_Field_len (by decide) (HR.out _ S2.out.old) (List.getElem?_eq_some_iff.1 hx).1
    subst e'
    have HK := Lib.hid (fun w' (h : Below w.heap.size w w') => el2 cl_Field_len (HR.out _ h) hx rfl)
    have HAT := Lib.hid (fsum_at (f := (fun x => wt_Field (co_Field x))) hx)
    have HTK := Lib.hid (fsum_take (f := (fun x => wt_Field (co_Field x))) hx)
    try dsimp only at HAT HTK
    obtain ⟨fx, hfx⟩ : ∃ u, wt_Field (co_Field x) = u := ⟨_, rfl⟩
    rw [hfx] at HAT HTK
    obtain ⟨u, hu⟩ : ∃ u, lft m fx = u := ⟨_, rfl⟩
    have hcu := lft_cases hu
    have hru := lft_range (q := m) fx (by omega)
    rw [hu] at hru
    have HSI := fun w' => sz_Field x m (HWD.out x (List.mem_of_getElem? hx)) (by omega) hm1 w'
    rw [hfx, hu] at HSI
    dsimp only [vv_Field] at HSI
    replace HSI := Lib.hid HSI
    clear hfx hu hx
    obtain ⟨f0, f1⟩ := HK.out _ S2.out.old
    go_wp2_with fail
    go_at_call 208
    refine (HSI.out _).mono ?_
    rintro e w1 ⟨rfl, hb⟩
    clear f0 f1
    have S3 := Lib.hid (S2.out.keep hb)
    clear S2
    clear hb
    by_cases h0 : u < 0
    ·
     have hm1' : u = -1 := by omega
     subst hm1'
     go_wp2_with fail
     go_ret
     exact ⟨by rw [HW.out, lft_neg (by have := HA.out; have := HAT.out; omega)] <;> rfl, S3.out.old⟩
    ·
     skip
     go_wp2_with fail
     go_roundw
     case rel => exact ⟨k + 1, u, by omega, by go_num, rfl, by omega, by omega, And.intro (by rw [HTK.out]; have := HA.out; omega) S3.out⟩
     case measure => simp [intOf]; omega
   ·
    skip
    obtain rfl : k = N := by omega
    have HT := HA.out
    rw [List.take_of_length_le (Nat.le_of_eq HN.out.symm)] at HT
    go_wp2_with fail
    go_ret
    exact ⟨by rw [HW.out, lft_pos (by omega)] <;> first | rfl | (refine congrArg (fun i => Ending.returned (.int .i64 i)) ?_; omega), S2.out.old⟩
set_option maxHeartbeats 4000000 in
theorem eq_Field (z : L5.F) (w : World) : Calls Tryz.prog 211 #[vv_Field z, vv_Field z] w fun e w' => e = .returned (.bool true) ∧ Below w.heap.size w w' := by
 unfold vv_Field
 have S1 := Lib.hid (show Sl.Sep w _ [_, _] from L4.push_box (L4.push_box (Sl.Sep.start w) 184 #[.string z.name, .int .i64 z.n] (w.heap.size) (by simp)) 184 #[.string z.name, .int .i64 z.n] (w.heap.size + 1) (by simp))
 obtain ⟨wa, hwa⟩ : ∃ u, u = ((w.alloc (.cells #[.string z.name, .int .i64 z.n] 184)).alloc (.cells #[.string z.name, .int .i64 z.n] 184)) := ⟨_, rfl⟩
 rw [← hwa] at S1
 go_enter Tryz.func211, Tryz.ntmps211
 go_upto_region 1 with fail
 rw [← hwa]
 clear hwa
 obtain ⟨f0, f1⟩ := Bag.cs2 S1.out 0 rfl
 obtain ⟨f2, f3⟩ := Bag.cs2 S1.out 1 rfl
 go_wp2_with fail
 go_ret
 exact ⟨rfl, S1.out.old⟩
set_option maxHeartbeats 4000000 in
theorem eq_FieldS (a a2 : Option Addr) (c c2 : Nat) (xs xs2 : List L5.F) (hc : coS_Field xs = coS_Field xs2) (hf : wsum wt_Field (coS_Field xs) ≤ 1125899906842624) (w : World) (hr : Reads w w.heap.size a (xs.flatMap cl_Field)) (hx : RowsRd w w.heap.size (rws_Field xs)) (hr2 : Reads w w.heap.size a2 (xs2.flatMap cl_Field)) (hx2 : RowsRd w w.heap.size (rws_Field xs2)) :
  Calls Tryz.prog 201 #[.slice a xs.length c, .slice a2 xs2.length c2] w fun e w' => e = .returned (.bool true) ∧ Below w.heap.size w w' := by
 have hlen : xs2.length = xs.length := by have h := congrArg List.length hc; rw [coS_Field_eq, coS_Field_eq, List.length_map, List.length_map] at h; exact h.symm
 have hl : xs.length ≤ 1125899906842624 := by have := wsum_len wt_Field (coS_Field xs); rw [coS_Field_eq, List.length_map] at this; rw [coS_Field_eq] at hf; omega
 have HR := Lib.hid (fun w' (h : Below w.heap.size w w') => hr.below h)
 have HR2 := Lib.hid (fun w' (h : Below w.heap.size w w') => hr2.below h)
 have HX := Lib.hid (fun w' (h : Below w.heap.size w w') => (hx.below h).more h.size)
 have HX2 := Lib.hid (fun w' (h : Below w.heap.size w w') => (hx2.below h).more h.size)
 rw [coS_Field_eq] at hf
 have HF := Lib.hid hf
 have HS := Lib.hid (show xs.map co_Field = xs2.map co_Field from by rw [← coS_Field_eq, ← coS_Field_eq]; exact hc)
 obtain ⟨N, hN⟩ : ∃ n, n = xs.length := ⟨_, rfl⟩
 rw [hlen, ← hN]
 rw [← hN] at hl
 have hl' : (N : Int) ≤ 1125899906842624 := by omega
 have HN := Lib.hid hN
 clear hN hr hr2 hx hx2 hf hc hlen
 have S1 := Lib.hid (show Sl.Sep w w [] from Sl.Sep.start w)
 go_enter Tryz.func201, Tryz.ntmps201
 go_wp2_with fail
 go_loopw [5] (fun i wr => ∃ k : Nat, k ≤ N ∧ i = .int .i64 k ∧ Hid (Sl.Sep w wr [])) (fun i _ => N - (intOf i).toNat)
 case atStart => exact ⟨0, Nat.zero_le _, rfl, S1.out⟩
 case round =>
  obtain ⟨k, hk, rfl, hrel⟩ := hrel
  have S2 := Lib.hid hrel.out
  clear hrel S1
  by_cases hlt : (k : Int) < (N : Int)
  ·
   skip
   have hkl : k < xs.length := by have := HN.out; omega
   obtain ⟨x, hx⟩ : ∃ x, xs[k]? = some x := ⟨_, List.getElem?_eq_getElem hkl⟩
   obtain ⟨ad, e'⟩ := el_some cl_Field_len (by decide) (HR.out _ S2.out.old) (List.getElem?_eq_some_iff.1 hx).1
   subst e'
   have HK := Lib.hid (fun w' (h : Below w.heap.size w w') => el2 cl_Field_len (HR.out _ h) hx rfl)
   obtain ⟨x2, hx2, hcx⟩ := map_same HS.out hx
   obtain ⟨ad2, e'⟩ := el_some cl_Field_len (by decide) (HR2.out _ S2.out.old) (List.getElem?_eq_some_iff.1 hx2).1
   subst e'
   have HK2 := Lib.hid (fun w' (h : Below w.heap.size w w') => el2 cl_Field_len (HR2.out _ h) hx2 rfl)
   have hxx : x2 = x := hcx
   rw [hxx] at HK2
   have HEQ := Lib.hid (fun w' => eq_Field x w')
   clear hcx hxx
   try dsimp only [vv_Field] at HEQ
   clear hx hx2
   go_upto_region 6 with fail
   refine wp_region_held_drew (S := (fun w' => (w'.cell? (ad.add (k * 2)) = some (.string x.name) ∧ w'.cell? (⟨(ad.add (k * 2)).block, (ad.add (k * 2)).off + 1, none⟩) = some (.int .i64 x.n)) ∧ (w'.cell? (ad2.add (k * 2)) = some (.string x.name) ∧ w'.cell? (⟨(ad2.add (k * 2)).block, (ad2.add (k * 2)).off + 1, none⟩) = some (.int .i64 x.n)))) (by kernel_rfl) ⟨HK.out _ (Bag.drew1 S2.out).old, HK2.out _ (Bag.drew1 S2.out).old⟩ (fun hS => ?_)
   have S3 := Lib.hid (Bag.drew1 S2.out)
   clear S2
   generalize World.drew _ = w1 at hS S3 ⊢
   refine tk 0 rfl ?_
   try simp only [zp0, zp1, zp2, zp3, zp4]
   refine tk 1 rfl ?_
   try simp only [zp0, zp1, zp2, zp3, zp4]
   refine tk 2 rfl ?_
   try simp only [zp0, zp1, zp2, zp3, zp4]
   refine tk 3 rfl ?_
   try simp only [zp0, zp1, zp2, zp3, zp4]
   refine tk 4 rfl ?_
   try simp only [zp0, zp1, zp2, zp3, zp4]
   refine tk 5 rfl ?_
   try simp only [zp0, zp1, zp2, zp3, zp4]
   refine tk 6 rfl ?_
   try simp only [zp0, zp1, zp2, zp3, zp4]
   refine tk 7 rfl ?_
   try simp only [zp0, zp1, zp2, zp3, zp4]
   refine Reg.one_op (i := 8) rfl (by kernel_rfl) (fun K hK => ?_)
   go_simp
   go_at_call 211
   refine (HEQ.out _).mono ?_
   rintro e w2 ⟨rfl, hb⟩
   have S4 := Lib.hid (S3.out.keep hb)
   clear S3
   clear hb
   go_wp2_with fail
   refine hK.out _ _ ⟨HK.out _ S4.out.old, HK2.out _ S4.out.old⟩ (fun hS => ?_)
   clear hK K
   try simp only [zp0, zp1, zp2, zp3, zp4]
   refine tk 9 rfl ?_
   try simp only [zp0, zp1, zp2, zp3, zp4]
   refine wpAnyH_done (by kernel_rfl) ?_ _
   obtain ⟨f0, f1⟩ := HK.out _ S4.out.old
   obtain ⟨f2, f3⟩ := HK2.out _ S4.out.old
   go_wp2_with fail
   go_roundw
   case rel => exact ⟨k + 1, by omega, by go_num, S4.out⟩
   case measure => simp [intOf]; omega
  ·
   skip
   go_wp2_with fail
   go_ret
   exact ⟨rfl, S2.out.old⟩
def em_Field (k : Int) (z : L5.F) : L5.F := ⟨markT k, (k + 1)⟩
def cnt_Field (z : L5.F) : Nat := 1 + (1)
theorem cntS_Field (z : L5.F) : cnt_Field z ≤ 64 * (wt_Field (co_Field z) + 1) := by
 have hw : wt_Field (co_Field z) = z.name.size := by rfl
 unfold cnt_Field
 omega
theorem em_Field_fp (k : Int) (z : L5.F) : (rw_Field (em_Field k z)).flatMap RowS.fp = (rw_Field z).flatMap RowS.fp := rfl
theorem rs_Field_fp (a : Option Addr) (c : Nat) (xs : List L5.F) (k : Int) : (rs_Field a c (mks em_Field cnt_Field k xs)).flatMap RowS.fp = (rs_Field a c xs).flatMap RowS.fp := by
 unfold rs_Field
 rw [List.flatMap_cons, List.flatMap_cons, rws_Field_eq, rws_Field_eq, mks_fp em_Field_fp]
 congr 1
 unfold row_Field RowS.fp
 cases a <;> rfl
set_option maxHeartbeats 8000000 in
theorem mark_FieldS_sep (a : Option Addr) (c : Nat) (xs : List L5.F) (k : Int) (W w : World) (S : Sl.Sep W w [bag (rs_Field a c xs), Run.restL W w (bag (rs_Field a c xs)).fp]) (hf : wsum wt_Field (coS_Field xs) ≤ 1125899906842624) (hk0 : 0 < k) (hk1 : k + (fsum cnt_Field xs : Int) ≤ 2305843009213693952) :
  Calls Tryz.prog 117 #[.slice a xs.length c, .int .i64 k] w fun e w' => e = .returned (.int .i64 (k + (fsum cnt_Field xs : Int))) ∧ Sl.Sep W w' [bag (rs_Field a c (mks em_Field cnt_Field k xs)), Run.restL W w (bag (rs_Field a c xs)).fp] := by
 have HF := Lib.hid hf
 have hl : xs.length ≤ 1125899906842624 := by have := wsum_len wt_Field (coS_Field xs); rw [coS_Field_eq, List.length_map] at this; rw [coS_Field_eq] at hf; omega
 clear hf
 obtain ⟨fps, hfps⟩ : ∃ f, f = (bag (rs_Field a c xs)).fp := ⟨_, rfl⟩
 rw [← hfps] at S ⊢
 clear hfps
 rcases (S.is 0 _ rfl).own (row_Field a c xs) (List.mem_cons_self ..) |>.form with ⟨ha, hn0, -, hc0⟩ | ⟨g, hg, -, -, hnc, -⟩
 ·
  have ha' : a = none := ha
  have hc' : c = 0 := hc0
  have hx : xs = [] := List.eq_nil_of_length_eq_zero hn0
  subst hx
  have H := Lib.hid S
  clear S HF hk1
  go_enter Tryz.func117, Tryz.ntmps117
  go_wp2_with fail
  refine wp_loop_rounds 1 ?_
  rw [rounds_succ]
  go_wp2_with fail
  go_ret
  exact ⟨by rw [fsum_nil]; first | rfl | (refine congrArg (fun i => Ending.returned (.int .i64 i)) ?_; omega), H.out⟩
 have hg' : a = some ⟨g, 0, none⟩ := hg
 subst hg'
 obtain ⟨N, hN⟩ : ∃ n, n = xs.length := ⟨_, rfl⟩
 rw [← hN] at hl ⊢
 have hl' : (N : Int) ≤ 1125899906842624 := by omega
 have HN := Lib.hid hN
 have HK1 := Lib.hid hk1
 have hk2 : k ≤ 2305843009213693952 := by omega
 have S1 := Lib.hid S
 clear hg hN S hnc hk1
 have S2 := Lib.hid (show Sl.Sep W _ [Bag.bag ([row_Field (some ⟨g, 0, none⟩) c xs] ++ rws_Field xs), Run.restL W w fps] from S1.out)
 clear S1
 have S3 := Lib.hid (show Sl.Sep W _ [Bag.bag ([row_Field (some ⟨g, 0, none⟩) c xs]), _, Bag.bag (rws_Field xs)] from Bag.bag_split S2.out 0 rfl)
 clear S2
 have S4 := Lib.hid (show Sl.Sep W _ [Sv.ownV 184 2 (some ⟨g, 0, none⟩) c N ((mks em_Field cnt_Field k [] ++ xs.drop 0).flatMap cl_Field), _, _] from (by have h := Bag.one_of_bag S3.out 0 (r := row_Field (some ⟨g, 0, none⟩) c xs) rfl; unfold RowS.res row_Field at h; dsimp only at h; rw [← HN.out] at h; exact h))
 clear S3
 have S5 := Lib.hid (show Sl.Sep W _ [Sv.ownV 184 2 (some ⟨g, 0, none⟩) c N ((mks em_Field cnt_Field k [] ++ xs.drop 0).flatMap cl_Field), Bag.bag (rws_Field (mks em_Field cnt_Field k []) ++ rws_Field (xs.drop 0)), Run.restL W w fps] from Bag.take (by have h := S4.out; rw [show rws_Field xs = rws_Field (mks em_Field cnt_Field k []) ++ rws_Field (xs.drop 0) from by rw [← rws_Field_app]; rfl] at h; exact h) [0, 2, 1] (by rfl) (by decide))
 clear S4
 go_enter Tryz.func117, Tryz.ntmps117
 go_wp2_with fail
 go_loopw [1, 5] (fun v i wr => ∃ (j : Nat) (m : Int), j ≤ N ∧ i = .int .i64 j ∧ v = .int .i64 m ∧ k ≤ m ∧ m ≤ 2305843009213693952 ∧ Hid (m = k + (fsum cnt_Field (xs.take j) : Int) ∧ Sl.Sep W wr [Sv.ownV 184 2 (some ⟨g, 0, none⟩) c N (((mks em_Field cnt_Field k (xs.take j)) ++ xs.drop j).flatMap cl_Field), Bag.bag (rws_Field (mks em_Field cnt_Field k (xs.take j)) ++ rws_Field (xs.drop j)), Run.restL W w fps])) (fun _ i _ => N - (intOf i).toNat)
 case atStart => exact ⟨0, k, Nat.zero_le _, rfl, rfl, by omega, by omega, And.intro (by rw [List.take_zero, fsum_nil]; omega) S5.out⟩
 case round =>
  obtain ⟨j, m, hj, rfl, rfl, hm0, hm1, hrel⟩ := hrel
  have HM := Lib.hid hrel.out.1
  have S6 := Lib.hid hrel.out.2
  clear hrel S5
  by_cases hlt : (j : Int) < (N : Int)
  ·
   skip
   have hjl : j < xs.length := by have := HN.out; omega
   obtain ⟨x, hx⟩ : ∃ x, xs[j]? = some x := ⟨_, List.getElem?_eq_getElem hjl⟩
   have HFT := Lib.hid (fsum_take (f := cnt_Field) hx)
   have hfa := fsum_at (f := cnt_Field) hx
   have hcx : cnt_Field x = 1 + (1) := rfl
   have HMN := Lib.hid (show (mks em_Field cnt_Field k (xs.take (j + 1))) = (mks em_Field cnt_Field k (xs.take j)) ++ [em_Field m x] from by rw [mks_next em_Field cnt_Field k hx, ← HM.out])
   have HDR := Lib.hid (drop_next hx)
   have hwm : wt_Field (co_Field x) + 1 ≤ 1125899906842624 := by have h1 := wsum_mem (f := wt_Field) (List.mem_map.2 ⟨x, List.mem_of_getElem? hx, rfl⟩ : co_Field x ∈ xs.map co_Field); have h2 := HF.out; rw [coS_Field_eq] at h2; omega
   clear hwm hx
   have hmc : m + (cnt_Field x : Int) ≤ 2305843009213693952 := by have := HM.out; have := HK1.out; omega
   have HCX := Lib.hid hcx
   have hcx' : (cnt_Field x : Int) = 1 + 1 := by omega
   rw [hcx'] at hmc
   clear hcx' hcx hfa
   obtain ⟨m1', hm⟩ : ∃ u : Int, u = m + 1 := ⟨_, rfl⟩
   have bd0 : 0 < m1' ∧ m1' ≤ 2305843009213693952 := by omega
   have bl0 : m ≤ m1' := by omega
   have HM1 := Lib.hid hm
   have hme1 := hm
   clear hm
   obtain ⟨m2', hm⟩ : ∃ u : Int, u = m1' + 1 := ⟨_, rfl⟩
   have bd1 : 0 < m2' ∧ m2' ≤ 2305843009213693952 := by omega
   have bl1 : m1' ≤ m2' := by omega
   have HM2 := Lib.hid hm
   have hme2 := hm
   clear hm
   clear hmc hme1 hme2
   have HDL := Lib.hid (show ((mks em_Field cnt_Field k (xs.take j)).flatMap cl_Field).length = j * 2 by rw [flat_len cl_Field_len, mks_len, List.length_take, Nat.min_eq_left (by omega)])
   obtain ⟨R0, hR0⟩ : ∃ R0, R0 = (xs.drop (j + 1)).flatMap cl_Field := ⟨_, rfl⟩
   obtain ⟨D0, hD0⟩ : ∃ D0, D0 = (mks em_Field cnt_Field k (xs.take j)).flatMap cl_Field := ⟨_, rfl⟩
   have HR0 := Lib.hid hR0
   have HD0 := Lib.hid hD0
   rw [← hD0] at HDL
   clear hR0 hD0
   have S7 := Lib.hid (show Sl.Sep W _ [Sv.ownV 184 2 (some ⟨g, 0, none⟩) c N (D0 ++ (.string x.name :: .int .i64 x.n :: R0)), Bag.bag (rws_Field (mks em_Field cnt_Field k (xs.take j)) ++ rws_Field (xs.drop j)), Run.restL W w fps] from (by have h := S6.out; rw [show ((mks em_Field cnt_Field k (xs.take j)) ++ xs.drop j).flatMap cl_Field = D0 ++ (.string x.name :: .int .i64 x.n :: R0) from by rw [List.flatMap_append, HDR.out, List.flatMap_cons, ← HR0.out, ← HD0.out]; rfl] at h; exact h))
   clear S6
   have HMT := Lib.hid (fun w' => L5.markText_any m (by omega) (by omega) w')
   have q0 : World.cell? wr ⟨g, j * 2, none⟩ = some (.string x.name) := by rw [(Sv.own_at S7.out 0 rfl).cell (j * 2) (by rw [List.length_append, HDL.out]; simp <;> omega)]; simp [List.getElem_append, HDL.out]
   have z0 := (Sv.own_at S7.out 0 rfl).free (j * 2)
   go_wp2_with fail
   go_at_call 48
   refine (HMT.out _).mono ?_
   rintro e w1 ⟨rfl, hb⟩
   clear q0 z0
   have S8 := Lib.hid (S7.out.keep hb)
   clear S7
   clear hb
   clear HMT
   have q0 : World.cell? w1 ⟨g, j * 2, none⟩ = some (.string x.name) := by rw [(Sv.own_at S8.out 0 rfl).cell (j * 2) (by rw [List.length_append, HDL.out]; simp <;> omega)]; simp [List.getElem_append, HDL.out]
   have z0 := (Sv.own_at S8.out 0 rfl).free (j * 2)
   go_upto_region 6 with fail
   try simp only [← HM1.out]
   clear q0 z0
   have HOV := Lib.hid (show Run.over (D0 ++ (.string x.name :: .int .i64 x.n :: R0)) (j * 2) [.string (markT m)] = D0 ++ (.string (markT m) :: .int .i64 x.n :: R0) from by rw [show D0 ++ (.string x.name :: .int .i64 x.n :: R0) = D0 ++ ([.string x.name] ++ (.int .i64 x.n :: R0)) from by simp, Run.over_mid D0 (.int .i64 x.n :: R0) [.string (markT m)] [.string x.name] (j * 2) (by simp [HDL.out]) rfl]; simp)
   have S9 := Lib.hid (show Sl.Sep W (w1.setCell ⟨g, j * 2, none⟩ (.string (markT m))) [Sv.ownV 184 2 (some ⟨g, 0, none⟩) c N (D0 ++ (.string (markT m) :: .int .i64 x.n :: R0)), Bag.bag (rws_Field (mks em_Field cnt_Field k (xs.take j)) ++ rws_Field (xs.drop j)), Run.restL W w fps] from (by have h := Run.put_run S8.out 0 rfl (j * 2) [.string (markT m)] (by rw [List.length_append, HDL.out]; simp <;> omega); rw [HOV.out] at h; exact h))
   clear S8
   clear HOV
   generalize (w1.setCell ⟨g, j * 2, none⟩ (.string (markT m))) = w2 at S9 ⊢
   have q1 : World.cell? w2 ⟨g, j * 2 + 1, none⟩ = some (.int .i64 x.n) := by rw [(Sv.own_at S9.out 0 rfl).cell (j * 2 + 1) (by rw [List.length_append, HDL.out]; simp <;> omega)]; simp [List.getElem_append, HDL.out]
   have z1 := (Sv.own_at S9.out 0 rfl).free (j * 2 + 1)
   go_wp2_with fail
   try simp only [← HM2.out]
   clear q1 z1
   have HOV := Lib.hid (show Run.over (D0 ++ (.string (markT m) :: .int .i64 x.n :: R0)) (j * 2 + 1) [.int .i64 m1'] = D0 ++ (.string (markT m) :: .int .i64 m1' :: R0) from by rw [show D0 ++ (.string (markT m) :: .int .i64 x.n :: R0) = (D0 ++ ([.string (markT m)] : List Value)) ++ ([.int .i64 x.n] ++ (R0)) from by simp, Run.over_mid (D0 ++ ([.string (markT m)] : List Value)) (R0) [.int .i64 m1'] [.int .i64 x.n] (j * 2 + 1) (by simp [HDL.out]) rfl]; simp)
   have S10 := Lib.hid (show Sl.Sep W (w2.setCell ⟨g, j * 2 + 1, none⟩ (.int .i64 m1')) [Sv.ownV 184 2 (some ⟨g, 0, none⟩) c N (D0 ++ (.string (markT m) :: .int .i64 m1' :: R0)), _, _] from (by have h := Run.put_run S9.out 0 rfl (j * 2 + 1) [.int .i64 m1'] (by rw [List.length_append, HDL.out]; simp <;> omega); rw [HOV.out] at h; exact h))
   clear S9
   clear HOV
   generalize (w2.setCell ⟨g, j * 2 + 1, none⟩ (.int .i64 m1')) = w3 at S10 ⊢
   have S11 := Lib.hid (show Sl.Sep W _ [_, Bag.bag (rws_Field (mks em_Field cnt_Field k (xs.take (j + 1))) ++ rws_Field (xs.drop (j + 1))), _] from S10.out)
   clear S10
   have HROW := Lib.hid (show ((mks em_Field cnt_Field k (xs.take (j + 1))) ++ xs.drop (j + 1)).flatMap cl_Field = D0 ++ (.string (markT m) :: .int .i64 m1' :: R0) from by rw [HMN.out, List.flatMap_append, List.flatMap_append, ← HR0.out, ← HD0.out, List.append_assoc, List.flatMap_cons, List.flatMap_nil, List.append_nil]; simp only [HM2.out, HM1.out]; unfold cl_Field em_Field; rfl)
   have S12 := Lib.hid (show Sl.Sep W _ [Sv.ownV 184 2 (some ⟨g, 0, none⟩) c N (((mks em_Field cnt_Field k (xs.take (j + 1))) ++ xs.drop (j + 1)).flatMap cl_Field), _, _] from (by rw [HROW.out]; exact S11.out))
   clear S11
   go_roundw
   case rel => exact ⟨j + 1, m2', by omega, by go_num, by first | rfl | go_num, by omega, by omega, And.intro (by have h1 := HFT.out; have h2 := HCX.out; have h3 := HM.out; have := HM1.out; have := HM2.out; omega) S12.out⟩
   case measure => simp [intOf]; omega
  ·
   skip
   obtain rfl : j = N := by omega
   have hT : xs.take j = xs := List.take_of_length_le (by have := HN.out; omega)
   have hD : xs.drop j = [] := List.drop_of_length_le (by have := HN.out; omega)
   have HT := Lib.hid hT
   have HD := Lib.hid hD
   clear hT hD
   have S7 := Lib.hid (show Sl.Sep W _ [Sv.ownV 184 2 (some ⟨g, 0, none⟩) c j ((mks em_Field cnt_Field k xs).flatMap cl_Field), Bag.bag (rws_Field (mks em_Field cnt_Field k xs)), Run.restL W w fps] from (by have h := S6.out; rw [HT.out, HD.out, List.append_nil, ← rws_Field_app, List.append_nil] at h; exact h))
   clear S6
   have S8 := Lib.hid (show Sl.Sep W _ [Bag.bag ([row_Field (some ⟨g, 0, none⟩) c (mks em_Field cnt_Field k xs)]), _, _] from Bag.bag_of_one S7.out 0 (r := row_Field (some ⟨g, 0, none⟩) c (mks em_Field cnt_Field k xs)) (by unfold RowS.res row_Field; dsimp only; rw [mks_len, ← HN.out]; rfl))
   clear S7
   have S9 := Lib.hid (show Sl.Sep W _ [Bag.bag ([row_Field (some ⟨g, 0, none⟩) c (mks em_Field cnt_Field k xs)] ++ (rws_Field (mks em_Field cnt_Field k xs))), Bag.bag ([]), _] from Bag.bag_join S8.out 0 1 (by decide) rfl rfl)
   clear S8
   have S10 := Lib.hid (show Sl.Sep W _ [_, _] from Bag.take S9.out [0, 2] (by rfl) (by decide))
   clear S9
   go_wp2_with fail
   go_ret
   exact ⟨by have h := HM.out; rw [HT.out] at h; rw [← h] <;> rfl, S10.out⟩
theorem mark_FieldS {W w : World} {rs : List Res} (h : Sl.Sep W w rs) (i : Nat) {a : Option Addr} {c : Nat} {xs : List L5.F} (hi : rs[i]? = some (bag (rs_Field a c xs))) (k : Int) (hf : wsum wt_Field (coS_Field xs) ≤ 1125899906842624) (hk0 : 0 < k) (hk1 : k + (fsum cnt_Field xs : Int) ≤ 2305843009213693952) :
  Calls Tryz.prog 117 #[.slice a xs.length c, .int .i64 k] w fun e w' => e = .returned (.int .i64 (k + (fsum cnt_Field xs : Int))) ∧ Sl.Sep W w' (rs.set i (bag (rs_Field a c (mks em_Field cnt_Field k xs)))) :=
 (mark_FieldS_sep a c xs k W w (Run.restL_start h i hi) hf hk0 hk1).mono fun _ _ ⟨he, hs⟩ => ⟨he, Run.restL_back h i hi hs (rs_Field_fp a c xs k)⟩
set_option maxHeartbeats 8000000 in
theorem held_FieldS (a : Option Addr) (c : Nat) (xs : List L5.F) (k : Int) (hf : wsum wt_Field (coS_Field xs) ≤ 1125899906842624) (hk0 : 0 < k) (hk1 : k + (fsum cnt_Field xs : Int) ≤ 2305843009213693952) (w : World) (hr : Reads w w.heap.size a ((mks em_Field cnt_Field k xs).flatMap cl_Field)) (hx : RowsRd w w.heap.size (rws_Field (mks em_Field cnt_Field k xs))) :
  Calls Tryz.prog 118 #[.slice a xs.length c, .int .i64 k] w fun e w' => e = .returned (.int .i64 (k + (fsum cnt_Field xs : Int))) ∧ Below w.heap.size w w' := by
 have HF := Lib.hid hf
 have hl : xs.length ≤ 1125899906842624 := by have := wsum_len wt_Field (coS_Field xs); rw [coS_Field_eq, List.length_map] at this; rw [coS_Field_eq] at hf; omega
 clear hf
 have HR := Lib.hid (fun w' (h : Below w.heap.size w w') => hr.below h)
 have HX := Lib.hid (fun w' (h : Below w.heap.size w w') => (hx.below h).more h.size)
 obtain ⟨N, hN⟩ : ∃ n, n = xs.length := ⟨_, rfl⟩
 rw [← hN] at hl ⊢
 have hl' : (N : Int) ≤ 1125899906842624 := by omega
 have HN := Lib.hid hN
 have HK1 := Lib.hid hk1
 have hk2 : k ≤ 2305843009213693952 := by omega
 clear hN hr hx hk1
 have S1 := Lib.hid (show Sl.Sep w w [] from Sl.Sep.start w)
 go_enter Tryz.func118, Tryz.ntmps118
 go_wp2_with fail
 go_loopw [1, 5] (fun v i wr => ∃ (j : Nat) (m : Int), j ≤ N ∧ i = .int .i64 j ∧ v = .int .i64 m ∧ k ≤ m ∧ m ≤ 2305843009213693952 ∧ Hid (m = k + (fsum cnt_Field (xs.take j) : Int) ∧ Sl.Sep w wr [])) (fun _ i _ => N - (intOf i).toNat)
 case atStart => exact ⟨0, k, Nat.zero_le _, rfl, rfl, by omega, by omega, And.intro (by rw [List.take_zero, fsum_nil]; omega) S1.out⟩
 case round =>
  obtain ⟨j, m, hj, rfl, rfl, hm0, hm1, hrel⟩ := hrel
  have HM := Lib.hid hrel.out.1
  have S2 := Lib.hid hrel.out.2
  clear hrel S1
  by_cases hlt : (j : Int) < (N : Int)
  ·
   skip
   have hjl : j < xs.length := by have := HN.out; omega
   obtain ⟨x, hx⟩ : ∃ x, xs[j]? = some x := ⟨_, List.getElem?_eq_getElem hjl⟩
   have HFT := Lib.hid (fsum_take (f := cnt_Field) hx)
   have hfa := fsum_at (f := cnt_Field) hx
   have hcx : cnt_Field x = 1 + (1) := rfl
   have hmx : (mks em_Field cnt_Field k xs)[j]? = some (em_Field m x) := by rw [mks_at em_Field cnt_Field k hx, ← HM.out]
   obtain ⟨ad, e'⟩ := el_some cl_Field_len (by decide) (HR.out _ S2.out.old) (List.getElem?_eq_some_iff.1 hmx).1
   subst e'
   have HK := fun w' (h : Below w.heap.size w w') => el2 cl_Field_len (HR.out _ h) hmx rfl
   dsimp only [em_Field] at HK
   have hwm : wt_Field (co_Field x) + 1 ≤ 1125899906842624 := by have h1 := wsum_mem (f := wt_Field) (List.mem_map.2 ⟨x, List.mem_of_getElem? hx, rfl⟩ : co_Field x ∈ xs.map co_Field); have h2 := HF.out; rw [coS_Field_eq] at h2; omega
   clear hwm
   have hmc : m + (cnt_Field x : Int) ≤ 2305843009213693952 := by have := HM.out; have := HK1.out; omega
   have HCX := Lib.hid hcx
   have hcx' : (cnt_Field x : Int) = 1 + 1 := by omega
   rw [hcx'] at hmc
   clear hcx' hcx hfa
   obtain ⟨m1', hm⟩ : ∃ u : Int, u = m + 1 := ⟨_, rfl⟩
   have bd0 : 0 < m1' ∧ m1' ≤ 2305843009213693952 := by omega
   have bl0 : m ≤ m1' := by omega
   have HM1 := Lib.hid hm
   have hme1 := hm
   clear hm
   obtain ⟨m2', hm⟩ : ∃ u : Int, u = m1' + 1 := ⟨_, rfl⟩
   have bd1 : 0 < m2' ∧ m2' ≤ 2305843009213693952 := by omega
   have bl1 : m1' ≤ m2' := by omega
   have HM2 := Lib.hid hm
   have hme2 := hm
   clear hm
   try simp only [mks_len] at HK
   try simp only [← hme1] at HK 
   try simp only [← hme2] at HK 
   obtain ⟨tt0, htt⟩ : ∃ t, markT m = t := ⟨_, rfl⟩
   have HMT0 := fun w' => L5.markText_any m (by omega) (by omega) w'
   rw [htt] at HMT0
   simp only [htt] at HK
   replace HMT0 := Lib.hid HMT0
   clear htt
   replace HK := Lib.hid HK
   clear hmx hx hme1 hme2 hmc
   obtain ⟨f0, f1⟩ := HK.out _ S2.out.old
   go_upto_region 4 with fail
   clear f0 f1
   refine wp_region_held_drew (S := (fun w' => (w'.cell? (ad.add (j * 2)) = some (.string tt0) ∧ w'.cell? (⟨(ad.add (j * 2)).block, (ad.add (j * 2)).off + 1, none⟩) = some (.int .i64 m1')))) (by kernel_rfl) (HK.out _ (Bag.drew1 S2.out).old) (fun hS => ?_)
   have S3 := Lib.hid (Bag.drew1 S2.out)
   clear S2
   generalize World.drew _ = w1 at hS S3 ⊢
   refine tk 0 rfl ?_
   try simp only [zp0, zp1, zp2, zp3, zp4]
   refine tk 1 rfl ?_
   try simp only [zp0, zp1, zp2, zp3, zp4]
   refine tk 2 rfl ?_
   try simp only [zp0, zp1, zp2, zp3, zp4]
   refine tk 3 rfl ?_
   try simp only [zp0, zp1, zp2, zp3, zp4]
   refine tk 4 rfl ?_
   try simp only [zp0, zp1, zp2, zp3, zp4]
   refine tk 5 rfl ?_
   try simp only [zp0, zp1, zp2, zp3, zp4]
   refine Reg.one_op (i := 6) rfl (by kernel_rfl) (fun K hK => ?_)
   go_simp
   go_at_call 48
   refine (HMT0.out _).mono ?_
   rintro e w2 ⟨rfl, hb⟩
   have S4 := Lib.hid (S3.out.keep hb)
   clear S3
   clear hb
   go_wp2_with fail
   refine hK.out _ _ (HK.out _ S4.out.old) (fun hS => ?_)
   clear hK K
   try simp only [zp0, zp1, zp2, zp3, zp4]
   refine tk 7 rfl ?_
   try simp only [zp0, zp1, zp2, zp3, zp4]
   refine wpAnyH_done (by kernel_rfl) ?_ _
   obtain ⟨f0, f1⟩ := HK.out _ S4.out.old
   go_upto_region 7 with fail
   try simp only [← HM1.out]
   go_wp2_with fail
   try simp only [← HM2.out]
   go_roundw
   case rel => exact ⟨j + 1, m2', by omega, by go_num, by first | rfl | go_num, by omega, by omega, And.intro (by have h1 := HFT.out; have h2 := HCX.out; have h3 := HM.out; have := HM1.out; have := HM2.out; omega) S4.out⟩
   case measure => simp [intOf]; omega
  ·
   skip
   obtain rfl : j = N := by omega
   have hT : xs.take j = xs := List.take_of_length_le (by have := HN.out; omega)
   have HT := Lib.hid hT
   clear hT
   go_wp2_with fail
   go_ret
   exact ⟨by have h := HM.out; rw [HT.out] at h; rw [← h] <;> rfl, S2.out.old⟩
end Go.Proofs.YthljdhfgphebnaaGreat.V

namespace Go.Proofs.YthljdhfgphebnaaGreat.V
open Go.ChangeShapes Go.WideShapes Go.ChangeAt Go.RowKit Mem Sl Sv Bag
open L5 (markT)
structure LRecord where
 a : Option Addr
 c : Nat
 l : List L5.F
def co_Record (z : LRecord) : List L5.F := coS_Field z.l
def cl_Record (z : LRecord) : List Value := [.slice z.a z.l.length z.c]
def vv_Record (z : LRecord) : Value := .agg #[.slice z.a z.l.length z.c]
def rw_Record (z : LRecord) : List RowS := rs_Field z.a z.c z.l
def wt_Record (c : List L5.F) : Nat := wsum wt_Field c
theorem wt_Record_parts (z : LRecord) : wt_Record (co_Record z) = wsum wt_Field (coS_Field z.l) := rfl
def Wide_Record (z : LRecord) : Prop := (z.l.length ≤ maxLen ∧ ∀ x ∈ z.l, Wide_Field x)
section
variable {H : Type} {enc : TypeId × Value → H} {W : World} {b : Nat} {sp : Nat → Bool} {hd : Bool}
theorem trod_Record {fuel : Nat} {cs : List Value} {x : DataW H × List MemPlace} (h : DataW.trod enc Tryz.prog W b sp hd fuel 180 cs = some x) (hlt : ∀ p ∈ x.2, p.block < W.heap.size) : ∃ z : LRecord, cs = cl_Record z ∧ RowsRd W W.heap.size (rw_Record z) ∧ Wide_Record z := by
 obtain ⟨xs, n, _, hx, hl, hlen, hf⟩ := DataW.trod_struct Tryz.underlying180 h
 have hlN : cs.length = 1 := hl.trans (by kernel_rfl)
 match cs, hlN with
 | [c0], _ =>
  have h0 : DataW.trod enc Tryz.prog W b sp hd n 178 (List.take (Tryz.prog.cellsOf 178) (List.drop 0 [c0])) = xs[0]? := hf 0 _ rfl
  rw [show Tryz.prog.cellsOf 178 = 1 by kernel_rfl, List.getElem?_eq_getElem (by rw [hlen]; decide)] at h0
  obtain ⟨a0, x0, c0', e0, r0, v0, l0, w0⟩ := trods_Field h0 (fun p hp => hlt p (by rw [hx]; exact List.mem_flatMap.2 ⟨_, List.getElem_mem (show 0 < xs.length by rw [hlen]; decide), hp⟩))
  simp only [List.drop_succ_cons, List.drop_zero, List.take_succ_cons, List.take_zero, List.cons.injEq, and_true] at e0
  subst e0
  exact ⟨⟨a0, c0', x0⟩, rfl, rd_cons ⟨r0.1, r0.2.1, r0.2.2⟩ (by rw [rws_Field_eq]; exact v0), ⟨l0, w0⟩⟩
end
set_option maxHeartbeats 4000000 in
theorem to_Record (z : LRecord) (hf : wt_Record (co_Record z) ≤ 1048576) (w : World) (hr : RowsRd w w.heap.size (rw_Record z)) : Calls Tryz.prog 164 #[vv_Record z] w fun e w' => ∃ y : LRecord, e = .returned (vv_Record y) ∧ co_Record y = co_Record z ∧ BagOwn w' w.heap.size (rw_Record y) ∧ Below w.heap.size w w' := by
 have hfp := hf
 rw [wt_Record_parts] at hfp
 have HC0 := Lib.hid (fun w' (h : Below w.heap.size w w') => to_FieldS z.a z.c z.l (by omega) w' (((rd_head hr).reads.below h).more h.size) (((rd_tail hr).below h).more h.size))
 clear hfp hf hr
 unfold vv_Record
 have S1 := Lib.hid (show Sl.Sep w _ [_, _] from L4.push_box (L4.push_box (Sl.Sep.start w) 180 #[.slice z.a z.l.length z.c] (w.heap.size) (by simp)) 131 #[.slice none 0 0] (w.heap.size + 1) (by simp))
 obtain ⟨wa, hwa⟩ : ∃ u, u = ((w.alloc (.cells #[.slice z.a z.l.length z.c] 180)).alloc (.cells #[.slice none 0 0] 131)) := ⟨_, rfl⟩
 rw [← hwa] at S1
 go_enter Tryz.func164, Tryz.ntmps164
 go_upto_region 1 with fail
 rw [← hwa]
 clear hwa
 go_upto_region 2 with fail
 have S2 := Lib.hid (show Sl.Sep w _ [_, _, _] from L4.push_box S1.out 131 #[.slice none 0 0] wa.heap.size rfl)
 clear S1
 obtain ⟨g1, hg⟩ : ∃ g', g' = wa.heap.size := ⟨_, rfl⟩
 rw [← hg] at S2 ⊢
 clear hg
 generalize wa.alloc (.cells #[.slice none 0 0] 131) = w1 at S2 ⊢
 have f0 := Bag.cs1 S2.out 0 rfl
 go_wp2_with fail
 go_at_call 190
 refine (HC0.out _ S2.out.old).mono ?_
 rintro e w2 ⟨a0', c0', y0, rfl, hc0, ho, hb⟩
 clear f0
 have S3 := Lib.hid (show Sl.Sep w _ [_, _, L4.boxR g1 131 #[.slice none 0 0], Bag.bag (rs_Field a0' c0' y0)] from Bag.push_bag S2.out hb ho)
 clear S2
 clear hb ho
 have HQ0 := Lib.hid hc0
 clear hc0
 have f0 := Bag.cs1 S3.out 0 rfl
 have f1 := Bag.cs1 S3.out 2 rfl
 have z0 := Bag.free_at S3.out 2 rfl 0
 go_upto_region 3 with fail
 clear f0 f1 z0
 have S4 := Lib.hid (show Sl.Sep w _ [_, _, L4.boxR g1 131 #[.slice a0' y0.length c0'], _] from L5.put_box5 (S3.out) 2 rfl 0 (.slice a0' y0.length c0'))
 clear S3
 have f0 := Bag.cs1 S4.out 1 rfl
 have f1 := Bag.cs1 S4.out 2 rfl
 have z0 := Bag.free_at S4.out 1 rfl 0
 go_wp2_with fail
 clear f0 f1 z0
 have S5 := Lib.hid (show Sl.Sep w _ [_, L4.boxR (w.heap.size + 1) 131 #[.slice a0' y0.length c0'], _, _] from L5.put_box5 (S4.out) 1 rfl 0 (.slice a0' y0.length c0'))
 clear S4
 have f0 := Bag.cs1 S5.out 1 rfl
 refine bodyPost_ret (v := .agg #[.slice a0' y0.length c0']) (by simp [results, Tryz.results164, go_sem, *]) rfl ?_
 clear f0
 refine ⟨⟨a0', c0', y0⟩, rfl, ?_, Bag.bag_from S5.out 3 rfl, S5.out.old⟩
 show coS_Field y0 = coS_Field z.l
 rw [HQ0.out]
set_option maxHeartbeats 4000000 in
theorem sz_Record (z : LRecord) (q : Int) (hw : Wide_Record z) (hq0 : -1 ≤ q) (hq1 : q ≤ 1048576) (w : World) (hr : RowsRd w w.heap.size (rw_Record z)) : Calls Tryz.prog 162 #[vv_Record z, .int .i64 q] w fun e w' => e = .returned (.int .i64 (lft q (wt_Record (co_Record z)))) ∧ Below w.heap.size w w' := by
 have HS0 := Lib.hid (fun (m : Int) (h0 : -1 ≤ m) (h1 : m ≤ 1048576) w' (h : Below w.heap.size w w') => sz_FieldS z.a z.c z.l m hw.2 hw.1 h0 h1 w' (((rd_head hr).reads.below h).more h.size) (((rd_tail hr).below h).more h.size))
 have HW := Lib.hid (wt_Record_parts z)
 clear hw hr
 unfold vv_Record
 have S1 := Lib.hid (show Sl.Sep w _ [_] from L4.push_box (Sl.Sep.start w) 180 #[.slice z.a z.l.length z.c] (w.heap.size) (by simp))
 obtain ⟨wa, hwa⟩ : ∃ u, u = (w.alloc (.cells #[.slice z.a z.l.length z.c] 180)) := ⟨_, rfl⟩
 rw [← hwa] at S1
 go_enter Tryz.func162, Tryz.ntmps162
 go_upto_region 1 with fail
 rw [← hwa]
 clear hwa
 have f0 := Bag.cs1 S1.out 0 rfl
 obtain ⟨u0, hu⟩ : ∃ u, lft q (wsum wt_Field (coS_Field z.l)) = u := ⟨_, rfl⟩
 have hc0 := lft_cases hu
 have hr0 := lft_range (q := q) (wsum wt_Field (coS_Field z.l)) (by omega)
 rw [hu] at hr0
 have HCU := HS0.out q (by omega) (by omega)
 simp only [hu] at HCU
 replace HCU := Lib.hid HCU
 clear hu
 go_wp2_with fail
 go_at_call 189
 refine (HCU.out _ S1.out.old).mono ?_
 rintro e w1 ⟨rfl, hb⟩
 clear f0
 have S2 := Lib.hid (S1.out.keep hb)
 clear S1
 clear hb
 have f0 := Bag.cs1 S2.out 0 rfl
 clear HCU
 by_cases hn0 : u0 < 0
 ·
  have hm1 : u0 = -1 := by omega
  subst hm1
  go_wp2_with fail
  go_ret
  exact ⟨by rw [HW.out, lft_neg (by omega)] <;> rfl, S2.out.old⟩
 ·
  skip
  go_wp2_with fail
  go_ret
  exact ⟨by rw [HW.out, lft_pos (by omega)] <;> first | rfl | (refine congrArg (fun i => Ending.returned (.int .i64 i)) ?_; omega), S2.out.old⟩
set_option maxHeartbeats 4000000 in
theorem eq_Record (y z : LRecord) (hc : co_Record y = co_Record z) (hf : wt_Record (co_Record y) ≤ 1125899906842624) (w : World) (hr : RowsRd w w.heap.size (rw_Record y)) (hr2 : RowsRd w w.heap.size (rw_Record z)) : Calls Tryz.prog 175 #[vv_Record y, vv_Record z] w fun e w' => e = .returned (.bool true) ∧ Below w.heap.size w w' := by
 have hfp := hf
 rw [wt_Record_parts] at hfp
 have ee0 : z.l.length = y.l.length := (by have h := congrArg List.length (show coS_Field y.l = coS_Field z.l from hc); rw [coS_Field_eq, coS_Field_eq, List.length_map, List.length_map] at h; exact h.symm)
 have HE0 := Lib.hid (fun w' (h : Below w.heap.size w w') => eq_FieldS y.a z.a y.c z.c y.l z.l (hc) (by omega) w' (((rd_head hr).reads.below h).more h.size) (((rd_tail hr).below h).more h.size) (((rd_head hr2).reads.below h).more h.size) (((rd_tail hr2).below h).more h.size))
 simp only [ee0] at HE0
 have hv : vv_Record z = .agg #[.slice z.a y.l.length z.c] := by unfold vv_Record; simp only [ee0]
 rw [hv]
 clear hv hfp hf hc hr hr2 ee0
 unfold vv_Record
 have S1 := Lib.hid (show Sl.Sep w _ [_, _] from L4.push_box (L4.push_box (Sl.Sep.start w) 131 #[.slice y.a y.l.length y.c] (w.heap.size) (by simp)) 131 #[.slice z.a y.l.length z.c] (w.heap.size + 1) (by simp))
 obtain ⟨wa, hwa⟩ : ∃ u, u = ((w.alloc (.cells #[.slice y.a y.l.length y.c] 131)).alloc (.cells #[.slice z.a y.l.length z.c] 131)) := ⟨_, rfl⟩
 rw [← hwa] at S1
 go_enter Tryz.func175, Tryz.ntmps175
 go_upto_region 1 with fail
 rw [← hwa]
 clear hwa
 have f0 := Bag.cs1 S1.out 0 rfl
 have f1 := Bag.cs1 S1.out 1 rfl
 go_wp2_with fail
 go_at_call 201
 refine (HE0.out _ S1.out.old).mono ?_
 rintro e w1 ⟨rfl, hb⟩
 clear f0 f1
 have S2 := Lib.hid (S1.out.keep hb)
 clear S1
 clear hb
 have f0 := Bag.cs1 S2.out 0 rfl
 have f1 := Bag.cs1 S2.out 1 rfl
 go_wp2_with fail
 go_ret
 exact ⟨rfl, S2.out.old⟩
end Go.Proofs.YthljdhfgphebnaaGreat.V

