/-
  A pack, laid by my program pack.py: the texts L1Base, Mem, Frame, Args, L1Min, L1Div, Sl, Ex, L2Num, L2App, L2Rd, L2Rd2, Law, Draw1, Sd, Sd2, one behind the other; each begins with its own words.
-/
import Derived.Test.YtkfejjoehgipmaaRows
import Derived.WalkKit
import Derived.ProofKit
import Derived.OpenShut
import Derived.BigQuiet
import Derived.Deep.QuietTactic
import Derived.Lib.Hide
import Derived.Below
import Derived.Laws.OwnMore
import Derived.Deep.Draws
import Derived.Laws.Rows
import Derived.Lib.BufferOwn
import Derived.Lib.SmallJoins
import Derived.Laws.Bits128
import Derived.Laws.BitsLemmas
import Derived.Carry
import Derived.ChangeSame
import Derived.ChangeSlices
import Derived.SizedLaws
import Derived.Outline
import Derived.IntWalk
import Derived.OwnWalk
import Derived.Maps.AppendAt
import Derived.Laws.AppendOwnNone
import Derived.LoopTactic
import Derived.Laws.BytesArg
import Derived.Laws.BitsAllLaws
/-
  The contracts of chapter 1's small functions, specification and program alike: InRange, l1In, Min, Max, CeilDiv, Mod. No condition but that the integers fit 64 bits.
-/
namespace Go.Proofs.Ytkfejjoehgipmaa.L1
set_option maxRecDepth 100000
open Go.ChangeShapes Go.WideShapes Go.ChangeAt Go.RowKit

def inB (n lo hi : Int) : Bool := decide (lo ≤ n) && decide (n ≤ hi)
theorem inB_true {n lo hi : Int} : inB n lo hi = true ↔ lo ≤ n ∧ n ≤ hi := by unfold inB; simp
theorem inB_false {n lo hi : Int} : inB n lo hi = false ↔ ¬ (lo ≤ n ∧ n ≤ hi) := by
  rw [← inB_true]; simp

theorem ret_bool {a b : Bool} (h : a = b) : Ending.returned (.bool a) = .returned (.bool b) := by rw [h]
theorem inRange_any (n lo hi : Int) (w : World) :
    Calls Try.prog 76 #[.int .i64 n, .int .i64 lo, .int .i64 hi] w fun e w' => e = .returned (.bool (inB n lo hi)) ∧ w = w' := by
  by_cases h1 : lo ≤ n <;> by_cases h2 : n ≤ hi <;>
    (go_enter Try.func76, Try.ntmps76
     go_wp2
     go_ret
     exact ⟨ret_bool (by unfold inB; simp [h1, h2]), rfl⟩)

theorem l1In_any (n lo hi : Int) (w : World) :
    Calls Try.prog 69 #[.int .i64 n, .int .i64 lo, .int .i64 hi] w fun e w' => e = .returned (.bool (inB n lo hi)) ∧ w = w' := by
  by_cases h1 : lo ≤ n <;> by_cases h2 : n ≤ hi <;>
    (go_enter Try.func69, Try.ntmps69
     go_wp2
     go_ret
     exact ⟨ret_bool (by unfold inB; simp [h1, h2]), rfl⟩)


end Go.Proofs.Ytkfejjoehgipmaa.L1

/-
  Words for memory, of no function: a block of cells that is known whole, and what stays of it; the bytes of the draw's code; the cursor of the specification's draws. No condition.
-/
namespace Go.Proofs.Ytkfejjoehgipmaa.Mem
set_option maxRecDepth 100000
open Go.RowKit

def Row (w : World) (g : Nat) (t : TypeId) (cs : Array Value) : Prop := w.heap[g]? = some (.cells cs t (0, 0))

section
variable {w w' : World} {g : Nat} {t : TypeId} {cs : Array Value}
theorem Row.inside (h : Row w g t cs) : g < w.heap.size := (Array.getElem?_eq_some_iff.1 h).1
theorem Row.cell (h : Row w g t cs) (i : Nat) : w.cell? ⟨g, i, none⟩ = cs[i]? := cell_of_row w g i cs t (0, 0) h
theorem Row.free (h : Row w g t cs) (i : Nat) : w.frozen? ⟨g, i, none⟩ = false := by
  have h' : w.heap[g]? = some (.cells cs t (0, 0)) := h
  simp [World.frozen?, h']
theorem Row.made (w : World) (t : TypeId) (cs : Array Value) : Row (w.alloc (.cells cs t)) w.heap.size t cs := heap_alloc_new w _
theorem Row.more (h : Row w g t cs) (o : Obj) : Row (w.alloc o) g t cs := (Below.heap_alloc w o g h.inside).trans h
theorem Row.draws (h : Row w g t cs) (n : Nat) : Row (w.drewN n) g t cs := h
theorem Row.put (h : Row w g t cs) (i : Nat) (u : Value) : Row (w.setCell ⟨g, i, none⟩ u) g t (cs.setIfInBounds i u) := by
  have h' : w.heap[g]? = some (.cells cs t (0, 0)) := h
  show (w.setCell ⟨g, i, none⟩ u).heap[g]? = _
  simp [World.setCell, Array.getElem?_modify, h']
theorem Row.grown {row : Option Nat} (h : Row w g t cs) (hb : w.grownBy w' row) (hg : some g ≠ row) : Row w' g t cs := (hb.block g h.inside hg).trans h
theorem Row.below {B : Nat} (h : Row w g t cs) (hb : Below B w w') (hg : g < B) : Row w' g t cs := (hb.block g hg).trans h
end

theorem grownBy_refl (w : World) (row : Option Nat) : w.grownBy w row := ⟨rfl, rfl, rfl, Nat.le_refl _, fun _ _ _ => rfl⟩
theorem grownBy_put (w : World) (g i : Nat) (u : Value) : w.grownBy (w.setCell ⟨g, i, none⟩ u) (some g) :=
  ⟨rfl, rfl, rfl, by simp [World.setCell], fun k _ hne => Below.heap_setCell _ _ _ _ (fun e => hne (by subst e; rfl))⟩
theorem grownBy_draws (w : World) (n : Nat) (row : Option Nat) : w.grownBy (w.drewN n) row := ⟨rfl, rfl, rfl, Nat.le_refl _, fun _ _ _ => rfl⟩
theorem grownBy_step {a w w' : World} {row : Option Nat} (h : a.grownBy w row) (k : w.grownBy w' row) : a.grownBy w' row := _root_.Go.Lib.grownBy_trans h k
theorem below_of {B : Nat} {w w' : World} {row : Option Nat} (h : w.grownBy w' row) (hB : B ≤ w.heap.size) (hr : ∀ k, row = some k → B ≤ k) : Below B w w' := (Below.refl B w).grown h hB hr

theorem add_block (a : Addr) (n : Nat) : (a.add n).block = a.block := by unfold Addr.add; split <;> rfl

theorem and_mask (n : Int) (m : Nat) (hm : m < 9223372036854775808) : 0 ≤ bits .and .i64 n m ∧ bits .and .i64 n m ≤ m := by
  have h1 : ((BitVec.ofInt 64 n).toNat &&& m) ≤ m := Nat.and_le_right
  have h2 : (m : Nat) % 2 ^ 64 = m := Nat.mod_eq_of_lt (by omega)
  have h3 : (BitVec.ofInt 64 n &&& BitVec.ofInt 64 (m : Int)).toNat = (BitVec.ofInt 64 n).toNat &&& m := by
    rw [BitVec.ofInt_natCast, BitVec.toNat_and, BitVec.toNat_ofNat, h2]
  show 0 ≤ IntKind.i64.wrap ((BitVec.ofInt 64 n &&& BitVec.ofInt 64 (m : Int)).toNat : Nat) ∧ IntKind.i64.wrap ((BitVec.ofInt 64 n &&& BitVec.ofInt 64 (m : Int)).toNat : Nat) ≤ m
  rw [h3, IntKind.wrap_i64]
  omega

def Bytes (w : World) (B : Nat) (a : Option Addr) (len : Nat) : Prop :=
  ∀ j, j < len → ∃ ad n, a = some ad ∧ ad.block < B ∧ w.cell? (ad.add j) = some (.int .u8 n) ∧ 0 ≤ n ∧ n ≤ 255

theorem Bytes.below {w w' : World} {B : Nat} {a : Option Addr} {len : Nat} (h : Bytes w B a len) (hb : Below B w w') : Bytes w' B a len := fun j hj => by
  obtain ⟨ad, n, e, hB, hc, h0, h1⟩ := h j hj
  exact ⟨ad, n, e, hB, by rw [hb.cell (by rw [add_block]; exact hB)]; exact hc, h0, h1⟩

def Cur (B : Nat) (w : World) (c : Nat) : Prop :=
  B ≤ c ∧ ∃ (a : Option Addr) (len cap i : Nat) (h : Int), Row w c 119 #[.slice a len cap, .int .i64 i, .int .i64 h] ∧ i ≤ len ∧ len ≤ 4611686018427387904 ∧ Bytes w B a len

theorem Cur.grown {B : Nat} {w w' : World} {c : Nat} {row : Option Nat} (h : Cur B w c) (hb : w.grownBy w' row) (hc : some c ≠ row) (hr : ∀ k, row = some k → B ≤ k) (hB : B ≤ w.heap.size) : Cur B w' c := by
  obtain ⟨h0, a, len, cap, i, x, h1, h2, h3, h4⟩ := h
  exact ⟨h0, a, len, cap, i, x, h1.grown hb hc, h2, h3, h4.below (below_of hb hB hr)⟩

def Drawn (B c : Nat) (w : World) (P : Int → Prop) (e : Ending) (w' : World) : Prop := ∃ n, e = .returned (.int .i64 n) ∧ P n ∧ Cur B w' c ∧ w.grownBy w' (some c)
end Go.Proofs.Ytkfejjoehgipmaa.Mem

/-
  The frame of every law's proof, of no function: arguments read behind the call as before if below the heap's old size nothing has turned; a law that returned true has kept its promise. No condition.
-/
namespace Go.Proofs.Ytkfejjoehgipmaa.Frame
set_option maxRecDepth 100000
open Go.ChangeShapes Go.WideShapes Go.ChangeAt Go.RowKit

section
variable {H : Type} {enc : TypeId × Value → H} {P : Program}

theorem trodAll_below (hl : laidOutB P = true) {W W' : World} (hb : Below W.heap.size W W') (sp : Nat → Bool) :
    ∀ {ts : List TypeId} {vs : List Value} {ds : List (DataW H)} {ps : List MemPlace}, (ts.all fun t => P.readableRec t && decide (t < P.types.size)) = true →
    DataW.TrodAll enc P W 0 (fun _ => true) true ts vs ds ps → (∀ x ∈ ps, x.block < W.heap.size) → (∀ p ∈ ps, sp p.block = true) → DataW.TrodAll enc P W' 0 sp true ts vs ds ps
  | [], vs, ds, ps, _, h, _, _ => by
    obtain ⟨rfl, rfl, rfl⟩ := trodAll_nil h
    exact trodAll_mk0
  | t :: ts, vs, ds, ps, hr, h, hlt, hs => by
    simp only [List.all_cons, Bool.and_eq_true, decide_eq_true_eq] at hr
    obtain ⟨v, vs', d, ds', p, q, rfl, rfl, rfl, h0, hr0⟩ := trodAll_cons h
    refine trodAll_cons_mk (WideElems.Trod_stays hl hr.1.1 hr.1.2 h0 (fun x hx => hb.same (hlt x (by simp [hx]))) (fun x hx => hs x (by simp [hx]))) ?_
    exact trodAll_below hl hb sp hr.2 hr0 (fun x hx => hlt x (by simp [hx])) (fun x hx => hs x (by simp [hx]))

theorem law_post {f : Func} {s : ChangeSpec} {apart fresh handsOn : Bool} {W W' : World} {args : Array Value} {ds : List (DataW H)} {p : List MemPlace} {tb : TypeId}
    (hvars : s.vars = []) (hW : DataW.Whole enc P f.params.toList s.vars apart W args.toList ds [] p)
    (hA : DataW.TrodAll enc P W 0 (fun _ => true) true f.params.toList args.toList ds p)
    (hs1 : (s.fn H (ds ++ [])).results = [.lit (.bool true)]) (hs2 : (s.fn H (ds ++ [])).args = ds) (hs3 : (s.fn H (ds ++ [])).vars = [])
    (hl : laidOutB P = true) (hr : (f.params.toList.all fun t => P.readableRec t && decide (t < P.types.size)) = true)
    (htb : f.resultTypes = #[tb]) (hb2 : P.underlying tb = some .bool) (hb : Below W.heap.size W W') :
    s.post enc P f apart fresh handsOn false W args (.bool true) W' := by
  have hlt : ∀ x ∈ p, x.block < W.heap.size := fun x hx => hW.lt x hx
  refine ⟨ds, [], p, [], p, [], hW, ?_, ?_, ?_, hb.frame _, fun h => by cases h⟩
  · rw [hs1, htb]; exact trodAll_mk1 (shut_bool hb2 _)
  · rw [hs2]; exact trodAll_below hl hb _ hr hA hlt (fun x hx => by simpa using hlt x hx)
  · rw [hs3, hvars]; rfl
end
end Go.Proofs.Ytkfejjoehgipmaa.Frame

/-
  How a law's arguments open, of no function: a slice of bytes that came in reads as a list of bytes. No condition but the form's own reach.
-/
namespace Go.Proofs.Ytkfejjoehgipmaa.Args
set_option maxRecDepth 100000
open Go.ChangeShapes Go.WideShapes Go.ChangeAt Go.RowKit Mem

def Holds (w : World) (B : Nat) (a : Option Addr) (l : List UInt8) : Prop :=
  ∀ j (hj : j < l.length), ∃ ad, a = some ad ∧ ad.block < B ∧ w.cell? (ad.add j) = some (.int .u8 (l[j].toNat : Int))
theorem Holds.bytes {w : World} {B : Nat} {a : Option Addr} {l : List UInt8} (h : Holds w B a l) : Bytes w B a l.length := fun j hj => by
  obtain ⟨ad, e, hb, hc⟩ := h j hj
  exact ⟨ad, _, e, hb, hc, by omega, by have := l[j].toNat_lt; omega⟩
theorem Holds.below {w w' : World} {B : Nat} {a : Option Addr} {l : List UInt8} (h : Holds w B a l) (hb : Below B w w') : Holds w' B a l := fun j hj => by
  obtain ⟨ad, e, hB, hc⟩ := h j hj
  exact ⟨ad, e, hB, by rw [hb.cell (by rw [add_block]; exact hB)]; exact hc⟩

section
variable {H : Type} {enc : TypeId × Value → H} {P : Program}

end
end Go.Proofs.Ytkfejjoehgipmaa.Args

/-
  The contracts of Min and Max, specification and program alike (the program's go through the variadic function extremes). No condition but that the integers fit 64 bits.
-/
namespace Go.Proofs.Ytkfejjoehgipmaa.L1
set_option maxRecDepth 100000
open Go.ChangeShapes Go.WideShapes Go.ChangeAt Go.RowKit






end Go.Proofs.Ytkfejjoehgipmaa.L1

/-
  The contracts of CeilDiv and Mod, specification and program alike. No condition but that the integers fit 64 bits.
-/
namespace Go.Proofs.Ytkfejjoehgipmaa.L1
set_option maxRecDepth 100000
open Go.ChangeShapes Go.WideShapes Go.ChangeAt Go.RowKit

end Go.Proofs.Ytkfejjoehgipmaa.L1

/-
  Words for slices of one-cell elements, of no function: a slice that reads as a list; a slice that the call owns; several owned things that lie apart (each may be written without turning another). No condition.
-/
namespace Go.Proofs.Ytkfejjoehgipmaa.Sl
set_option maxRecDepth 100000
open Go.ChangeShapes Go.WideShapes Go.ChangeAt Go.RowKit Mem

def Reads (w : World) (B : Nat) (a : Option Addr) (l : List Value) : Prop :=
  ∀ j (hj : j < l.length), ∃ ad, a = some ad ∧ ad.block < B ∧ w.cell? (ad.add j) = some l[j]

def ints (k : IntKind) (l : List Int) : List Value := l.map (Value.int k)
@[simp] theorem ints_length (k : IntKind) (l : List Int) : (ints k l).length = l.length := List.length_map ..
theorem ints_append (k : IntKind) (l m : List Int) : ints k (l ++ m) = ints k l ++ ints k m := List.map_append
theorem ints_get (k : IntKind) (l : List Int) (j : Nat) (h : j < l.length) : (ints k l)[j]'(by simpa using h) = .int k l[j] := List.getElem_map ..
theorem ints_one (k : IntKind) (l : List Int) : ∀ u ∈ ints k l, u.oneCell' = true := ints_oneCell k l

theorem add_add (a : Addr) (i j : Nat) : (a.add i).add j = a.add (i + j) := by
  unfold Addr.add
  by_cases hi : i = 0 <;> by_cases hj : j = 0 <;> simp [hi, hj, Nat.add_assoc]

section
variable {w w' : World} {B B' : Nat} {a : Option Addr} {l : List Value}
theorem Reads.nil : Reads w B a [] := fun _ hj => absurd hj (by simp)
theorem Reads.keep (h : Reads w B a l) (hk : ∀ p : Addr, p.block < B → w'.cell? p = w.cell? p) : Reads w' B a l := fun j hj => by
  obtain ⟨ad, e, hb, hc⟩ := h j hj
  exact ⟨ad, e, hb, (hk _ (by rw [add_block]; exact hb)).trans hc⟩
theorem Reads.below (h : Reads w B a l) (hb : Below B w w') : Reads w' B a l := h.keep fun _ hp => hb.cell hp
theorem Reads.more (h : Reads w B a l) (hB : B ≤ B') : Reads w B' a l := fun j hj => by
  obtain ⟨ad, e, hb, hc⟩ := h j hj
  exact ⟨ad, e, by omega, hc⟩
theorem Reads.at_ (h : Reads w B a l) (j : Nat) (hj : j < l.length) : ∃ ad, a = some ad ∧ ad.block < B ∧ w.cell? (ad.add j) = some l[j] := h j hj
theorem Reads.int {k : IntKind} {l : List Int} (h : Reads w B a (ints k l)) (j : Nat) (hj : j < l.length) : ∃ ad, a = some ad ∧ ad.block < B ∧ w.cell? (ad.add j) = some (.int k l[j]) := by
  obtain ⟨ad, e, hb, hc⟩ := h j (by simpa using hj)
  exact ⟨ad, e, hb, by rw [hc, ints_get k l j hj]⟩
theorem Reads.part (h : Reads w B a l) (s t m : Nat) (hst : s ≤ t) (ht : t ≤ l.length) (hm : t ≤ m) : Reads w B (if m = s then a else a.map (·.add s)) ((l.drop s).take (t - s)) := fun j hj => by
  have hj' : j < t - s := by simp at hj; omega
  obtain ⟨ad, e, hb, hc⟩ := h (s + j) (by omega)
  rw [if_neg (by omega)]
  subst e
  refine ⟨ad.add s, rfl, by rw [add_block]; exact hb, ?_⟩
  rw [add_add, hc]
  simp
theorem Reads.partInts {k : IntKind} {l : List Int} (h : Reads w B a (ints k l)) (s t m : Nat) (hst : s ≤ t) (ht : t ≤ l.length) (hm : t ≤ m) : Reads w B (if m = s then a else a.map (·.add s)) (ints k ((l.drop s).take (t - s))) := by
  have := h.part s t m hst (by simpa using ht) hm
  rwa [show ints k ((l.drop s).take (t - s)) = ((ints k l).drop s).take (t - s) by simp [ints, List.map_drop, List.map_take]]
end

def Own (w : World) (B : Nat) (e : TypeId) (k : IntKind) (a : Option Addr) (c : Nat) (l : List Int) : Prop :=
  w.ownsRow B e 1 (.slice a l.length c) l.length (ints k l)

section
variable {w w' : World} {B B' : Nat} {e : TypeId} {k : IntKind} {a : Option Addr} {c : Nat} {l : List Int}
theorem Own.form (h : Own w B e k a c l) : (a = none ∧ l = [] ∧ c = 0) ∨ ∃ g, a = some ⟨g, 0, none⟩ ∧ B ≤ g ∧ g < w.heap.size ∧ l.length ≤ c ∧ c ≤ maxLen := by
  rcases h.2 with ⟨hv, hn⟩ | ⟨g, cap, cur, hv, hb, hg, h1, h2, _⟩
  · injection hv with h1 h2 h3
    exact .inl ⟨h1, List.eq_nil_of_length_eq_zero hn, h3⟩
  · injection hv with h3 h4 h5
    exact .inr ⟨g, h3, hb, (Array.getElem?_eq_some_iff.1 hg).1, by omega, by omega⟩
theorem Own.reads (h : Own w B e k a c l) : Reads w w.heap.size a (ints k l) := fun j hj => by
  rcases h.form with ⟨_, rfl, _⟩ | ⟨g, rfl, hb, hg, _⟩
  · simp [ints] at hj
  · exact ⟨_, rfl, hg, h.cells (g := g) rfl j _ (List.getElem?_eq_getElem hj)⟩
theorem Own.cap (h : Own w B e k a c l) : l.length ≤ c := by
  rcases h.form with ⟨_, rfl, _⟩ | ⟨g, rfl, hb, hg, h1, _⟩
  · simp
  · exact h1
theorem Own.base (h : Own w B e k a c l) (hB : B' ≤ B) : Own w B' e k a c l := by
  refine ⟨h.1, ?_⟩
  rcases h.2 with hv | ⟨g, cap, cur, hv, hb, r⟩
  · exact .inl hv
  · exact .inr ⟨g, cap, cur, hv, by omega, r⟩
theorem Own.lift (h : Own w B e k a c l) (hB : ∀ b ∈ (Value.slice a l.length c).ownBlock.toList, B' ≤ b) : Own w B' e k a c l := by
  refine ⟨h.1, ?_⟩
  rcases h.2 with hv | ⟨g, cap, cur, hv, hb, r⟩
  · exact .inl hv
  · exact .inr ⟨g, cap, cur, hv, hB g (by rw [hv]; simp [Value.ownBlock]), r⟩
theorem Own.below (h : Own w B e k a c l) (hb : Below w.heap.size w w') : Own w' B e k a c l := by
  refine ⟨h.1, ?_⟩
  rcases h.2 with hv | ⟨g, cap, cur, hv, hB, hg, r⟩
  · exact .inl hv
  · exact .inr ⟨g, cap, cur, hv, hB, (hb.block g (Array.getElem?_eq_some_iff.1 hg).1).trans hg, r⟩
theorem Own.empty (w : World) (e : TypeId) (k : IntKind) (hB : B ≤ w.heap.size) : Own (w.alloc (.cells #[] e)) B e k (some ⟨w.heap.size, 0, none⟩) 0 [] :=
  World.ownsRow_made w #[] 0 hB (Nat.zero_le _) rfl
end

def Gave (w : World) (B : Nat) (e : TypeId) (k : IntKind) (l : List Int) (en : Ending) (w' : World) : Prop := ∃ a c, en = .returned (.slice a l.length c) ∧ Own w' B e k a c l ∧ Below B w w'
theorem Gave.mk {w w' : World} {B : Nat} {e : TypeId} {k : IntKind} {l : List Int} {a : Option Addr} {c n : Nat} (hn : n = l.length) (ho : Own w' B e k a c l) (hb : Below B w w') : Gave w B e k l (.returned (.slice a n c)) w' := ⟨a, c, by rw [hn], ho, hb⟩

/-! ### What the call owns, several things apart -/

structure Res where
  fp : List Nat
  is : World → Prop
  loc : ∀ {w w' : World}, (∀ b ∈ fp, w'.heap[b]? = w.heap[b]?) → is w → is w'

def own (e : TypeId) (k : IntKind) (a : Option Addr) (c : Nat) (l : List Int) : Res where
  fp := (Value.slice a l.length c).ownBlock.toList
  is w := Own w 0 e k a c l
  loc := fun hs h => ⟨h.1, by
    rcases h.2 with hv | ⟨g, cap, cur, hv, hB, hg, r⟩
    · exact .inl hv
    · exact .inr ⟨g, cap, cur, hv, hB, (hs g (by rw [hv]; simp [Value.ownBlock])).trans hg, r⟩⟩

structure Turned (fp : List Nat) (w w' : World) : Prop where
  os : w'.os = w.os
  tape : w'.tape = w.tape
  output : w'.output = w.output
  size : w.heap.size ≤ w'.heap.size
  block : ∀ b, b < w.heap.size → b ∉ fp → w'.heap[b]? = w.heap[b]?
theorem Turned.of_grown {w w' : World} {r : Option Nat} (h : w.grownBy w' r) : Turned r.toList w w' :=
  ⟨h.os, h.tape, h.output, h.size, fun b hb hn => h.block b hb (fun e => hn (by rw [← e]; simp))⟩
theorem Turned.refl (fp : List Nat) (w : World) : Turned fp w w := ⟨rfl, rfl, rfl, Nat.le_refl _, fun _ _ _ => rfl⟩
theorem Turned.trans {fp : List Nat} {w w1 w2 : World} (h : Turned fp w w1) (k : Turned fp w1 w2) : Turned fp w w2 :=
  ⟨k.os.trans h.os, k.tape.trans h.tape, k.output.trans h.output, Nat.le_trans h.size k.size, fun b hb hn => (k.block b (Nat.lt_of_lt_of_le hb h.size) hn).trans (h.block b hb hn)⟩
theorem Turned.of_below {fp : List Nat} {w w' : World} (h : Below w.heap.size w w') : Turned fp w w' := ⟨h.os, h.tape, h.output, h.size, fun b hb _ => h.block b hb⟩
theorem Turned.below {fp : List Nat} {w w' : World} {B : Nat} (h : Turned fp w w') (hB : B ≤ w.heap.size) (hf : ∀ b ∈ fp, B ≤ b) : Below B w w' :=
  ⟨h.os, h.tape, h.output, h.size, fun b hb => h.block b (by omega) (fun hm => by have := hf b hm; omega)⟩

structure Sep (W w : World) (rs : List Res) : Prop where
  old : Below W.heap.size W w
  is : ∀ (i : Nat) (r : Res), rs[i]? = some r → r.is w
  lies : ∀ (i : Nat) (r : Res), rs[i]? = some r → ∀ b ∈ r.fp, W.heap.size ≤ b ∧ b < w.heap.size
  apart : ∀ (i j : Nat) (r s : Res), rs[i]? = some r → rs[j]? = some s → i ≠ j → ∀ b ∈ r.fp, b ∉ s.fp

section
variable {W w w' : World} {rs : List Res} {r r' : Res}
theorem Sep.start (W : World) : Sep W W [] := ⟨Below.refl _ _, fun i r h => by simp at h, fun i r h => by simp at h, fun i j r s h => by simp at h⟩
theorem Sep.keep (h : Sep W w rs) (hb : Below w.heap.size w w') : Sep W w' rs :=
  ⟨h.old.trans (hb.mono h.old.size), fun i r hi => r.loc (fun b hm => hb.block b (h.lies i r hi b hm).2) (h.is i r hi), fun i r hi b hm => ⟨(h.lies i r hi b hm).1, Nat.lt_of_lt_of_le (h.lies i r hi b hm).2 hb.size⟩, h.apart⟩
theorem Sep.push (h : Sep W w rs) (hb : Below w.heap.size w w') (hr : r.is w') (hf : ∀ b ∈ r.fp, w.heap.size ≤ b ∧ b < w'.heap.size) : Sep W w' (rs ++ [r]) := by
  have hk := h.keep hb
  have hsz := h.old.size
  have hlast : ∀ (i : Nat) (s : Res), (rs ++ [r])[i]? = some s → (rs[i]? = some s ∧ i < rs.length) ∨ (s = r ∧ i = rs.length) := fun i s hi => by
    rcases Nat.lt_trichotomy i rs.length with hl | hl | hl
    · rw [List.getElem?_append_left hl] at hi
      exact .inl ⟨hi, hl⟩
    · subst hl
      simp at hi
      exact .inr ⟨hi.symm, rfl⟩
    · rw [List.getElem?_eq_none (by simp; omega)] at hi
      cases hi
  refine ⟨hk.old, fun i s hi => ?_, fun i s hi => ?_, fun i j s t hi hj hne => ?_⟩
  · rcases hlast i s hi with ⟨h1, _⟩ | ⟨rfl, _⟩
    · exact hk.is i s h1
    · exact hr
  · rcases hlast i s hi with ⟨h1, _⟩ | ⟨rfl, _⟩
    · exact hk.lies i s h1
    · exact fun b hm => ⟨by have := (hf b hm).1; omega, (hf b hm).2⟩
  · rcases hlast i s hi with ⟨h1, e1⟩ | ⟨rfl, e1⟩ <;> rcases hlast j t hj with ⟨h2, e2⟩ | ⟨rfl, e2⟩
    · exact h.apart i j s t h1 h2 hne
    · exact fun b hm hm2 => by have := (h.lies i s h1 b hm).2; have := (hf b hm2).1; omega
    · exact fun b hm hm2 => by have := (h.lies j t h2 b hm2).2; have := (hf b hm).1; omega
    · omega
theorem Sep.put (h : Sep W w rs) (i : Nat) (hi : rs[i]? = some r) (ht : Turned r.fp w w') (hr : r'.is w') (hf : ∀ b ∈ r'.fp, b ∈ r.fp) : Sep W w' (rs.set i r') := by
  have hlt : i < rs.length := (List.getElem?_eq_some_iff.1 hi).1
  have hcase : ∀ (j : Nat) (s : Res), (rs.set i r')[j]? = some s → (j ≠ i ∧ rs[j]? = some s) ∨ (j = i ∧ s = r') := fun j s hj => by
    rw [List.getElem?_set] at hj
    by_cases e : i = j
    · subst e
      rw [if_pos rfl, if_pos hlt] at hj
      exact .inr ⟨rfl, (Option.some.inj hj).symm⟩
    · rw [if_neg e] at hj
      exact .inl ⟨fun e' => e e'.symm, hj⟩
  refine ⟨h.old.trans (ht.below h.old.size (fun b hm => (h.lies i r hi b hm).1)), fun j s hj => ?_, fun j s hj b hm => ?_, fun j k s t hj hk hne b hm hm2 => ?_⟩
  · rcases hcase j s hj with ⟨hne, h1⟩ | ⟨rfl, rfl⟩
    · exact s.loc (fun b hm => ht.block b (h.lies j s h1 b hm).2 (h.apart j i s r h1 hi hne b hm)) (h.is j s h1)
    · exact hr
  · rcases hcase j s hj with ⟨hne, h1⟩ | ⟨rfl, rfl⟩
    · exact ⟨(h.lies j s h1 b hm).1, Nat.lt_of_lt_of_le (h.lies j s h1 b hm).2 ht.size⟩
    · exact ⟨(h.lies _ r hi b (hf b hm)).1, Nat.lt_of_lt_of_le (h.lies _ r hi b (hf b hm)).2 ht.size⟩
  · rcases hcase j s hj with ⟨hne1, h1⟩ | ⟨rfl, rfl⟩ <;> rcases hcase k t hk with ⟨hne2, h2⟩ | ⟨rfl, rfl⟩
    · exact h.apart j k s t h1 h2 hne b hm hm2
    · exact h.apart j _ s r h1 hi hne1 b hm (hf b hm2)
    · exact h.apart k _ t r h2 hi hne2 b hm2 (hf b hm)
    · exact hne rfl
theorem Sep.pushOwn {e : TypeId} {k : IntKind} {a : Option Addr} {c : Nat} {l : List Int} (h : Sep W w rs) (hb : Below w.heap.size w w') (ho : Own w' w.heap.size e k a c l) : Sep W w' (rs ++ [own e k a c l]) :=
  h.push hb (ho.base (Nat.zero_le _)) fun b hm => ho.lt b (by simpa [own] using hm)
theorem Sep.own {e : TypeId} {k : IntKind} {a : Option Addr} {c : Nat} {l : List Int} (h : Sep W w rs) (i : Nat) (hi : rs[i]? = some (Sl.own e k a c l)) : Own w 0 e k a c l := h.is i _ hi
theorem Sep.ownAt {e : TypeId} {k : IntKind} {a : Option Addr} {c : Nat} {l : List Int} (h : Sep W w rs) (i : Nat) (hi : rs[i]? = some (Sl.own e k a c l)) : Own w W.heap.size e k a c l :=
  (h.is i _ hi : Own w 0 e k a c l).lift fun b hm => (h.lies i _ hi b hm).1
theorem Sep.drews (h : Sep W w rs) (n : Nat) : Sep W (w.drewN n) rs := h.keep ⟨rfl, rfl, rfl, Nat.le_refl _, fun _ _ => rfl⟩
theorem Sep.alloc (h : Sep W w rs) (o : Obj) : Sep W (w.alloc o) rs := h.keep ((Below.refl _ _).alloc (Nat.le_refl _) o)
end

/-! ### append onto an owned row, the source nil, empty or not -/
section
variable {P : Program} (w : World)
theorem run_append_src (B : Nat) (t ty e : TypeId) (i : TypeInfo) (z : Value) (bytes : Nat) (ht : P.underlying t = some (.slice e)) (hi : P.info? e = some i) (hz : i.zero = some z)
    (hsize : i.size = 1) (hby : i.bytes = bytes) (hzs : z.cells.size = 1) (k : IntKind) (a : Option Addr) (c : Nat) (l : List Int) (hown : Own w B e k a c l)
    (B' : Nat) (A : Option Addr) (c' : Nat) (m : List Int) (hr : Reads w B' A (ints k m))
    (h63 : l.length + m.length ≤ maxLen) (hbytes : (l.length + m.length) * bytes ≤ 140737488355328) (hbase : B ≤ w.heap.size) :
    ∃ a1 c1 w', (Builtin.append_ #[t, t] ty #[.slice a l.length c, .slice A m.length c']).run P w = .ok (.slice a1 (l.length + m.length) c1) w' ∧ Own w' B e k a1 c1 (l ++ m) ∧ w.grownBy w' (Value.slice a l.length c).ownBlock := by
  have fin : ∀ {v' : Value} {w' : World}, w'.ownsRow B e 1 v' (l.length + m.length) (ints k l ++ ints k m) → ∃ a1 c1, v' = .slice a1 (l.length + m.length) c1 ∧ Own w' B e k a1 c1 (l ++ m) := by
    intro v' w' h
    rw [← ints_append] at h
    rcases h.2 with ⟨rfl, hn⟩ | ⟨g, cap, cur, rfl, _⟩
    · refine ⟨none, 0, by rw [hn], ?_⟩
      unfold Own
      rw [List.length_append, hn]
      rw [hn] at h
      exact h
    · refine ⟨_, cap, rfl, ?_⟩
      unfold Own
      rw [List.length_append]
      exact h
  rcases A with _ | ad
  · have hm : m = [] := by
      rcases m with _ | ⟨x, m⟩
      · rfl
      · obtain ⟨ad, h, _⟩ := hr 0 (by simp)
        cases h
    subst hm
    have hrun : (Builtin.append_ #[t, t] ty #[.slice a l.length c, .slice none 0 c']).run P w = .ok (.slice a l.length c) w := by
      rcases hown.form with ⟨rfl, rfl, rfl⟩ | ⟨g, rfl, _, _, h1, _⟩
      · simp [Builtin.append_, run_underlying ht, sizeOf, typeInfo, hi, Builtin.lenOf, Builtin.firstCells]
      · simp [Builtin.append_, run_underlying ht, sizeOf, typeInfo, hi, Builtin.lenOf, Builtin.firstCells, h1, storeCells]
    exact ⟨a, c, w, by simpa using hrun, by simpa using hown, grownBy_refl w _⟩
  · have hcells : ∀ j u, (ints k m)[j]? = some u → w.cell? (ad.add j) = some u := by
      intro j u hu
      have hj := (List.getElem?_eq_some_iff.1 hu).1
      obtain ⟨ad', h, _, hc⟩ := hr j hj
      injection h with h
      subst h
      rw [hc, ← hu, List.getElem?_eq_getElem hj]
    obtain ⟨v', w', hrun, h2, h3, -, -⟩ := run_append_own_at (P := P) w B t ty e i z 1 bytes ht hi hz hsize hby hzs (by omega) _ l.length (ints k l) hown ad m.length c' (ints k m) (by simp) hcells (ints_one k m) h63 hbytes hbase
    obtain ⟨a1, c1, rfl, ho⟩ := fin h2
    exact ⟨a1, c1, w', hrun, ho, h3⟩

theorem wpList_append_src {ops : Array Oper} {rest : List Oper} {o : Oper} {act : Act} {Q : Exit → Act → World → Prop} (hgd : o.guard = none) (s x : Operand) (t : TypeId)
    (ho : o.op = .call { callee := .builtin .append, args := #[s, x], argTypes := #[t, t] })
    (B : Nat) (e : TypeId) (i : TypeInfo) (z : Value) (bytes : Nat) (ht : P.underlying t = some (.slice e)) (hi : P.info? e = some i) (hz : i.zero = some z)
    (hsize : i.size = 1) (hby : i.bytes = bytes) (hzs : z.cells.size = 1) (k : IntKind) (a : Option Addr) (n c : Nat) (l : List Int) (hs : act.eval s = .slice a n c) (hn : n = l.length) (hown : Own w B e k a c l)
    (B' : Nat) (A : Option Addr) (n' c' : Nat) (m : List Int) (hx : act.eval x = .slice A n' c') (hn' : n' = m.length) (hr : Reads w B' A (ints k m))
    (h63 : l.length + m.length ≤ maxLen) (hbytes : (l.length + m.length) * bytes ≤ 140737488355328) (hbase : B ≤ w.heap.size)
    (h : ∀ a1 c1 w', Own w' B e k a1 c1 (l ++ m) → w.grownBy w' (Value.slice a l.length c).ownBlock → wpList P ops Q rest (act.put o.dst (.slice a1 (l.length + m.length) c1)) w') : wpList P ops Q (o :: rest) act w := by
  subst hn
  subst hn'
  refine wpList_plain hgd fun K hK => ?_
  obtain ⟨a1, c1, w', hrun, h2, h3⟩ := run_append_src (P := P) w B t o.type e i z bytes ht hi hz hsize hby hzs k a c l hown B' A c' m hr h63 hbytes hbase
  unfold Oper.wp execOp
  simp only [ho, resolve, invoke, builtin, Sem.run_bind, Sem.run_pure, Result.andThen_ok, List.map_toArray, List.map_cons, List.map_nil, hs, hx, hrun]
  exact hK _ _ (h a1 c1 w' h2 h3)
end

theorem reads_one (w : World) (k : IntKind) (x : Int) (t : TypeId) : Reads (w.alloc (.cells #[.int k x] t)) (w.heap.size + 1) (some ⟨w.heap.size, 0, none⟩) (ints k [x]) := fun j hj => by
  simp [ints] at hj
  subst hj
  refine ⟨_, rfl, by simp, ?_⟩
  rw [Addr.add_lit, (Row.made w t _).cell]
  rfl
end Go.Proofs.Ytkfejjoehgipmaa.Sl

/-
  The contracts of the exact laws' helpers for slices of bytes and of ints: a copy (to..S), a comparison (eq..S, of equal lists), marks (mark..S) and a look at the marks (held..S). No condition but a length below 2^40 where numbers are counted.
-/
namespace Go.Proofs.Ytkfejjoehgipmaa.Ex
set_option maxRecDepth 100000
open Go.ChangeShapes Go.WideShapes Go.ChangeAt Go.RowKit Mem Sl

def marks (kd : IntKind) (k : Int) (n : Nat) : List Int := (List.range n).map fun (i : Nat) => kd.wrap (k + (i : Int))
@[simp] theorem marks_length (kd : IntKind) (k : Int) (n : Nat) : (marks kd k n).length = n := by simp [marks]
theorem set_step {α : Type} (x : α) (p q : List α) (y : α) (k : Nat) (hk : p.length = k) : (p ++ y :: q).set k x = (p ++ [x]) ++ q := by
  subst hk
  simp

theorem infoOf (e : TypeId) (z : Value) (s b : Nat) (h : (Try.prog.info? e).map (fun i => (i.zero, i.size, i.bytes)) = some (some z, s, b)) : ∃ i, Try.prog.info? e = some i ∧ i.zero = some z ∧ i.size = s ∧ i.bytes = b := info_parts h

theorem replicate_cons {α : Type} (x : α) (n k : Nat) (h : k < n) : List.replicate (n - k) x = x :: List.replicate (n - (k + 1)) x := by
  rw [show n - k = (n - (k + 1)) + 1 by omega, List.replicate_succ]


def Drew (w w' : World) : Prop := ∃ n, w' = w.drewN n
theorem Drew.refl (w : World) : Drew w w := ⟨0, rfl⟩
theorem Drew.more {w w1 : World} (h : Drew w w1) (n : Nat) : Drew w (w1.drewN n) := by
  obtain ⟨m, rfl⟩ := h
  exact ⟨m + n, World.drewN_drewN ..⟩
theorem Drew.below {w w' : World} (h : Drew w w') (B : Nat) : Below B w w' := by
  obtain ⟨n, rfl⟩ := h
  exact ⟨rfl, rfl, rfl, Nat.le_refl _, fun _ _ => rfl⟩
theorem Drew.trans {w w1 w2 : World} (h : Drew w w1) (k : Drew w1 w2) : Drew w w2 := by
  obtain ⟨n, rfl⟩ := k
  exact h.more n

end Go.Proofs.Ytkfejjoehgipmaa.Ex

/-
  Plain mathematics of chapter 2: the varint of a number, what a reading of a varint gives, lists of numbers; that reading inverts writing and writing inverts reading. No condition.
-/
namespace Go.Proofs.Ytkfejjoehgipmaa.L2
set_option maxRecDepth 100000

def uv (n : Nat) : List Int := if n < 128 then [(n : Int)] else ((n % 128 + 128 : Nat) : Int) :: uv (n / 128)
termination_by n
decreasing_by omega
theorem uv_small {n : Nat} (h : n < 128) : uv n = [(n : Int)] := by rw [uv, if_pos h]
theorem uv_big {n : Nat} (h : ¬ n < 128) : uv n = ((n % 128 + 128 : Nat) : Int) :: uv (n / 128) := by rw [uv, if_neg h]
theorem uv_len_le : ∀ (j n : Nat), n < 128 ^ (j + 1) → (uv n).length ≤ j + 1
  | 0, n, h => by rw [uv_small (by omega)]; simp
  | j + 1, n, h => by
    by_cases hn : n < 128
    · rw [uv_small hn]; simp
    · rw [uv_big hn, List.length_cons]
      have := uv_len_le j (n / 128) (by rw [Nat.pow_succ] at h; omega)
      omega
theorem uv_len_pos (n : Nat) : 1 ≤ (uv n).length := by
  by_cases hn : n < 128
  · rw [uv_small hn]; simp
  · rw [uv_big hn]; simp
def enc (n : Int) : List Int := if L1.inB n 0 1000000000000 = true then uv n.toNat else []
theorem enc_in {n : Int} (h0 : 0 ≤ n) (h1 : n ≤ 1000000000000) : enc n = uv n.toNat := by rw [enc, if_pos (L1.inB_true.mpr ⟨h0, h1⟩)]
theorem enc_out {n : Int} (h : ¬ (0 ≤ n ∧ n ≤ 1000000000000)) : enc n = [] := by rw [enc, if_neg (by rw [L1.inB_false.mpr h]; simp)]
theorem enc_len (n : Int) : (enc n).length ≤ 6 := by
  by_cases h : 0 ≤ n ∧ n ≤ 1000000000000
  · rw [enc_in h.1 h.2]
    exact uv_len_le 5 _ (by have : (128 : Nat) ^ (5 + 1) = 4398046511104 := by decide
                            omega)
  · rw [enc_out h]; simp
def rdAux : Nat → Int → List Int → Option (Int × Nat)
  | _, _, [] => none
  | k, v, c :: s =>
    if 6 ≤ k then none
    else if c < 128 then (if (c = 0 ∧ 0 < k) ∨ 1000000000000 < v + c % 128 * 128 ^ k then none else some (v + c % 128 * 128 ^ k, k + 1))
    else rdAux (k + 1) (v + c % 128 * 128 ^ k) s
def rd (l : List Int) (off : Int) : Option (Int × Nat) := if 0 ≤ off then rdAux 0 0 (l.drop off.toNat) else none
def rdN (l : List Int) (off : Int) : Int := match rd l off with | some (v, _) => v | none => 0
def rdE (l : List Int) (off : Int) : Int := match rd l off with | some (_, m) => off + m | none => 0
def rdB (l : List Int) (off : Int) : Bool := (rd l off).isSome

theorem rd_some {l : List Int} {off : Int} (h : rdB l off = true) : rd l off = some (rdN l off, (rdE l off - off).toNat) ∧ off ≤ rdE l off := by
  unfold rdB at h
  unfold rdN rdE
  cases hr : rd l off with
  | none => rw [hr] at h; cases h
  | some p =>
    obtain ⟨v, m⟩ := p
    simp
    omega
theorem rdN_of {l : List Int} {off v : Int} {m : Nat} (h : rd l off = some (v, m)) : rdN l off = v := by unfold rdN; rw [h]
theorem rdE_of {l : List Int} {off v : Int} {m : Nat} (h : rd l off = some (v, m)) : rdE l off = off + m := by unfold rdE; rw [h]
theorem rdB_of {l : List Int} {off v : Int} {m : Nat} (h : rd l off = some (v, m)) : rdB l off = true := by unfold rdB; rw [h]; rfl
end Go.Proofs.Ytkfejjoehgipmaa.L2

/-
  The contracts of chapter 2's writers: AppendUvarint of the specification and of the program (extendByVarint, takeBytes), AppendBytes, EncodeInts. Conditions: the slices read as lists, of at most 2^40 elements.
-/
namespace Go.Proofs.Ytkfejjoehgipmaa.L2
set_option maxRecDepth 100000
open Go.ChangeShapes Go.WideShapes Go.ChangeAt Go.RowKit Mem Sl Ex
set_option linter.unusedVariables false

theorem info8 : (Try.prog.info? 5).map (fun i => (i.zero, i.size, i.bytes)) = some (some (.int .u8 0), 1, 1) := by kernel_rfl

theorem own_alloc {w : World} {B : Nat} {e : TypeId} {k : IntKind} {a : Option Addr} {c : Nat} {l : List Int} (h : Own w B e k a c l) (o : Obj) : Own (w.alloc o) B e k a c l := h.below ((Below.refl _ _).alloc (Nat.le_refl _) o)
theorem below_alloc {B : Nat} {w w' : World} (h : Below B w w') (o : Obj) (hB : B ≤ w.heap.size) : Below B w (w'.alloc o) := h.alloc (Nat.le_trans hB h.size) o
theorem below_own {B : Nat} {w w' : World} {e : TypeId} {k : IntKind} {a : Option Addr} {c : Nat} {l : List Int} (ho : Own w B e k a c l) (hg : w.grownBy w' (Value.slice a l.length c).ownBlock) (hB : B ≤ w.heap.size) : Below B w w' :=
  (Below.refl _ _).grown hg hB (fun k hk => (ho.lt k hk).1)

theorem or_128 (m : Nat) : bits .or .u8 ((m : Int) % 128) 128 = ((m % 128 + 128 : Nat) : Int) := by
  rw [show (m : Int) % 128 = ((m % 128 : Nat) : Int) by omega, show (128 : Int) = ((128 : Nat) : Int) from rfl, u8_or_nat _ _ (by omega) (by omega), Nat.or_comm, nat_join 7 128 (m % 128) (by decide) (by omega)]
  congr 1
  omega

theorem extend_any (B : Nat) (a : Option Addr) (c : Nat) (l : List Int) (n : Int) (w : World) (h : Own w B 5 .u8 a c l) (hl : l.length ≤ 1099511627776) (hB : B ≤ w.heap.size) :
    Calls Try.prog 137 #[.slice a l.length c, .int .i64 n] w (Gave w B 5 .u8 (l ++ enc n)) := by
  by_cases hn : 0 ≤ n ∧ n ≤ 1000000000000
  · obtain ⟨h0, h1⟩ := hn
    have hin : L1.inB n 0 1000000000000 = true := L1.inB_true.mpr ⟨h0, h1⟩
    obtain ⟨i0, hi, hz0, hz1, hz2⟩ := infoOf _ _ _ _ info8
    obtain ⟨m0, rfl⟩ : ∃ m : Nat, n = m := ⟨n.toNat, by omega⟩
    have HE := Lib.hid (enc_in h0 h1)
    have HL := Lib.hid (enc_len m0)
    have H := Lib.hid h
    clear h
    go_enter Try.func137, Try.ntmps137
    go_wp2_with (go_at_call 76; refine (L1.inRange_any _ _ _ _).mono ?_; rw [hin]; rintro e w' ⟨rfl, rfl⟩)
    go_loopw [0, 1] (fun s v wr => ∃ (m : Nat) (a1 : Option Addr) (c1 : Nat) (l1 : List Int) (n1 : Nat), s = .slice a1 n1 c1 ∧ v = .int .i64 m ∧ m ≤ 1000000000000 ∧ n1 ≤ 1099511627790 ∧ Hid (Own wr B 5 .u8 a1 c1 l1 ∧ Below B w wr ∧ l1 ++ uv m = l ++ enc m0 ∧ n1 = l1.length)) (fun _ v _ => (intOf v).toNat)
    case atStart => exact ⟨m0, a, c, l, l.length, rfl, rfl, by omega, by omega, H.out, Below.refl _ _, by rw [HE.out]; rfl, rfl⟩
    case round =>
      obtain ⟨m, a1, c1, l1, n1, rfl, rfl, hm, hn1, hrel⟩ := hrel
      by_cases hlt : m < 128
      · have hc : ¬ (128 : Int) ≤ m := by omega
        go_wp2_with (at_builtin; refine wpList_append_src _ rfl _ _ 22 rfl B 5 i0 (.int .u8 0) 1 Try.underlying22 hi hz0 hz1 hz2 rfl .u8 a1 n1 c1 l1 rfl hrel.out.2.2.2 (own_alloc hrel.out.1 _) _ _ 1 1 [_] rfl rfl (reads_one _ _ _ _) (by have := hrel.out.2.2.2; simp [maxLen]; omega) (by have := hrel.out.2.2.2; simp; omega) (Nat.le_trans hB (Nat.le_trans hrel.out.2.1.size (by simp))) ?_; intro a2 c2 w2 ho2 hg2)
        go_ret
        obtain ⟨h1, h2, h3, h4⟩ := hrel.out
        refine Gave.mk ?_ (l := l ++ enc m0) ?_ ?_
        · rw [← h3, uv_small hlt]; simp
        · rw [← h3, uv_small hlt]; exact ho2
        · have hb1 := below_alloc h2 (.cells #[.int .u8 m] 5) hB
          exact hb1.trans (below_own (own_alloc h1 _) hg2 (Nat.le_trans hB hb1.size))
      · have hc : (128 : Int) ≤ m := by omega
        go_wp2_with (at_builtin; refine wpList_append_src _ rfl _ _ 22 rfl B 5 i0 (.int .u8 0) 1 Try.underlying22 hi hz0 hz1 hz2 rfl .u8 a1 n1 c1 l1 rfl hrel.out.2.2.2 (own_alloc hrel.out.1 _) _ _ 1 1 [_] rfl rfl (reads_one _ _ _ _) (by have := hrel.out.2.2.2; simp [maxLen]; omega) (by have := hrel.out.2.2.2; simp; omega) (Nat.le_trans hB (Nat.le_trans hrel.out.2.1.size (by simp))) ?_; intro a2 c2 w2 ho2 hg2)
        obtain ⟨h1, h2, h3, h4⟩ := hrel.out
        have hb1 := below_alloc h2 (.cells #[.int .u8 (bits .or .u8 ((m : Int) % 128) 128)] 5) hB
        have hb2 := hb1.trans (below_own (own_alloc h1 _) hg2 (Nat.le_trans hB hb1.size))
        have hle : l1.length + (uv m).length = l.length + (enc m0).length := by rw [← List.length_append, h3, List.length_append]
        have hp := uv_len_pos m
        have he := HL.out
        rw [or_128] at ho2
        have HH := Lib.hid (And.intro ho2 (And.intro hb2 h3))
        clear ho2 hg2 hb1 hb2 h1 h2 h3 h4
        go_roundw
        case rel => exact ⟨m / 128, a2, c2, _, l1.length + 1, rfl, by go_num, by omega, by omega, And.intro HH.out.1 (And.intro HH.out.2.1 (And.intro (by rw [List.append_assoc, ← HH.out.2.2, uv_big hlt]; rfl) (by simp)))⟩
        case measure => simp [intOf]; omega
  · have hout : L1.inB n 0 1000000000000 = false := L1.inB_false.mpr hn
    have HE := Lib.hid (enc_out hn)
    have H := Lib.hid h
    clear h hn
    go_enter Try.func137, Try.ntmps137
    go_wp2_with (go_at_call 76; refine (L1.inRange_any _ _ _ _).mono ?_; rw [hout]; rintro e w' ⟨rfl, rfl⟩)
    go_ret
    refine Gave.mk ?_ ?_ (Below.refl _ _)
    · rw [HE.out, List.append_nil]
    · rw [HE.out, List.append_nil]; exact H.out

theorem take_any (a : Option Addr) (c : Nat) (l : List Int) (s t : Nat) (w : World) (hr : Reads w w.heap.size a (ints .u8 l)) (hc : l.length ≤ c) (hl : l.length ≤ 1099511627776) (hst : s ≤ t) (ht : t ≤ l.length) :
    Calls Try.prog 138 #[.slice a l.length c, .int .i64 s, .int .i64 t] w (Gave w w.heap.size 5 .u8 ((l.drop s).take (t - s))) := by
  obtain ⟨i0, hi, hz0, hz1, hz2⟩ := infoOf _ _ _ _ info8
  obtain ⟨n, hn⟩ : ∃ n, n = l.length := ⟨_, rfl⟩
  rw [← hn] at ht hl hc ⊢
  have hp := (hr.below (below_alloc (Below.refl _ _) (.cells #[] 5) (Nat.le_refl _))).partInts s t t hst (by omega) (Nat.le_refl _)
  have hlen : ((l.drop s).take (t - s)).length = t - s := by simp; omega
  obtain ⟨m, hm⟩ : ∃ m, m = (l.drop s).take (t - s) := ⟨_, rfl⟩
  rw [← hm] at hp hlen ⊢
  have HP := Lib.hid (And.intro hp hlen)
  clear hr hn hm hp hlen
  go_enter Try.func138, Try.ntmps138
  go_wp2_with (at_builtin; refine wpList_append_src _ rfl _ _ 22 rfl w.heap.size 5 i0 (.int .u8 0) 1 Try.underlying22 hi hz0 hz1 hz2 rfl .u8 _ _ _ [] rfl rfl (Own.empty w 5 .u8 (Nat.le_refl _)) w.heap.size _ _ _ m rfl HP.out.2.symm HP.out.1 (by have := HP.out.2; simp [maxLen]; omega) (by have := HP.out.2; simp; omega) (by simp) ?_; intro a2 c2 w2 ho2 hg2)
  all_goals
    go_ret
    refine Gave.mk (by simp) ho2 ?_
    exact (below_alloc (Below.refl _ _) _ (Nat.le_refl _)).trans (below_own (Own.empty w 5 .u8 (Nat.le_refl _)) hg2 (by simp))

theorem implAppendUvarint_any (a : Option Addr) (c : Nat) (l : List Int) (n : Int) (w : World) (hr : Reads w w.heap.size a (ints .u8 l)) (hc : l.length ≤ c) (hl : l.length ≤ 1000000000000) :
    Calls Try.prog 122 #[.slice a l.length c, .int .i64 n] w (Gave w w.heap.size 5 .u8 (l ++ enc n)) := by
  have H1 := Lib.hid (take_any a c l 0 l.length w hr hc (by omega) (by omega) (by omega))
  have e0 : (l.drop 0).take (l.length - 0) = l := by simp
  rw [e0] at H1
  have H2 := fun (a1 : Option Addr) (c1 : Nat) (w1 : World) (h : Own w1 w.heap.size 5 .u8 a1 c1 l) (hs : w.heap.size ≤ w1.heap.size) => extend_any w.heap.size a1 c1 l n w1 h (by omega) hs
  have H3 := Lib.hid H2
  clear H2 hr hc e0
  go_enter Try.func122, Try.ntmps122
  go_wp2_with (first | (go_at_call 138; refine H1.out.mono ?_; rintro e w1 ⟨a1, c1, rfl, ho1, hb1⟩) | (go_at_call 137; refine (H3.out _ _ _ ho1 hb1.size).mono ?_; rintro e w2 ⟨a2, c2, rfl, ho2, hb2⟩))
  go_ret
  exact Gave.mk (by simp) ho2 (hb1.trans hb2)

theorem and_127 (m : Nat) (hm : m < 18446744073709551616) : bits .and .i64 (m : Int) 127 = ((m % 128 : Nat) : Int) := by
  show IntKind.i64.wrap ((BitVec.ofInt 64 (m : Int) &&& BitVec.ofInt 64 127).toNat : Nat) = _
  rw [BitVec.ofInt_natCast, show (127 : Int) = ((127 : Nat) : Int) from rfl, BitVec.ofInt_natCast, BitVec.toNat_and, BitVec.toNat_ofNat, BitVec.toNat_ofNat, Nat.mod_eq_of_lt (by omega), show 127 % 2 ^ 64 = 127 from rfl, nat_mask7, IntKind.wrap_i64]
  omega
theorem or_128i (m : Nat) : bits .or .i64 ((m : Int) % 128) 128 % 256 = ((m % 128 + 128 : Nat) : Int) := by
  rw [show (m : Int) % 128 = ((m % 128 : Nat) : Int) by omega]
  show IntKind.i64.wrap ((BitVec.ofInt 64 ((m % 128 : Nat) : Int) ||| BitVec.ofInt 64 128).toNat : Nat) % 256 = _
  rw [BitVec.ofInt_natCast, show (128 : Int) = ((128 : Nat) : Int) from rfl, BitVec.ofInt_natCast, BitVec.toNat_or, BitVec.toNat_ofNat, BitVec.toNat_ofNat, Nat.mod_eq_of_lt (by omega), show 128 % 2 ^ 64 = 128 from rfl, Nat.or_comm, nat_join 7 128 (m % 128) (by decide) (by omega), IntKind.wrap_i64]
  omega

theorem specAppendUvarint_any (a : Option Addr) (c : Nat) (l : List Int) (n : Int) (w : World) (hr : Reads w w.heap.size a (ints .u8 l)) (hl : l.length ≤ 1000000000000) :
    Calls Try.prog 87 #[.slice a l.length c, .int .i64 n] w (Gave w w.heap.size 5 .u8 (l ++ enc n)) := by
  obtain ⟨i0, hi, hz0, hz1, hz2⟩ := infoOf _ _ _ _ info8
  have H := Lib.hid (hr.below (below_alloc (Below.refl _ _) (.cells #[] 5) (Nat.le_refl _)))
  have HB := Lib.hid (Nat.le_refl w.heap.size)
  clear hr
  by_cases hn : 0 ≤ n ∧ n ≤ 1000000000000
  · obtain ⟨h0, h1⟩ := hn
    have hin : L1.inB n 0 1000000000000 = true := L1.inB_true.mpr ⟨h0, h1⟩
    obtain ⟨m0, rfl⟩ : ∃ m : Nat, n = m := ⟨n.toNat, by omega⟩
    have HE := Lib.hid (enc_in h0 h1)
    have HL := Lib.hid (enc_len m0)
    go_enter Try.func87, Try.ntmps87
    go_wp2_with (first | (at_builtin; refine wpList_append_src _ rfl _ _ 22 rfl w.heap.size 5 i0 (.int .u8 0) 1 Try.underlying22 hi hz0 hz1 hz2 rfl .u8 _ _ _ [] rfl rfl (Own.empty w 5 .u8 (Nat.le_refl _)) w.heap.size _ _ _ l rfl rfl H.out (by simp [maxLen]; omega) (by simp; omega) (by simp) ?_; intro a1 c1 w1 ho1 hg1) | (go_at_call 69; refine (L1.l1In_any _ _ _ _).mono ?_; rw [hin]; rintro e w' ⟨rfl, rfl⟩))
    have hb1 := (below_alloc (Below.refl _ _) (.cells #[] 5) (Nat.le_refl _)).trans (below_own (Own.empty w 5 .u8 (Nat.le_refl _)) hg1 (by simp))
    have H1 := Lib.hid (And.intro ho1 hb1)
    clear ho1 hb1 hg1
    go_loopw [1, 5] (fun v s wr => ∃ (m : Nat) (a1 : Option Addr) (c1 : Nat) (l1 : List Int) (n1 : Nat), s = .slice a1 n1 c1 ∧ v = .int .i64 m ∧ m ≤ 1000000000000 ∧ n1 ≤ 1099511627790 ∧ Hid (Own wr w.heap.size 5 .u8 a1 c1 l1 ∧ Below w.heap.size w wr ∧ l1 ++ uv m = l ++ enc m0 ∧ n1 = l1.length)) (fun v _ _ => (intOf v).toNat)
    case atStart => exact ⟨m0, a1, c1, [] ++ l, _, rfl, rfl, by omega, by omega, H1.out.1, H1.out.2, by rw [HE.out]; rfl, by simp⟩
    case round =>
      obtain ⟨m, a1, c1, l1, n1, rfl, rfl, hm, hn1, hrel⟩ := hrel
      by_cases hlt : m < 128
      · have hc : ¬ (127 : Int) < m := by omega
        go_wp2_with (at_builtin; refine wpList_append_src _ rfl _ _ 22 rfl w.heap.size 5 i0 (.int .u8 0) 1 Try.underlying22 hi hz0 hz1 hz2 rfl .u8 a1 n1 c1 l1 rfl hrel.out.2.2.2 (own_alloc hrel.out.1 _) _ _ 1 1 [_] rfl rfl (reads_one _ _ _ _) (by have := hrel.out.2.2.2; simp [maxLen]; omega) (by have := hrel.out.2.2.2; simp; omega) (Nat.le_trans hrel.out.2.1.size (by simp)) ?_; intro a2 c2 w2 ho2 hg2)
        go_ret
        obtain ⟨h1, h2, h3, h4⟩ := hrel.out
        refine Gave.mk ?_ (l := l ++ enc m0) ?_ ?_
        · rw [← h3, uv_small hlt]; simp
        · rw [← h3, uv_small hlt]; exact ho2
        · have hb1 := below_alloc h2 (.cells #[.int .u8 m] 5) HB.out
          exact hb1.trans (below_own (own_alloc h1 _) hg2 hb1.size)
      · have hc : (127 : Int) < m := by omega
        have e1 := and_127 m (by omega)
        go_wp2_with (at_builtin; refine wpList_append_src _ rfl _ _ 22 rfl w.heap.size 5 i0 (.int .u8 0) 1 Try.underlying22 hi hz0 hz1 hz2 rfl .u8 a1 n1 c1 l1 rfl hrel.out.2.2.2 (own_alloc hrel.out.1 _) _ _ 1 1 [_] rfl rfl (reads_one _ _ _ _) (by have := hrel.out.2.2.2; simp [maxLen]; omega) (by have := hrel.out.2.2.2; simp; omega) (Nat.le_trans hrel.out.2.1.size (by simp)) ?_; intro a2 c2 w2 ho2 hg2)
        obtain ⟨h1, h2, h3, h4⟩ := hrel.out
        have hb1 := below_alloc h2 (.cells #[.int .u8 (bits .or .i64 ((m : Int) % 128) 128 % 256)] 5) HB.out
        have hb2 := hb1.trans (below_own (own_alloc h1 _) hg2 hb1.size)
        have hle : l1.length + (uv m).length = l.length + (enc m0).length := by rw [← List.length_append, h3, List.length_append]
        have hp := uv_len_pos m
        have he := HL.out
        rw [or_128i] at ho2
        have HH := Lib.hid (And.intro ho2 (And.intro hb2 h3))
        clear ho2 hg2 hb1 hb2 h1 h2 h3 h4 e1
        go_roundw
        case rel => exact ⟨m / 128, a2, c2, _, l1.length + 1, rfl, by go_num, by omega, by omega, And.intro HH.out.1 (And.intro HH.out.2.1 (And.intro (by rw [List.append_assoc, ← HH.out.2.2, uv_big hlt]; rfl) (by simp)))⟩
        case measure => simp [intOf]; omega
  · have hout : L1.inB n 0 1000000000000 = false := L1.inB_false.mpr hn
    have HE := Lib.hid (enc_out hn)
    clear hn
    go_enter Try.func87, Try.ntmps87
    go_wp2_with (first | (at_builtin; refine wpList_append_src _ rfl _ _ 22 rfl w.heap.size 5 i0 (.int .u8 0) 1 Try.underlying22 hi hz0 hz1 hz2 rfl .u8 _ _ _ [] rfl rfl (Own.empty w 5 .u8 (Nat.le_refl _)) w.heap.size _ _ _ l rfl rfl H.out (by simp [maxLen]; omega) (by simp; omega) (by simp) ?_; intro a1 c1 w1 ho1 hg1) | (go_at_call 69; refine (L1.l1In_any _ _ _ _).mono ?_; rw [hout]; rintro e w' ⟨rfl, rfl⟩))
    go_ret
    have hb1 := (below_alloc (Below.refl _ _) (.cells #[] 5) (Nat.le_refl _)).trans (below_own (Own.empty w 5 .u8 (Nat.le_refl _)) hg1 (by simp))
    refine Gave.mk ?_ ?_ hb1
    · rw [HE.out]; simp
    · rw [HE.out, List.append_nil]; exact ho1

theorem implAppendBytes_any (a a2 : Option Addr) (c c2 : Nat) (l m : List Int) (w : World) (hr : Reads w w.heap.size a (ints .u8 l)) (hr2 : Reads w w.heap.size a2 (ints .u8 m)) (hc : l.length ≤ c) (hl : l.length ≤ 1000000000) (hm : m.length ≤ 1000000000) :
    Calls Try.prog 123 #[.slice a l.length c, .slice a2 m.length c2] w (Gave w w.heap.size 5 .u8 (l ++ enc m.length ++ m)) := by
  obtain ⟨i0, hi, hz0, hz1, hz2⟩ := infoOf _ _ _ _ info8
  have H1 := Lib.hid (implAppendUvarint_any a c l m.length w hr hc (by omega))
  have HL := Lib.hid (enc_len m.length)
  have H2 := Lib.hid hr2
  clear hr hr2 hc
  go_enter Try.func123, Try.ntmps123
  go_wp2_with (first | (go_at_call 122; refine H1.out.mono ?_; rintro e w1 ⟨a1, c1, rfl, ho1, hb1⟩) | (at_builtin; refine wpList_append_src _ rfl _ _ 22 rfl w.heap.size 5 i0 (.int .u8 0) 1 Try.underlying22 hi hz0 hz1 hz2 rfl .u8 _ _ _ (l ++ enc m.length) rfl (by simp) ho1 w.heap.size _ _ _ m rfl rfl (H2.out.below hb1) (by have := HL.out; simp [maxLen]; omega) (by have := HL.out; simp; omega) hb1.size ?_; intro a3 c3 w3 ho3 hg3))
  go_ret
  exact Gave.mk (by simp [Nat.add_assoc]) ho3 (hb1.trans (below_own ho1 hg3 hb1.size))
theorem specAppendBytes_any (a a2 : Option Addr) (c c2 : Nat) (l m : List Int) (w : World) (hr : Reads w w.heap.size a (ints .u8 l)) (hr2 : Reads w w.heap.size a2 (ints .u8 m)) (hc : l.length ≤ c) (hl : l.length ≤ 1000000000) (hm : m.length ≤ 1000000000) :
    Calls Try.prog 88 #[.slice a l.length c, .slice a2 m.length c2] w (Gave w w.heap.size 5 .u8 (l ++ enc m.length ++ m)) := by
  obtain ⟨i0, hi, hz0, hz1, hz2⟩ := infoOf _ _ _ _ info8
  have H1 := Lib.hid (specAppendUvarint_any a c l m.length w hr  (by omega))
  have HL := Lib.hid (enc_len m.length)
  have H2 := Lib.hid hr2
  clear hr hr2 hc
  go_enter Try.func88, Try.ntmps88
  go_wp2_with (first | (go_at_call 87; refine H1.out.mono ?_; rintro e w1 ⟨a1, c1, rfl, ho1, hb1⟩) | (at_builtin; refine wpList_append_src _ rfl _ _ 22 rfl w.heap.size 5 i0 (.int .u8 0) 1 Try.underlying22 hi hz0 hz1 hz2 rfl .u8 _ _ _ (l ++ enc m.length) rfl (by simp) ho1 w.heap.size _ _ _ m rfl rfl (H2.out.below hb1) (by have := HL.out; simp [maxLen]; omega) (by have := HL.out; simp; omega) hb1.size ?_; intro a3 c3 w3 ho3 hg3))
  go_ret
  exact Gave.mk (by simp [Nat.add_assoc]) ho3 (hb1.trans (below_own ho1 hg3 hb1.size))

theorem specStep_any (B : Nat) (a : Option Addr) (c : Nat) (l : List Int) (n : Int) (w : World) (h : Own w B 5 .u8 a c l) (hl : l.length ≤ 1000000000000) (hB : B ≤ w.heap.size) :
    Calls Try.prog 87 #[.slice a l.length c, .int .i64 n] w (Gave w B 5 .u8 (l ++ enc n)) :=
  (specAppendUvarint_any a c l n w h.reads hl).mono fun _ _ ⟨a1, c1, he, ho, hb⟩ => ⟨a1, c1, he, ho.base hB, hb.mono hB⟩
end Go.Proofs.Ytkfejjoehgipmaa.L2

/-
  The contracts of chapter 2's readers: ReadUvarint of the specification and of the program. Conditions: the bytes read as a list of numbers from 0 to 255, of at most 2^40.
-/
namespace Go.Proofs.Ytkfejjoehgipmaa.L2
set_option maxRecDepth 100000
open Go.ChangeShapes Go.WideShapes Go.ChangeAt Go.RowKit Mem Sl Ex
set_option linter.unusedVariables false

def Byt (l : List Int) : Prop := ∀ x ∈ l, 0 ≤ x ∧ x ≤ 255
def RdE (l : List Int) (off : Int) : Ending := .returned (.tuple #[.int .i64 (rdN l off), .int .i64 (rdE l off), .bool (rdB l off)])
theorem RdE.none {l : List Int} {off : Int} (h : rd l off = none) : RdE l off = .returned (.tuple #[.int .i64 0, .int .i64 0, .bool false]) := by
  unfold RdE rdN rdE rdB
  rw [h]; rfl
theorem RdE.some {l : List Int} {off v e : Int} {m : Nat} (h : rd l off = some (v, m)) (he : off + m = e) : RdE l off = .returned (.tuple #[.int .i64 v, .int .i64 e, .bool true]) := by
  unfold RdE
  rw [rdN_of h, rdE_of h, rdB_of h, he]
def Mid (l : List Int) (o k : Nat) (v : Int) : Prop := 0 ≤ v ∧ v < 128 ^ k ∧ rd l o = rdAux k v (l.drop (o + k))
theorem Mid.start (l : List Int) (o : Nat) : Mid l o 0 0 := ⟨by omega, by decide, by
  unfold rd
  rw [if_pos (by omega)]
  simp⟩
theorem Mid.ends {l : List Int} {o k : Nat} {v : Int} (h : Mid l o k v) (hk : l.length ≤ o + k) : rd l o = none := by
  rw [h.2.2, List.drop_eq_nil_of_le hk]; rfl
theorem Mid.six {l : List Int} {o : Nat} {v : Int} (h : Mid l o 6 v) : rd l o = none := by
  rw [h.2.2]
  cases l.drop (o + 6) with
  | nil => rfl
  | cons c s => simp [rdAux]
theorem Mid.cons {l : List Int} {o k : Nat} {v : Int} (h : Mid l o k v) (hk : o + k < l.length) (h6 : k < 6) :
    rd l o = if l[o + k] < 128 then (if (l[o + k] = 0 ∧ 0 < k) ∨ 1000000000000 < v + l[o + k] % 128 * 128 ^ k then none else some (v + l[o + k] % 128 * 128 ^ k, k + 1)) else rdAux (k + 1) (v + l[o + k] % 128 * 128 ^ k) (l.drop (o + (k + 1))) := by
  rw [h.2.2, List.drop_eq_getElem_cons hk, rdAux, if_neg (by omega)]
  rfl
theorem Mid.next {l : List Int} {o k : Nat} {v : Int} (h : Mid l o k v) (hk : o + k < l.length) (h6 : k < 6) (hc : ¬ l[o + k] < 128) : Mid l o (k + 1) (v + l[o + k] % 128 * 128 ^ k) := by
  have hp : (0 : Int) < 128 ^ k := Int.pow_pos (by decide)
  have h1 := Int.mul_nonneg (show 0 ≤ l[o + k] % 128 by omega) (Int.le_of_lt hp)
  have h2 : l[o + k] % 128 * 128 ^ k ≤ 127 * 128 ^ k := Int.mul_le_mul_of_nonneg_right (by omega) (Int.le_of_lt hp)
  obtain ⟨h3, h4, _⟩ := h
  refine ⟨by omega, ?_, ?_⟩
  · rw [Int.pow_succ]
    generalize (128 : Int) ^ k = p at *
    omega
  · rw [Mid.cons ⟨h3, h4, by assumption⟩ hk h6, if_neg hc]

end Go.Proofs.Ytkfejjoehgipmaa.L2

/-
  The contracts of chapter 2's ReadBytes, DecodeInts, EqualBytes and of chapter 3's EqualInts, specification and program. Conditions: the bytes read as a list of numbers from 0 to 255, of at most 2^40.
-/
namespace Go.Proofs.Ytkfejjoehgipmaa.L2
set_option maxRecDepth 100000
open Go.ChangeShapes Go.WideShapes Go.ChangeAt Go.RowKit Mem Sl Ex
set_option linter.unusedVariables false

def rbB (l : List Int) (off most : Int) : Bool := rdB l off && decide (rdN l off ≤ most) && decide (rdN l off ≤ (l.length : Int) - rdE l off)
def rbL (l : List Int) (off most : Int) : List Int := if rbB l off most = true then (l.drop (rdE l off).toNat).take (rdN l off).toNat else []
def rbE (l : List Int) (off most : Int) : Int := if rbB l off most = true then rdE l off + rdN l off else 0
def GaveT (w : World) (B : Nat) (e : TypeId) (k : IntKind) (l : List Int) (v : Int) (b : Bool) (en : Ending) (w' : World) : Prop := ∃ a c, en = .returned (.tuple #[.slice a l.length c, .int .i64 v, .bool b]) ∧ Own w' B e k a c l ∧ Below B w w'
theorem GaveT.mk {w w' : World} {B : Nat} {e : TypeId} {k : IntKind} {l : List Int} {v v' : Int} {b b' : Bool} {a : Option Addr} {c n : Nat} (hn : n = l.length) (hv : v' = v) (hb : b' = b) (ho : Own w' B e k a c l) (hw : Below B w w') :
    GaveT w B e k l v b (.returned (.tuple #[.slice a n c, .int .i64 v', .bool b'])) w' := ⟨a, c, by rw [hn, hv, hb], ho, hw⟩



/-! ### lists of numbers -/
def dc (l : List Int) : Int → Nat → Option (List Int × Int)
  | off, 0 => some ([], off)
  | off, n + 1 => match rd l off with
    | none => none
    | some (v, m) => (dc l (off + m) n).map fun p => (v :: p.1, p.2)
def DcMid (l : List Int) (off : Int) (n k : Nat) (acc : List Int) (o : Int) : Prop := acc.length = k ∧ dc l off n = (dc l o (n - k)).map fun p => (acc ++ p.1, p.2)
theorem DcMid.start (l : List Int) (off : Int) (n : Nat) : DcMid l off n 0 [] off := ⟨rfl, by simp⟩
theorem DcMid.none {l : List Int} {off : Int} {n k : Nat} {acc : List Int} {o : Int} (h : DcMid l off n k acc o) (hk : k < n) (hr : rdB l o = false) : dc l off n = none := by
  rw [h.2, show n - k = (n - (k + 1)) + 1 by omega, dc]
  have e : rd l o = Option.none := by
    unfold rdB at hr
    cases hh : rd l o with
    | none => rfl
    | some p => rw [hh] at hr; cases hr
  rw [e]
  rfl
theorem DcMid.next {l : List Int} {off : Int} {n k : Nat} {acc : List Int} {o : Int} (h : DcMid l off n k acc o) (hk : k < n) (hr : rdB l o = true) : DcMid l off n (k + 1) (acc ++ [rdN l o]) (rdE l o) := by
  obtain ⟨h1, h2⟩ := rd_some hr
  refine ⟨by simp [h.1], ?_⟩
  rw [h.2, show n - k = (n - (k + 1)) + 1 by omega, dc, h1]
  simp only [Option.map_map]
  rw [show o + ((rdE l o - o).toNat : Int) = rdE l o by omega]
  congr 1
  funext p
  simp
/-! ### equality -/
end Go.Proofs.Ytkfejjoehgipmaa.L2

/-
  The exact laws' steps over several owned things: an argument opens as a list of numbers; a copy, a comparison of two owned lists, marks and the look at the marks. No condition but a length below 2^40 where numbers are counted.
-/
namespace Go.Proofs.Ytkfejjoehgipmaa.Law
set_option maxRecDepth 100000
open Go.ChangeShapes Go.WideShapes Go.ChangeAt Go.RowKit Mem Sl Ex

section
variable {H : Type} {enc : TypeId × Value → H} {P : Program}
theorem open_list {W : World} {t e : TypeId} {k : IntKind} (ht : P.underlying t = some (.slice e)) (he : P.underlying e = some (.int k)) (hc : P.cellsOf e = 1) {b0 : Nat} {v : Value} {d : DataW H} {ps : List MemPlace}
    (hval : Value.okWide P W .any b0 t v) (h0 : DataW.Trod enc P W 0 (fun _ => true) true t v d ps) (hlt : ∀ x ∈ ps, x.block < W.heap.size) :
    ∃ (a : Option Addr) (l : List Int) (cap : Nat), v = .slice a l.length cap ∧ l.length ≤ cap ∧ cap ≤ 9223372036854775807 ∧ Reads W W.heap.size a (ints k l) ∧ ∀ n ∈ l, (Lit.int k n).wf = true := by
  obtain ⟨a0, len, cap, rfl⟩ := okWide_slice ht hval
  obtain ⟨fuel, hf⟩ := h0
  rcases open_ints ht he hc hf with ⟨hcs, hx⟩ | ⟨a, len', cap', zs, hcs, _, hl, hm, hz, hx, hcell, hwz⟩
  · simp [Value.cells] at hcs
    obtain ⟨rfl, rfl, rfl⟩ := hcs
    exact ⟨none, [], 0, rfl, Nat.le_refl _, by omega, Reads.nil, fun n hn => by simp at hn⟩
  · simp [Value.cells] at hcs
    obtain ⟨rfl, rfl, rfl⟩ := hcs
    simp only [Prod.mk.injEq] at hx
    obtain ⟨rfl, rfl⟩ := hx
    simp at hz
    have hlen : (zs.take len).length = len := by simp; omega
    refine ⟨some a, zs.take len, cap, by rw [hlen], by omega, by unfold maxLen at hm; omega, fun j hj => ?_, fun n hn => hwz n (List.mem_of_mem_take hn)⟩
    simp at hj
    refine ⟨a, rfl, ?_, ?_⟩
    · have := hlt (MemPlace.cell a.block (a.off + 0)) ?_
      · simpa [MemPlace.block] using this
      · exact List.mem_map.2 ⟨0, List.mem_range.2 (by omega), rfl⟩
    · rw [hcell j (by omega), ints_get _ _ _ (by simp; omega)]
      simp [List.getD_eq_getElem?_getD, List.getElem?_eq_getElem (show j < zs.length by omega)]
theorem wf_u8 {n : Int} (h : (Lit.int .u8 n).wf = true) : 0 ≤ n ∧ n ≤ 255 := by
  simpa [Lit.wf, IntKind.min, IntKind.max, IntKind.signed, IntKind.bits] using h
theorem wf_i64 {n : Int} (h : (Lit.int .i64 n).wf = true) : -9223372036854775808 ≤ n ∧ n ≤ 9223372036854775807 := by
  simpa [Lit.wf, IntKind.min, IntKind.max, IntKind.signed, IntKind.bits] using h
end

theorem Sep.drew {W w w' : World} {rs : List Res} (h : Sep W w rs) (hd : Drew w w') : Sep W w' rs := h.keep (hd.below _)

end Go.Proofs.Ytkfejjoehgipmaa.Law

/-
  The contracts of the specification's draws of chapter 1 (l1New, l1Byte, l1Below and what rests on them): which numbers and strings they can give, and that they write into nothing but their cursor. No condition beyond a cursor of the call's own.
-/
namespace Go.Proofs.Ytkfejjoehgipmaa.Draw
set_option maxRecDepth 100000
open Go.ChangeShapes Go.WideShapes Go.ChangeAt Go.RowKit Mem

theorem l1Byte_any (B c : Nat) (w : World) (hcur : Cur B w c) :
    Calls Try.prog 131 #[.pointer (some ⟨c, 0, none⟩)] w (Drawn B c w fun n => 0 ≤ n ∧ n ≤ 255) := by
  obtain ⟨hB, a, len, cap, i, h, hrow, hi, hlen, hby⟩ := hcur
  have c0 := hrow.cell 0
  have c1 := hrow.cell 1
  have c2 := hrow.cell 2
  have f1 := hrow.free 1
  have f2 := hrow.free 2
  simp at c0 c1 c2
  obtain ⟨X, hX⟩ : ∃ X : Int, X = wrap64 (wrap64 (h * 6364136223846793005) + 1442695040888963407) := ⟨_, rfl⟩
  have HX := Lib.hid hX
  clear hX
  have r1 := hrow.put 2 (.int .i64 X)
  have g1 := grownBy_put w c 2 (.int .i64 X)
  go_enter Try.func131, Try.ntmps131
  go_wp2
  rw [← HX.out]
  clear c0 c1 c2 f1 f2 HX
  generalize w.setCell ⟨c, 2, none⟩ (.int .i64 X) = w1 at r1 g1 ⊢
  have c0 := r1.cell 0
  have c1 := r1.cell 1
  have c2 := r1.cell 2
  have f1 := r1.free 1
  simp at c0 c1 c2
  go_quiet (fail)
  go_wp2
  have hx := and_mask (bits .xor .i64 (X / 8589934592) (X / 140737488355328)) 255 (by decide)
  generalize bits .and .i64 (bits .xor .i64 (X / 8589934592) (X / 140737488355328)) 255 = x at hx ⊢
  have g2 := grownBy_step g1 (grownBy_draws w1 nq (some c))
  replace r1 := r1.draws nq
  generalize w1.drewN _ = w2 at r1 g2 ⊢
  clear c0 c1 c2 f1 g1
  have c0 := r1.cell 0
  have c1 := r1.cell 1
  have f1 := r1.free 1
  simp at c0 c1
  obtain ⟨hx0, hx1⟩ := hx
  by_cases hlt : i < len
  · go_quiet (fail)
    go_wp2
    have g3 := grownBy_step g2 (grownBy_draws w2 nq (some c))
    replace r1 := r1.draws nq
    have hBw : B ≤ w.heap.size := Nat.le_trans hB (Nat.le_of_lt hrow.inside)
    have hby2 := hby.below (below_of g3 hBw (fun k hk => by cases hk; exact hB))
    generalize w2.drewN _ = w3 at r1 g3 hby2 ⊢
    clear c0 c1 f1 g2
    have c0 := r1.cell 0
    have c1 := r1.cell 1
    have f1 := r1.free 1
    simp at c0 c1
    obtain ⟨ad, y, rfl, -, hcy, hy0, hy1⟩ := hby2 i hlt
    go_quiet (fail)
    have HX := Lib.hid (and_mask (x + y) 255 (by decide))
    have g4 := grownBy_step (grownBy_step g3 (grownBy_draws w3 nq (some c))) (grownBy_put (w3.drewN nq) c 1 (.int .i64 (↑i + 1)))
    have r2 := (r1.draws nq).put 1 (.int .i64 (↑i + 1))
    have G := Lib.hid (And.intro g4 r2)
    clear g4 r2
    go_wp2
    go_ret
    obtain ⟨g4, r2⟩ := G.out
    exact ⟨_, rfl, HX.out, ⟨hB, _, len, cap, i + 1, X, by simpa using r2, by omega, hlen, hby.below (below_of g4 hBw (fun k hk => by cases hk; exact hB))⟩, g4⟩
  · go_quiet (fail)
    go_wp2
    go_ret
    have g4 := grownBy_step g2 (grownBy_draws w2 nq (some c))
    have hBw : B ≤ w.heap.size := Nat.le_trans hB (Nat.le_of_lt hrow.inside)
    exact ⟨_, rfl, ⟨hx0, hx1⟩, ⟨hB, a, len, cap, i, X, by simpa using r1.draws nq, hi, hlen, hby.below (below_of g4 hBw (fun k hk => by cases hk; exact hB))⟩, g4⟩

def On (B c : Nat) (w0 w : World) : Prop := Cur B w c ∧ w0.grownBy w (some c)
theorem On.start {B c : Nat} {w : World} (h : Cur B w c) : On B c w w := ⟨h, grownBy_refl w _⟩
theorem On.alloc {B c : Nat} {w0 w : World} (h : On B c w0 w) (o : Obj) : On B c w0 (w.alloc o) := by
  have hB : B ≤ w.heap.size := by
    obtain ⟨hc, a, len, cap, i, x, hr, _⟩ := h.1
    exact Nat.le_trans hc (Nat.le_of_lt hr.inside)
  exact ⟨h.1.grown (World.grownBy_alloc w o none) (by simp) (by simp) hB, grownBy_step h.2 (World.grownBy_alloc w o _)⟩
def Num (B c : Nat) (w0 : World) (P : Int → Prop) (e : Ending) (w' : World) : Prop := ∃ n, e = .returned (.int .i64 n) ∧ P n ∧ On B c w0 w'
theorem l1Byte_on {B c : Nat} {w0 w : World} (h : On B c w0 w) :
    Calls Try.prog 131 #[.pointer (some ⟨c, 0, none⟩)] w (Num B c w0 fun n => 0 ≤ n ∧ n ≤ 255) :=
  (l1Byte_any B c w h.1).mono fun _ _ ⟨n, he, hp, hc, hg⟩ => ⟨n, he, hp, hc, grownBy_step h.2 hg⟩

theorem l1Below_on {B c : Nat} {w0 w : World} (n : Int) (hn : 1 ≤ n) (hn2 : n ≤ 9223372036854775807) (h : On B c w0 w) :
    Calls Try.prog 106 #[.pointer (some ⟨c, 0, none⟩), .int .i64 n] w (Num B c w0 fun r => 0 ≤ r ∧ r < n) := by
  by_cases h256 : n ≤ 256
  · go_enter Try.func106, Try.ntmps106
    go_wp2_with (go_at_call 131; refine (l1Byte_on (by assumption)).mono ?_; rintro e w' ⟨x, rfl, ⟨hx0, hx1⟩, ho⟩)
    go_ret
    exact ⟨_, rfl, ⟨by first | exact Int.emod_nonneg _ (by omega) | exact Int.tmod_nonneg _ (by omega), by first | exact Int.emod_lt_of_pos _ (by omega) | exact Int.tmod_lt_of_pos _ (by omega)⟩, ho⟩
  · go_enter Try.func106, Try.ntmps106
    go_wp2_with (go_at_call 131; refine (l1Byte_on (by assumption)).mono ?_; rintro e w' ⟨x, rfl, ⟨hx0, hx1⟩, ho⟩)
    go_ret
    exact ⟨_, rfl, ⟨by first | exact Int.emod_nonneg _ (by omega) | exact Int.tmod_nonneg _ (by omega), by first | exact Int.emod_lt_of_pos _ (by omega) | exact Int.tmod_lt_of_pos _ (by omega)⟩, ho⟩

theorem l1Once_on {B c : Nat} {w0 w : World} (n : Int) (hn : 1 ≤ n) (hn2 : n ≤ 9223372036854775807) (h : On B c w0 w) :
    Calls Try.prog 102 #[.pointer (some ⟨c, 0, none⟩), .int .i64 n] w (fun e w' => ∃ b : Bool, e = .returned (.bool b) ∧ On B c w0 w') := by
  go_enter Try.func102, Try.ntmps102
  go_wp2_with (go_at_call 106; refine (l1Below_on _ (by assumption) (by assumption) (by assumption)).mono ?_; rintro e w' ⟨x, rfl, ⟨hx0, hx1⟩, ho⟩)
  go_ret
  exact ⟨_, rfl, ho⟩

def Ints (w : World) (P : Int → Prop) (b len : Nat) : Prop := ∀ j, j < len → ∃ v, w.cell? ⟨b, j, none⟩ = some (.int .i64 v) ∧ P v
theorem Ints.on {B c b len : Nat} {w0 w : World} {P : Int → Prop} (h : Ints w0 P b len) (ho : On B c w0 w) (hb : b < w0.heap.size) (hbc : b ≠ c) : Ints w P b len := fun j hj => by
  obtain ⟨v, hc, hp⟩ := h j hj
  exact ⟨v, by rw [World.cell?_of_block (ho.2.block b hb (by simpa using hbc))]; exact hc, hp⟩

theorem l1Int_on {B c : Nat} {w0 w : World} {P : Int → Prop} (b len : Nat) (h1 : 1 ≤ len) (h2 : len ≤ 1000) (hP : Ints w P b len) (hb : b < w.heap.size) (hbc : b ≠ c) (h : On B c w0 w) :
    Calls Try.prog 108 #[.pointer (some ⟨c, 0, none⟩), .slice (some ⟨b, 0, none⟩) len len] w (Num B c w0 P) := by
  go_enter Try.func108, Try.ntmps108
  go_wp2_with (go_at_call 106; refine (l1Below_on _ (by omega) (by omega) (On.start h.1)).mono ?_; rintro e w' ⟨x, rfl, ⟨hx0, hx1⟩, ho⟩; obtain ⟨v, hcv, hpv⟩ := hP.on ho hb hbc x.toNat (by omega))
  go_ret
  exact ⟨v, rfl, hpv, ho.1, grownBy_step h.2 ho.2⟩

def Strs (w : World) (P : ByteArray → Prop) (b len : Nat) : Prop := ∀ j, j < len → ∃ v, w.cell? ⟨b, j, none⟩ = some (.string v) ∧ P v
theorem Strs.on {B c b len : Nat} {w0 w : World} {P : ByteArray → Prop} (h : Strs w0 P b len) (ho : On B c w0 w) (hb : b < w0.heap.size) (hbc : b ≠ c) : Strs w P b len := fun j hj => by
  obtain ⟨v, hc, hp⟩ := h j hj
  exact ⟨v, by rw [World.cell?_of_block (ho.2.block b hb (by simpa using hbc))]; exact hc, hp⟩
def Str (B c : Nat) (w0 : World) (P : ByteArray → Prop) (e : Ending) (w' : World) : Prop := ∃ s, e = .returned (.string s) ∧ P s ∧ On B c w0 w'

theorem l1Str_on {B c : Nat} {w0 w : World} {P : ByteArray → Prop} (b len : Nat) (h1 : 1 ≤ len) (h2 : len ≤ 1000) (hP : Strs w P b len) (hb : b < w.heap.size) (hbc : b ≠ c) (h : On B c w0 w) :
    Calls Try.prog 107 #[.pointer (some ⟨c, 0, none⟩), .slice (some ⟨b, 0, none⟩) len len] w (Str B c w0 P) := by
  go_enter Try.func107, Try.ntmps107
  go_wp2_with (go_at_call 106; refine (l1Below_on _ (by omega) (by omega) (On.start h.1)).mono ?_; rintro e w' ⟨x, rfl, ⟨hx0, hx1⟩, ho⟩; obtain ⟨v, hcv, hpv⟩ := hP.on ho hb hbc x.toNat (by omega))
  go_ret
  exact ⟨v, rfl, hpv, ho.1, grownBy_step h.2 ho.2⟩

theorem ints_lit (w : World) (t : TypeId) (l : List Int) (P : Int → Prop) (hP : ∀ v ∈ l, P v) : Ints (w.alloc (.cells (l.map (Value.int .i64)).toArray t)) P w.heap.size l.length := fun j hj => by
  refine ⟨l[j], ?_, hP _ (List.getElem_mem hj)⟩
  rw [(Row.made w t _).cell]
  simp [hj]
theorem strs_lit (w : World) (t : TypeId) (l : List ByteArray) (P : ByteArray → Prop) (hP : ∀ v ∈ l, P v) : Strs (w.alloc (.cells (l.map Value.string).toArray t)) P w.heap.size l.length := fun j hj => by
  refine ⟨l[j], ?_, hP _ (List.getElem_mem hj)⟩
  rw [(Row.made w t _).cell]
  simp [hj]
theorem On.lt {B c : Nat} {w0 w : World} (h : On B c w0 w) : c < w.heap.size := by
  obtain ⟨hc, a, len, cap, i, x, hr, _⟩ := h.1
  exact hr.inside


def Made (B : Nat) (w : World) (e : Ending) (w' : World) : Prop := ∃ c, e = .returned (.pointer (some ⟨c, 0, none⟩)) ∧ w.heap.size ≤ c ∧ Cur B w' c ∧ Below w.heap.size w w'

theorem l1New_on {B : Nat} {w : World} (a : Option Addr) (len cap : Nat) (hB : B ≤ w.heap.size) (hlen : len ≤ 4611686018427387904) (hby : Bytes w B a len) :
    Calls Try.prog 57 #[.slice a len cap] w (Made B w) := by
  go_enter Try.func57, Try.ntmps57
  go_wp2
  go_loop [3, 4] (fun h i => ∃ (k : Nat) (x : Int), k ≤ len ∧ i = .int .i64 k ∧ h = .int .i64 x) (fun _ i => len - (intOf i).toNat)
  case atStart => exact ⟨0, _, Nat.zero_le _, rfl, rfl⟩
  case round =>
    obtain ⟨k, x, hk, rfl, rfl⟩ := hrel
    by_cases hlt : k < len
    · obtain ⟨ad, y, rfl, -, hcy, hy0, hy1⟩ := hby k hlt
      by_cases h4 : (k : Int) < 4000
      · go_wp2
        go_round
        case rel => exact ⟨k + 1, _, by omega, by go_num, rfl⟩
        case measure => simp [intOf]; omega
      · go_wp2
        go_ret
        refine ⟨_, rfl, Nat.le_refl _, ⟨hB, _, len, cap, 0, _, Row.made w _ _, Nat.zero_le _, hlen, hby.below ((Below.refl _ _).alloc hB _)⟩, (Below.refl _ _).alloc (Nat.le_refl _) _⟩
    · go_wp2
      go_ret
      refine ⟨_, rfl, Nat.le_refl _, ⟨hB, _, len, cap, 0, _, Row.made w _ _, Nat.zero_le _, hlen, hby.below ((Below.refl _ _).alloc hB _)⟩, (Below.refl _ _).alloc (Nat.le_refl _) _⟩
end Go.Proofs.Ytkfejjoehgipmaa.Draw

/-
  The draws' cursor as one of several things that lie apart; a draw of a number, an append and a made slice on this level; l1Bytes and the draws' start. No condition but that the code is a slice of bytes of at most 2^62 places.
-/
namespace Go.Proofs.Ytkfejjoehgipmaa.Sd
set_option maxRecDepth 100000
open Go.ChangeShapes Go.WideShapes Go.ChangeAt Go.RowKit Mem Sl Ex Draw

theorem set_same {α : Type} : ∀ {l : List α} {i : Nat} {x : α}, l[i]? = some x → l.set i x = l
  | [], _, _, h => by simp at h
  | y :: l, 0, x, h => by simp at h; simp [h]
  | y :: l, i + 1, x, h => by simp at h; simp [set_same h]
theorem at_left {α : Type} {l m : List α} {i : Nat} {x : α} (h : l[i]? = some x) : (l ++ m)[i]? = some x := by
  rw [List.getElem?_append_left (List.getElem?_eq_some_iff.1 h).1]; exact h
theorem at_last {α : Type} (l : List α) (x : α) : (l ++ [x])[l.length]? = some x := by simp
theorem set_last {α : Type} (l : List α) (x y : α) : (l ++ [x]).set l.length y = l ++ [y] := by simp

section
variable {W w w' : World} {rs : List Res} {r r' : Res}
theorem put_new (h : Sep W w rs) (i : Nat) (hi : rs[i]? = some r) (ht : Turned r.fp w w') (hr : r'.is w') (hf : ∀ b ∈ r'.fp, b ∈ r.fp ∨ (w.heap.size ≤ b ∧ b < w'.heap.size)) : Sep W w' (rs.set i r') := by
  have hlt : i < rs.length := (List.getElem?_eq_some_iff.1 hi).1
  have hsz := h.old.size
  have hcase : ∀ (j : Nat) (s : Res), (rs.set i r')[j]? = some s → (j ≠ i ∧ rs[j]? = some s) ∨ (j = i ∧ s = r') := fun j s hj => by
    rw [List.getElem?_set] at hj
    by_cases e : i = j
    · subst e
      rw [if_pos rfl, if_pos hlt] at hj
      exact .inr ⟨rfl, (Option.some.inj hj).symm⟩
    · rw [if_neg e] at hj
      exact .inl ⟨fun e' => e e'.symm, hj⟩
  refine ⟨h.old.trans (ht.below h.old.size (fun b hm => (h.lies i r hi b hm).1)), fun j s hj => ?_, fun j s hj b hm => ?_, fun j k s t hj hk hne b hm hm2 => ?_⟩
  · rcases hcase j s hj with ⟨hne, h1⟩ | ⟨rfl, rfl⟩
    · exact s.loc (fun b hm => ht.block b (h.lies j s h1 b hm).2 (h.apart j i s r h1 hi hne b hm)) (h.is j s h1)
    · exact hr
  · rcases hcase j s hj with ⟨hne, h1⟩ | ⟨rfl, rfl⟩
    · exact ⟨(h.lies j s h1 b hm).1, Nat.lt_of_lt_of_le (h.lies j s h1 b hm).2 ht.size⟩
    · rcases hf b hm with h2 | h2
      · exact ⟨(h.lies _ r hi b h2).1, Nat.lt_of_lt_of_le (h.lies _ r hi b h2).2 ht.size⟩
      · exact ⟨by omega, h2.2⟩
  · rcases hcase j s hj with ⟨hne1, h1⟩ | ⟨rfl, rfl⟩ <;> rcases hcase k t hk with ⟨hne2, h2⟩ | ⟨rfl, rfl⟩
    · exact h.apart j k s t h1 h2 hne b hm hm2
    · rcases hf b hm2 with h3 | h3
      · exact h.apart j _ s r h1 hi hne1 b hm h3
      · have := (h.lies j s h1 b hm).2; omega
    · rcases hf b hm with h3 | h3
      · exact h.apart k _ t r h2 hi hne2 b hm2 h3
      · have := (h.lies k t h2 b hm2).2; omega
    · exact hne rfl
end

def curR (W : World) (c : Nat) : Res where
  fp := [c]
  is w := ∃ (a : Option Addr) (len cap i : Nat) (h : Int), Row w c 119 #[.slice a len cap, .int .i64 i, .int .i64 h] ∧ i ≤ len ∧ len ≤ 4611686018427387904 ∧ Bytes W W.heap.size a len
  loc := fun hs ⟨a, len, cap, i, h, hr, r⟩ => ⟨a, len, cap, i, h, (hs c (by simp)).trans hr, r⟩

section
variable {W w w' : World} {rs : List Res} {c : Nat}
theorem cur_of (h : Sep W w rs) (i : Nat) (hi : rs[i]? = some (curR W c)) : Cur W.heap.size w c := by
  obtain ⟨a, len, cap, j, x, hr, h1, h2, h3⟩ := h.is i _ hi
  exact ⟨(h.lies i _ hi c (by simp [curR])).1, a, len, cap, j, x, hr, h1, h2, h3.below h.old⟩
theorem cur_on (h : Sep W w rs) (i : Nat) (hi : rs[i]? = some (curR W c)) : On W.heap.size c w w := On.start (cur_of h i hi)
theorem bytes_back {B : Nat} {a : Option Addr} {len : Nat} (h : Bytes w' B a len) (hb : Below B w w') : Bytes w B a len := fun j hj => by
  obtain ⟨ad, n, e, hB, hc, h0, h1⟩ := h j hj
  exact ⟨ad, n, e, hB, by rw [← hb.cell (by rw [add_block]; exact hB)]; exact hc, h0, h1⟩
theorem cur_is (hc : Cur W.heap.size w c) (hb : Below W.heap.size W w) : (curR W c).is w := by
  obtain ⟨_, a, len, cap, j, x, hr, h1, h2, h3⟩ := hc
  exact ⟨a, len, cap, j, x, hr, h1, h2, bytes_back h3 hb⟩
theorem moved (h : Sep W w rs) (i : Nat) (hi : rs[i]? = some (curR W c)) (ho : On W.heap.size c w w') : Sep W w' rs := by
  have ht : Turned (curR W c).fp w w' := Turned.of_grown ho.2
  have hb : Below W.heap.size W w' := h.old.trans (ht.below h.old.size (fun b hm => (h.lies i _ hi b hm).1))
  have := h.put i hi (r' := curR W c) ht (cur_is ho.1 hb) (fun b hb => hb)
  rwa [set_same hi] at this
theorem num {F : Nat} {args : Array Value} {Q : Int → Prop} (h : Sep W w rs) (i : Nat) (hi : rs[i]? = some (curR W c)) (hC : Calls Try.prog F args w (Num W.heap.size c w Q)) :
    Calls Try.prog F args w fun e w' => ∃ n, e = .returned (.int .i64 n) ∧ Q n ∧ Sep W w' rs :=
  hC.mono fun _ _ ⟨n, he, hq, ho⟩ => ⟨n, he, hq, moved h i hi ho⟩
end

section
variable {W w : World} {rs : List Res} {c : Nat}
theorem below_s (h : Sep W w rs) (i : Nat) (hi : rs[i]? = some (curR W c)) (n : Int) (h1 : 1 ≤ n) (h2 : n ≤ 9223372036854775807) :
    Calls Try.prog 106 #[.pointer (some ⟨c, 0, none⟩), .int .i64 n] w fun e w' => ∃ r, e = .returned (.int .i64 r) ∧ (0 ≤ r ∧ r < n) ∧ Sep W w' rs := num h i hi (l1Below_on n h1 h2 (cur_on h i hi))
theorem once_s (h : Sep W w rs) (i : Nat) (hi : rs[i]? = some (curR W c)) (n : Int) (h1 : 1 ≤ n) (h2 : n ≤ 9223372036854775807) :
    Calls Try.prog 102 #[.pointer (some ⟨c, 0, none⟩), .int .i64 n] w fun e w' => ∃ b : Bool, e = .returned (.bool b) ∧ Sep W w' rs :=
  (l1Once_on n h1 h2 (cur_on h i hi)).mono fun _ _ ⟨b, he, ho⟩ => ⟨b, he, moved h i hi ho⟩
theorem int_s (h : Sep W w rs) (i : Nat) (hi : rs[i]? = some (curR W c)) (l : List Int) (Q : Int → Prop) (hQ : ∀ v ∈ l, Q v) (h1 : 1 ≤ l.length) (h2 : l.length ≤ 1000) :
    Calls Try.prog 108 #[.pointer (some ⟨c, 0, none⟩), .slice (some ⟨w.heap.size, 0, none⟩) l.length l.length] (w.alloc (.cells (l.map (Value.int .i64)).toArray 3)) fun e w' => ∃ r, e = .returned (.int .i64 r) ∧ Q r ∧ Sep W w' rs :=
  num (h.alloc _) i hi (l1Int_on w.heap.size l.length h1 h2 (ints_lit w 3 l Q hQ) (by simp) (fun e => by have := (cur_on h i hi).lt; omega) (cur_on (h.alloc _) i hi))
theorem new_s (h : Sep W w rs) (a : Option Addr) (len cap : Nat) (hlen : len ≤ 4611686018427387904) (hby : Bytes W W.heap.size a len) :
    Calls Try.prog 57 #[.slice a len cap] w fun e w' => ∃ c, e = .returned (.pointer (some ⟨c, 0, none⟩)) ∧ Sep W w' (rs ++ [curR W c]) :=
  (l1New_on a len cap h.old.size hlen (hby.below h.old)).mono fun _ w' ⟨c, he, hc, hcur, hb⟩ => ⟨c, he, by
    have hlt : c < w'.heap.size := by
      obtain ⟨_, a, len, cap, j, x, hr, _⟩ := hcur
      exact hr.inside
    exact h.push hb (cur_is hcur (h.old.trans (hb.mono h.old.size))) (fun b hm => by simp [curR] at hm; subst hm; exact ⟨hc, hlt⟩)⟩
end

/-! ### append -/
section
variable {P : Program} (w : World)
end

end Go.Proofs.Ytkfejjoehgipmaa.Sd

/-
  More steps over several owned things: a maker's result, a thing let go; the laws' helpers at, big, sameBytes, sameInts; chapter 2's draws. No condition but that the code is a slice of bytes of at most 2^20 places where 'at' counts.
-/
namespace Go.Proofs.Ytkfejjoehgipmaa.Sd
set_option maxRecDepth 100000
open Go.ChangeShapes Go.WideShapes Go.ChangeAt Go.RowKit Mem Sl Ex Draw L2

section
variable {W w w' : World} {rs ts : List Res} {r : Res}
theorem Sep_of {rs' : List Res} (h : Sep W w rs) (f : Nat → Nat) (hinj : ∀ i j, f i = f j → i = j) (hf : ∀ i s, rs'[i]? = some s → rs[f i]? = some s) : Sep W w rs' :=
  ⟨h.old, fun i s hi => h.is _ s (hf i s hi), fun i s hi => h.lies _ s (hf i s hi), fun i j s t hi hj hne => h.apart _ _ s t (hf i s hi) (hf j t hj) (fun e => hne (hinj _ _ e))⟩
theorem drop (h : Sep W w (rs ++ r :: ts)) : Sep W w (rs ++ ts) := by
  refine Sep_of h (fun i => if i < rs.length then i else i + 1) (fun i j e => ?_) (fun i s hi => ?_)
  · split at e <;> split at e <;> omega
  · by_cases hl : i < rs.length
    · rw [if_pos hl, List.getElem?_append_left hl]
      rw [List.getElem?_append_left hl] at hi
      exact hi
    · rw [if_neg hl]
      rw [List.getElem?_append_right (by omega)] at hi ⊢
      rw [show i + 1 - rs.length = (i - rs.length) + 1 by omega, List.getElem?_cons_succ]
      exact hi
end

theorem drew_s {W w : World} {rs : List Res} (h : Sep W w rs) : Sep W w.drew rs := h.keep ⟨rfl, rfl, rfl, Nat.le_refl _, fun _ _ => rfl⟩

section
variable {W w : World} {rs : List Res} {F : Nat} {args : Array Value} {e : TypeId} {k : IntKind}
theorem gave {r : List Int} (h : Sep W w rs) (hC : Calls Try.prog F args w (Gave w w.heap.size e k r)) :
    Calls Try.prog F args w fun en w' => ∃ a c x, en = .returned (.slice a x.length c) ∧ Hid (x = r) ∧ Sep W w' (rs ++ [own e k a c x]) :=
  hC.mono fun _ _ ⟨a, c, he, ho, hb⟩ => ⟨a, c, r, he, rfl, h.pushOwn hb ho⟩
end

section
variable {W w : World} {rs : List Res} {a : Option Addr} {len : Nat}
theorem big_s (cap : Nat) (h : Sep W w rs) :
    Calls Try.prog 14 #[.slice a len cap] w fun e w' => e = .returned (.bool (decide (len > 1048576))) ∧ Sep W w' rs := by
  have H := Lib.hid h
  clear h
  by_cases h : (len : Int) > 1048576
  · have h' : decide (len > 1048576) = true := decide_eq_true (by omega)
    rw [h']
    go_enter Try.func14, Try.ntmps14
    go_wp2
    go_ret
    exact ⟨rfl, H.out⟩
  · have h' : decide (len > 1048576) = false := decide_eq_false (by omega)
    rw [h']
    go_enter Try.func14, Try.ntmps14
    go_wp2
    go_ret
    exact ⟨rfl, H.out⟩
end

section
variable {W w : World} {rs : List Res}
end

/-! ### chapter 2's draws -/
section
variable {W w : World} {rs : List Res} {a : Option Addr} {len : Nat}
end
end Go.Proofs.Ytkfejjoehgipmaa.Sd

