/-
  Chapter 6's models: items, stores, their functions as plain mathematics; items and stores as they lie in memory (laid). No condition.
-/
import Derived.Test.YtkfejjoehgipmaaBag
import Derived.Test.YtkfejjoehgipmaaPc
import Derived.Test.YtkfejjoehgipmaaL5Enc
import Derived.Test.YtkfejjoehgipmaaL5Eql
import Derived.Test.YtkfejjoehgipmaaPb
namespace Go.Proofs.Ytkfejjoehgipmaa.L6
set_option maxRecDepth 100000
open L4 (K isK cmpK R inR encU)
open L5 (F isR isN cellsF encR eqR Small)
open Go.ChangeShapes Go.WideShapes Go.ChangeAt Go.RowKit Mem Sl Sv Bag
set_option linter.unusedVariables false

/-! ### contents -/
def eqK (a b : K) : Bool := a.kind == b.kind && (a.n == b.n && a.t == b.t)
theorem eqK_iff {a b : K} : eqK a b = true ↔ a = b := by
  unfold eqK
  simp only [Bool.and_eq_true, beq_iff_eq]
  exact ⟨fun h => K.ext' h.1 h.2.1 h.2.2, fun h => by subst h; exact ⟨rfl, rfl, rfl⟩⟩
theorem eqK_refl (a : K) : eqK a a = true := eqK_iff.2 rfl
structure It where
  k : K
  l : List F
structure S6 where
  name : ByteArray
  items : List It
  auto : Int
def behind (xs : List It) (x : It) : Nat → Bool
  | 0 => true
  | j + 1 => match xs[j]? with
    | none => true
    | some y => decide (cmpK y.k x.k < 0)
def okIx (xs : List It) (i : Nat) : Bool := match xs[i]? with
  | none => true
  | some x => isK x.k && (isR x.l && behind xs x i)
theorem okIx_at {xs : List It} {k : Nat} {x : It} (h : xs[k]? = some x) : okIx xs k = (isK x.k && (isR x.l && behind xs x k)) := by
  unfold okIx
  rw [h]
theorem behind_at {xs : List It} {m : Nat} {x y : It} (h2 : xs[m]? = some y) : behind xs x (m + 1) = decide (cmpK y.k x.k < 0) := by
  simp only [behind, h2]
def isI (xs : List It) : Bool := (List.range xs.length).all (okIx xs)
def isS (s : S6) : Bool := isI s.items && (isN s.name.data.toList && (decide (s.items.length ≤ 16) && L1.inB s.auto 0 1000000))
theorem isI_no {xs : List It} (i : Nat) (hi : i < xs.length) (h : okIx xs i = false) : isI xs = false := by
  cases h1 : isI xs with
  | false => rfl
  | true =>
    unfold isI at h1
    have := (List.all_eq_true.1 h1) i (List.mem_range.2 hi)
    rw [h] at this
    cases this
theorem isI_all {xs : List It} (h : ∀ i, i < xs.length → okIx xs i = true) : isI xs = true := by
  unfold isI
  exact List.all_eq_true.2 fun i hi => h i (List.mem_range.1 hi)
theorem isI_at {xs : List It} (h : isI xs = true) (i : Nat) (hi : i < xs.length) : okIx xs i = true := by
  unfold isI at h
  exact (List.all_eq_true.1 h) i (List.mem_range.2 hi)
theorem okIx_zero {xs : List It} (h : 0 < xs.length) : okIx xs 0 = (isK xs[0].k && isR xs[0].l) := by
  rw [okIx_at (List.getElem?_eq_getElem h)]
  simp [behind]
theorem okIx_succ {xs : List It} (j : Nat) (h : j + 1 < xs.length) : okIx xs (j + 1) = (isK xs[j + 1].k && (isR xs[j + 1].l && decide (cmpK xs[j].k xs[j + 1].k < 0))) := by
  rw [okIx_at (List.getElem?_eq_getElem h), behind_at (List.getElem?_eq_getElem (show j < xs.length by omega))]
def fndO (xs : List It) (k : K) : Option Nat := xs.findIdx? fun x => eqK x.k k
def fndI (xs : List It) (k : K) : Int := match fndO xs k with
  | some i => i
  | none => -1
theorem fndO_at {xs : List It} {k : K} (i : Nat) (hi : i < xs.length) (h : eqK xs[i].k k = true) (ha : ∀ j (hj : j < xs.length), j < i → eqK xs[j].k k = false) : fndO xs k = some i := by
  unfold fndO
  rw [List.findIdx?_eq_some_iff_getElem]
  exact ⟨hi, h, fun j hj => by rw [ha j (by omega) hj]; simp⟩
theorem fndO_none {xs : List It} {k : K} (ha : ∀ j (hj : j < xs.length), eqK xs[j].k k = false) : fndO xs k = none := by
  unfold fndO
  rw [List.findIdx?_eq_none_iff]
  intro x hx
  obtain ⟨j, hj, rfl⟩ := List.getElem_of_mem hx
  exact ha j hj
theorem fndO_some {xs : List It} {k : K} {i : Nat} (h : fndO xs k = some i) : ∃ hi : i < xs.length, xs[i].k = k := by
  unfold fndO at h
  rw [List.findIdx?_eq_some_iff_getElem] at h
  obtain ⟨hi, h1, _⟩ := h
  exact ⟨hi, eqK_iff.1 h1⟩
theorem fndI_range (xs : List It) (k : K) : -1 ≤ fndI xs k ∧ fndI xs k < xs.length := by
  unfold fndI
  cases h : fndO xs k with
  | none => simp; omega
  | some i => obtain ⟨hi, _⟩ := fndO_some h; simp; omega
def posI (xs : List It) (k : K) : Nat := (xs.findIdx? fun x => !decide (cmpK x.k k < 0)).getD xs.length
theorem posI_at {xs : List It} {k : K} (i : Nat) (hi : i ≤ xs.length) (hl : ∀ j (hj : j < xs.length), j < i → cmpK xs[j].k k < 0) (hn : ∀ hi : i < xs.length, ¬ cmpK xs[i].k k < 0) : posI xs k = i := by
  unfold posI
  by_cases h : i < xs.length
  · rw [show (xs.findIdx? fun x => !decide (cmpK x.k k < 0)) = some i by
      rw [List.findIdx?_eq_some_iff_getElem]
      exact ⟨h, by simpa using hn h, fun j hj => by simpa using hl j (by omega) hj⟩]
    rfl
  · obtain rfl : i = xs.length := by omega
    rw [show (xs.findIdx? fun x => !decide (cmpK x.k k < 0)) = none by
      rw [List.findIdx?_eq_none_iff]
      intro x hx
      obtain ⟨j, hj, rfl⟩ := List.getElem_of_mem hx
      simpa using hl j hj hj]
    rfl
theorem posI_le (xs : List It) (k : K) : posI xs k ≤ xs.length := by
  unfold posI
  cases h : xs.findIdx? fun x => !decide (cmpK x.k k < 0) with
  | none => exact Nat.le_refl _
  | some i =>
    rw [List.findIdx?_eq_some_iff_getElem] at h
    exact Nat.le_of_lt h.1
def nextAuto (auto : Int) (k : K) : Int := if k.kind == 1 && L1.inB k.n (auto + 1) 1000000 then k.n else auto
def putI (s : S6) (k : K) (l : List F) : S6 × Bool :=
  if isS s && (isK k && isR l) then
    match fndO s.items k with
    | some i => (⟨s.name, s.items.set i ⟨k, l⟩, s.auto⟩, true)
    | none => if 16 ≤ s.items.length then (s, false) else (⟨s.name, s.items.take (posI s.items k) ++ ⟨k, l⟩ :: s.items.drop (posI s.items k), nextAuto s.auto k⟩, true)
  else (s, false)
def addI (s : S6) (k : K) (l : List F) : S6 × Bool := if 0 ≤ fndI s.items k then (s, false) else putI s k l
def zK : K := ⟨0, 0, ⟨#[]⟩⟩
def autoK (s : S6) : K := ⟨1, s.auto + 1, ⟨#[]⟩⟩
def autoB (s : S6) (l : List F) : Bool := !decide (1000000 ≤ s.auto) && (addI s (autoK s) l).2
def autoS (s : S6) (l : List F) : S6 := if autoB s l then (addI s (autoK s) l).1 else s
def autoR (s : S6) (l : List F) : K := if autoB s l then autoK s else zK
def inI (xs : List It) (r : R) : List It := xs.filter fun x => inR x.k r
def outI (xs : List It) (r : R) : List It := xs.filter fun x => !inR x.k r
def delS (s : S6) (r : R) : S6 := if isS s then ⟨s.name, outI s.items r, s.auto⟩ else s
def delN (s : S6) (r : R) : Int := if isS s then (s.items.length : Int) - (outI s.items r).length else 0
def szI (xs : List It) : Nat := (xs.map fun x => (encU x.k).length + (encR x.l).length).sum
def eqI (xs ys : List It) : Bool := xs.length == ys.length && (xs.zip ys).all fun p => eqK p.1.k p.2.k && eqR p.1.l p.2.l
def eqS (a b : S6) : Bool := a.name.data.toList == b.name.data.toList && (a.auto == b.auto && eqI a.items b.items)
theorem eqI_len {xs ys : List It} (h : ¬ xs.length = ys.length) : eqI xs ys = false := by
  unfold eqI
  rw [show (xs.length == ys.length) = false by simpa using h]
  rfl
theorem eqI_all {xs ys : List It} (h : xs.length = ys.length) (ha : ∀ j (h1 : j < xs.length) (h2 : j < ys.length), (eqK xs[j].k ys[j].k && eqR xs[j].l ys[j].l) = true) : eqI xs ys = true := by
  unfold eqI
  rw [h, beq_self_eq_true, Bool.true_and, List.all_eq_true]
  intro p hp
  obtain ⟨j, hj, rfl⟩ := List.getElem_of_mem hp
  rw [List.length_zip] at hj
  rw [List.getElem_zip]
  exact ha j (by omega) (by omega)
theorem eqI_no {xs ys : List It} (j : Nat) (h1 : j < xs.length) (h2 : j < ys.length) (h : (eqK xs[j].k ys[j].k && eqR xs[j].l ys[j].l) = false) : eqI xs ys = false := by
  cases he : eqI xs ys with
  | false => rfl
  | true =>
    unfold eqI at he
    rw [Bool.and_eq_true, List.all_eq_true] at he
    have := he.2 (xs[j], ys[j]) (by
      rw [List.mem_iff_getElem]
      exact ⟨j, by rw [List.length_zip]; omega, by rw [List.getElem_zip]⟩)
    rw [h] at this
    cases this
theorem eqI_iff {xs ys : List It} : eqI xs ys = true ↔ xs = ys := by
  constructor
  · intro h
    unfold eqI at h
    simp only [Bool.and_eq_true, beq_iff_eq, List.all_eq_true] at h
    refine List.ext_getElem h.1 fun j h1 h2 => ?_
    have := h.2 (xs[j], ys[j]) (by
      rw [List.mem_iff_getElem]
      exact ⟨j, by rw [List.length_zip]; omega, by rw [List.getElem_zip]⟩)
    have e1 := eqK_iff.1 this.1
    have e2 := L5.eqR_iff.1 this.2
    have ext : ∀ x y : It, x.k = y.k → x.l = y.l → x = y := fun ⟨_, _⟩ ⟨_, _⟩ h1 h2 => by simp only at h1 h2; rw [h1, h2]
    exact ext _ _ e1 e2
  · rintro rfl
    exact eqI_all rfl fun j h1 h2 => by rw [eqK_refl, L5.eqR_iff.2 rfl]; rfl
theorem eqS_iff {a b : S6} : eqS a b = true ↔ a = b := by
  obtain ⟨⟨⟨n1⟩⟩, x1, u1⟩ := a
  obtain ⟨⟨⟨n2⟩⟩, x2, u2⟩ := b
  unfold eqS
  simp only [Bool.and_eq_true, beq_iff_eq, eqI_iff, S6.mk.injEq, ByteArray.mk.injEq, Array.mk.injEq]
  exact ⟨fun h => ⟨h.1, h.2.2, h.2.1⟩, fun h => ⟨h.1, h.2.2, h.2.1⟩⟩

/-! ### what the contracts ask -/
structure FitI (x : It) : Prop where
  text : x.k.text.size ≤ 1099511627776
  len : x.l.length ≤ 1048576
  small : Small x.l
structure FitS (s : S6) : Prop where
  name : s.name.size ≤ 281474976710656
  len : s.items.length ≤ 1048576
  items : ∀ x ∈ s.items, FitI x

/-! ### laid in memory -/
structure LI where
  k : K
  a : Option Addr
  c : Nat
  l : List F
def LI.con (x : LI) : It := ⟨x.k, x.l⟩
def LI.cells (x : LI) : List Value := [.int .i64 x.k.kind, .int .i64 x.k.n, .string x.k.text, .slice x.a x.l.length x.c]
def LI.row (x : LI) : RowS := ⟨102, 2, x.a, x.c, x.l.length, cellsF x.l⟩
def cellsI (xs : List LI) : List Value := xs.flatMap LI.cells
def conI (xs : List LI) : List It := xs.map LI.con
@[simp] theorem conI_length (xs : List LI) : (conI xs).length = xs.length := List.length_map ..
theorem conI_get (xs : List LI) (j : Nat) (h : j < xs.length) : (conI xs)[j]'(by simpa using h) = xs[j].con := List.getElem_map ..
theorem cellsI_cons (x : LI) (xs : List LI) : cellsI (x :: xs) = .int .i64 x.k.kind :: .int .i64 x.k.n :: .string x.k.text :: .slice x.a x.l.length x.c :: cellsI xs := rfl
theorem cellsI_append (xs ys : List LI) : cellsI (xs ++ ys) = cellsI xs ++ cellsI ys := by unfold cellsI; rw [List.flatMap_append]
@[simp] theorem cellsI_length : ∀ (xs : List LI), (cellsI xs).length = xs.length * 4
  | [] => rfl
  | x :: xs => by rw [cellsI_cons, List.length_cons, List.length_cons, List.length_cons, List.length_cons, cellsI_length xs, List.length_cons]; omega
theorem cellsI_at : ∀ (xs : List LI) (j : Nat) (h : j < xs.length), (cellsI xs)[j * 4]? = some (.int .i64 xs[j].k.kind) ∧ (cellsI xs)[j * 4 + 1]? = some (.int .i64 xs[j].k.n) ∧ (cellsI xs)[j * 4 + 2]? = some (.string xs[j].k.text) ∧ (cellsI xs)[j * 4 + 3]? = some (.slice xs[j].a xs[j].l.length xs[j].c)
  | x :: xs, 0, _ => ⟨rfl, rfl, rfl, rfl⟩
  | x :: xs, j + 1, h => by
    have := cellsI_at xs j (by simpa using h)
    rw [cellsI_cons, show (j + 1) * 4 = j * 4 + 1 + 1 + 1 + 1 by omega]
    exact this
theorem cellsI_one (xs : List LI) : ∀ u ∈ cellsI xs, u.oneCell' = true := by
  intro u hu
  obtain ⟨x, _, hx⟩ := List.mem_flatMap.1 hu
  simp [LI.cells] at hx
  rcases hx with rfl | rfl | rfl | rfl <;> rfl
theorem readsI {w : World} {B : Nat} {a : Option Addr} {xs : List LI} (h : Reads w B a (cellsI xs)) (j : Nat) (hj : j < xs.length) :
    ∃ ad, a = some ad ∧ ad.block < B ∧ w.cell? (ad.add (j * 4)) = some (.int .i64 xs[j].k.kind) ∧ w.cell? ⟨(ad.add (j * 4)).block, (ad.add (j * 4)).off + 1, none⟩ = some (.int .i64 xs[j].k.n) ∧ w.cell? ⟨(ad.add (j * 4)).block, (ad.add (j * 4)).off + 2, none⟩ = some (.string xs[j].k.text) ∧ w.cell? ⟨(ad.add (j * 4)).block, (ad.add (j * 4)).off + 3, none⟩ = some (.slice xs[j].a xs[j].l.length xs[j].c) := by
  obtain ⟨c0, c1, c2, c3⟩ := cellsI_at xs j hj
  have key : ∀ q, q < 4 → ∃ ad, a = some ad ∧ ad.block < B ∧ (cellsI xs)[j * 4 + q]? = w.cell? (ad.add (j * 4 + q)) := fun q hq => by
    have hq2 : j * 4 + q < (cellsI xs).length := by rw [cellsI_length]; omega
    obtain ⟨ad, e, hb, h1⟩ := h (j * 4 + q) hq2
    exact ⟨ad, e, hb, by rw [List.getElem?_eq_getElem hq2, h1]⟩
  obtain ⟨ad, e, hb, h0⟩ := key 0 (by omega)
  obtain ⟨ad1, e1, _, h1⟩ := key 1 (by omega)
  obtain ⟨ad2, e2, _, h2⟩ := key 2 (by omega)
  obtain ⟨ad3, e3, _, h3⟩ := key 3 (by omega)
  rw [e] at e1 e2 e3
  cases e1; cases e2; cases e3
  have nx : ∀ q, w.cell? (ad.add (j * 4 + (q + 1))) = w.cell? ⟨(ad.add (j * 4)).block, (ad.add (j * 4)).off + (q + 1), none⟩ := fun q => by
    congr 1
    unfold Addr.add
    by_cases hz : j * 4 = 0 <;> simp [hz, Nat.add_assoc]
  refine ⟨ad, e, hb, ?_, ?_, ?_, ?_⟩
  · rw [Nat.add_zero] at h0
    rw [← h0, c0]
  · rw [← nx 0, ← h1, c1]
  · rw [← nx 1, ← h2, c2]
  · rw [← nx 2, ← h3, c3]
structure LS where
  name : ByteArray
  a : Option Addr
  c : Nat
  xs : List LI
  auto : Int
def LS.con (s : LS) : S6 := ⟨s.name, conI s.xs, s.auto⟩
def LS.cells (s : LS) : Array Value := #[.string s.name, .slice s.a s.xs.length s.c, .int .i64 s.auto]
def LS.v (s : LS) : Value := .agg s.cells
def rowI (a : Option Addr) (c : Nat) (xs : List LI) : RowS := ⟨40, 4, a, c, xs.length, cellsI xs⟩
def rowsI (xs : List LI) : List RowS := xs.map LI.row
def LS.rows (s : LS) : List RowS := rowI s.a s.c s.xs :: rowsI s.xs
theorem rowsI_append (xs ys : List LI) : rowsI (xs ++ ys) = rowsI xs ++ rowsI ys := List.map_append
theorem rowsI_at (xs : List LI) (j : Nat) (h : j < xs.length) : xs[j].row ∈ rowsI xs := List.mem_map.2 ⟨_, List.getElem_mem h, rfl⟩
section
variable {w : World} {B : Nat} {s : LS}
theorem LS.outer (h : RowsRd w B s.rows) : Reads w B s.a (cellsI s.xs) := (h.at_ (r := rowI s.a s.c s.xs) (List.mem_cons_self ..)).reads
theorem LS.inner (h : RowsRd w B s.rows) : RowsRd w B (rowsI s.xs) := h.sub fun r hr => List.mem_cons_of_mem _ hr
end
def GaveI (w : World) (x : It) (e : Ending) (w' : World) : Prop :=
  ∃ a c, e = .returned (.agg #[.int .i64 x.k.kind, .int .i64 x.k.n, .string x.k.text, .slice a x.l.length c]) ∧ BagOwn w' w.heap.size [(LI.mk x.k a c x.l).row] ∧ Below w.heap.size w w'
def GaveIs (w : World) (xs : List It) (e : Ending) (w' : World) : Prop :=
  ∃ (a : Option Addr) (c : Nat) (ys : List LI), e = .returned (.slice a ys.length c) ∧ conI ys = xs ∧ BagOwn w' w.heap.size (rowI a c ys :: rowsI ys) ∧ Below w.heap.size w w'
def GaveS (w : World) (s : S6) (e : Ending) (w' : World) : Prop :=
  ∃ y : LS, e = .returned y.v ∧ y.con = s ∧ BagOwn w' w.heap.size y.rows ∧ Below w.heap.size w w'
def GaveSB (w : World) (s : S6) (b : Bool) (e : Ending) (w' : World) : Prop :=
  ∃ y : LS, e = .returned (.tuple #[y.v, .bool b]) ∧ y.con = s ∧ BagOwn w' w.heap.size y.rows ∧ Below w.heap.size w w'
def GaveSN (w : World) (s : S6) (n : Int) (e : Ending) (w' : World) : Prop :=
  ∃ y : LS, e = .returned (.tuple #[y.v, .int .i64 n]) ∧ y.con = s ∧ BagOwn w' w.heap.size y.rows ∧ Below w.heap.size w w'
def GaveSKB (w : World) (s : S6) (k : K) (b : Bool) (e : Ending) (w' : World) : Prop :=
  ∃ y : LS, e = .returned (.tuple #[y.v, k.v, .bool b]) ∧ y.con = s ∧ BagOwn w' w.heap.size y.rows ∧ Below w.heap.size w w'
end Go.Proofs.Ytkfejjoehgipmaa.L6
