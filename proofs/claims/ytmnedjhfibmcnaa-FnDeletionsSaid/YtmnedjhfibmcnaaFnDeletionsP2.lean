/-
  What the law FnDeletions needs, laid by my program lawpack.py, part 2: the texts L6Num, L6Pm, L6Lc, L5Set, RegL, L6Sa, L6Sb, L5Dm, L5Rd, one behind the other; each begins with its own words.
-/
import Derived.Test.YtmnedjhfibmcnaaFnDeletionsP1
set_option linter.unusedSimpArgs false
/-
  Chapter 6's models: items, stores, their functions as plain mathematics; items and stores as they lie in memory (laid). No condition.
-/
namespace Go.Proofs.Ytmnedjhfibmcnaa.L6
set_option maxRecDepth 100000
open L4 (K isK cmpK R inR encU)
open L5 (F isR isN cellsF encR eqR Small)
open Go.ChangeShapes Go.WideShapes Go.ChangeAt Go.RowKit Mem Sl Sv Bag
set_option linter.unusedVariables false

/-! ### contents -/
def eqK (a b : K) : Bool := a.kind == b.kind && (a.n == b.n && a.t == b.t)
theorem eqK_iff {a b : K} : eqK a b = true ↔ a = b := by
  unfold eqK
  simp only [Bool.and_eq_true, beq_iff_eq]
  exact ⟨fun h => K.ext' h.1 h.2.1 h.2.2, fun h => by subst h; exact ⟨rfl, rfl, rfl⟩⟩
theorem eqK_refl (a : K) : eqK a a = true := eqK_iff.2 rfl
structure It where
  k : K
  l : List F
structure S6 where
  name : ByteArray
  items : List It
  auto : Int
def behind (xs : List It) (x : It) : Nat → Bool
  | 0 => true
  | j + 1 => match xs[j]? with
    | none => true
    | some y => decide (cmpK y.k x.k < 0)
def okIx (xs : List It) (i : Nat) : Bool := match xs[i]? with
  | none => true
  | some x => isK x.k && (isR x.l && behind xs x i)
theorem okIx_at {xs : List It} {k : Nat} {x : It} (h : xs[k]? = some x) : okIx xs k = (isK x.k && (isR x.l && behind xs x k)) := by
  unfold okIx
  rw [h]
theorem behind_at {xs : List It} {m : Nat} {x y : It} (h2 : xs[m]? = some y) : behind xs x (m + 1) = decide (cmpK y.k x.k < 0) := by
  simp only [behind, h2]
def isI (xs : List It) : Bool := (List.range xs.length).all (okIx xs)
def isS (s : S6) : Bool := isI s.items && (isN s.name.data.toList && (decide (s.items.length ≤ 16) && L1.inB s.auto 0 1000000))
theorem isI_no {xs : List It} (i : Nat) (hi : i < xs.length) (h : okIx xs i = false) : isI xs = false := by
  cases h1 : isI xs with
  | false => rfl
  | true =>
    unfold isI at h1
    have := (List.all_eq_true.1 h1) i (List.mem_range.2 hi)
    rw [h] at this
    cases this
theorem isI_all {xs : List It} (h : ∀ i, i < xs.length → okIx xs i = true) : isI xs = true := by
  unfold isI
  exact List.all_eq_true.2 fun i hi => h i (List.mem_range.1 hi)
theorem isI_at {xs : List It} (h : isI xs = true) (i : Nat) (hi : i < xs.length) : okIx xs i = true := by
  unfold isI at h
  exact (List.all_eq_true.1 h) i (List.mem_range.2 hi)
theorem okIx_zero {xs : List It} (h : 0 < xs.length) : okIx xs 0 = (isK xs[0].k && isR xs[0].l) := by
  rw [okIx_at (List.getElem?_eq_getElem h)]
  simp [behind]
theorem okIx_succ {xs : List It} (j : Nat) (h : j + 1 < xs.length) : okIx xs (j + 1) = (isK xs[j + 1].k && (isR xs[j + 1].l && decide (cmpK xs[j].k xs[j + 1].k < 0))) := by
  rw [okIx_at (List.getElem?_eq_getElem h), behind_at (List.getElem?_eq_getElem (show j < xs.length by omega))]
def fndO (xs : List It) (k : K) : Option Nat := xs.findIdx? fun x => eqK x.k k
def fndI (xs : List It) (k : K) : Int := match fndO xs k with
  | some i => i
  | none => -1
theorem fndO_at {xs : List It} {k : K} (i : Nat) (hi : i < xs.length) (h : eqK xs[i].k k = true) (ha : ∀ j (hj : j < xs.length), j < i → eqK xs[j].k k = false) : fndO xs k = some i := by
  unfold fndO
  rw [List.findIdx?_eq_some_iff_getElem]
  exact ⟨hi, h, fun j hj => by rw [ha j (by omega) hj]; simp⟩
theorem fndO_none {xs : List It} {k : K} (ha : ∀ j (hj : j < xs.length), eqK xs[j].k k = false) : fndO xs k = none := by
  unfold fndO
  rw [List.findIdx?_eq_none_iff]
  intro x hx
  obtain ⟨j, hj, rfl⟩ := List.getElem_of_mem hx
  exact ha j hj
theorem fndO_some {xs : List It} {k : K} {i : Nat} (h : fndO xs k = some i) : ∃ hi : i < xs.length, xs[i].k = k := by
  unfold fndO at h
  rw [List.findIdx?_eq_some_iff_getElem] at h
  obtain ⟨hi, h1, _⟩ := h
  exact ⟨hi, eqK_iff.1 h1⟩
theorem fndI_range (xs : List It) (k : K) : -1 ≤ fndI xs k ∧ fndI xs k < xs.length := by
  unfold fndI
  cases h : fndO xs k with
  | none => simp; omega
  | some i => obtain ⟨hi, _⟩ := fndO_some h; simp; omega
def posI (xs : List It) (k : K) : Nat := (xs.findIdx? fun x => !decide (cmpK x.k k < 0)).getD xs.length
theorem posI_at {xs : List It} {k : K} (i : Nat) (hi : i ≤ xs.length) (hl : ∀ j (hj : j < xs.length), j < i → cmpK xs[j].k k < 0) (hn : ∀ hi : i < xs.length, ¬ cmpK xs[i].k k < 0) : posI xs k = i := by
  unfold posI
  by_cases h : i < xs.length
  · rw [show (xs.findIdx? fun x => !decide (cmpK x.k k < 0)) = some i by
      rw [List.findIdx?_eq_some_iff_getElem]
      exact ⟨h, by simpa using hn h, fun j hj => by simpa using hl j (by omega) hj⟩]
    rfl
  · obtain rfl : i = xs.length := by omega
    rw [show (xs.findIdx? fun x => !decide (cmpK x.k k < 0)) = none by
      rw [List.findIdx?_eq_none_iff]
      intro x hx
      obtain ⟨j, hj, rfl⟩ := List.getElem_of_mem hx
      simpa using hl j hj hj]
    rfl
theorem posI_le (xs : List It) (k : K) : posI xs k ≤ xs.length := by
  unfold posI
  cases h : xs.findIdx? fun x => !decide (cmpK x.k k < 0) with
  | none => exact Nat.le_refl _
  | some i =>
    rw [List.findIdx?_eq_some_iff_getElem] at h
    exact Nat.le_of_lt h.1
def nextAuto (auto : Int) (k : K) : Int := if k.kind == 1 && L1.inB k.n (auto + 1) 1000000 then k.n else auto
def putI (s : S6) (k : K) (l : List F) : S6 × Bool :=
  if isS s && (isK k && isR l) then
    match fndO s.items k with
    | some i => (⟨s.name, s.items.set i ⟨k, l⟩, s.auto⟩, true)
    | none => if 16 ≤ s.items.length then (s, false) else (⟨s.name, s.items.take (posI s.items k) ++ ⟨k, l⟩ :: s.items.drop (posI s.items k), nextAuto s.auto k⟩, true)
  else (s, false)
def addI (s : S6) (k : K) (l : List F) : S6 × Bool := if 0 ≤ fndI s.items k then (s, false) else putI s k l
def zK : K := ⟨0, 0, ⟨#[]⟩⟩
def autoK (s : S6) : K := ⟨1, s.auto + 1, ⟨#[]⟩⟩
def autoB (s : S6) (l : List F) : Bool := !decide (1000000 ≤ s.auto) && (addI s (autoK s) l).2
def autoS (s : S6) (l : List F) : S6 := if autoB s l then (addI s (autoK s) l).1 else s
def autoR (s : S6) (l : List F) : K := if autoB s l then autoK s else zK
def inI (xs : List It) (r : R) : List It := xs.filter fun x => inR x.k r
def outI (xs : List It) (r : R) : List It := xs.filter fun x => !inR x.k r
def delS (s : S6) (r : R) : S6 := if isS s then ⟨s.name, outI s.items r, s.auto⟩ else s
def delN (s : S6) (r : R) : Int := if isS s then (s.items.length : Int) - (outI s.items r).length else 0
def szI (xs : List It) : Nat := (xs.map fun x => (encU x.k).length + (encR x.l).length).sum
def eqI (xs ys : List It) : Bool := xs.length == ys.length && (xs.zip ys).all fun p => eqK p.1.k p.2.k && eqR p.1.l p.2.l
def eqS (a b : S6) : Bool := a.name.data.toList == b.name.data.toList && (a.auto == b.auto && eqI a.items b.items)
theorem eqI_len {xs ys : List It} (h : ¬ xs.length = ys.length) : eqI xs ys = false := by
  unfold eqI
  rw [show (xs.length == ys.length) = false by simpa using h]
  rfl
theorem eqI_all {xs ys : List It} (h : xs.length = ys.length) (ha : ∀ j (h1 : j < xs.length) (h2 : j < ys.length), (eqK xs[j].k ys[j].k && eqR xs[j].l ys[j].l) = true) : eqI xs ys = true := by
  unfold eqI
  rw [h, beq_self_eq_true, Bool.true_and, List.all_eq_true]
  intro p hp
  obtain ⟨j, hj, rfl⟩ := List.getElem_of_mem hp
  rw [List.length_zip] at hj
  rw [List.getElem_zip]
  exact ha j (by omega) (by omega)
theorem eqI_no {xs ys : List It} (j : Nat) (h1 : j < xs.length) (h2 : j < ys.length) (h : (eqK xs[j].k ys[j].k && eqR xs[j].l ys[j].l) = false) : eqI xs ys = false := by
  cases he : eqI xs ys with
  | false => rfl
  | true =>
    unfold eqI at he
    rw [Bool.and_eq_true, List.all_eq_true] at he
    have := he.2 (xs[j], ys[j]) (by
      rw [List.mem_iff_getElem]
      exact ⟨j, by rw [List.length_zip]; omega, by rw [List.getElem_zip]⟩)
    rw [h] at this
    cases this
theorem eqI_iff {xs ys : List It} : eqI xs ys = true ↔ xs = ys := by
  constructor
  · intro h
    unfold eqI at h
    simp only [Bool.and_eq_true, beq_iff_eq, List.all_eq_true] at h
    refine List.ext_getElem h.1 fun j h1 h2 => ?_
    have := h.2 (xs[j], ys[j]) (by
      rw [List.mem_iff_getElem]
      exact ⟨j, by rw [List.length_zip]; omega, by rw [List.getElem_zip]⟩)
    have e1 := eqK_iff.1 this.1
    have e2 := L5.eqR_iff.1 this.2
    have ext : ∀ x y : It, x.k = y.k → x.l = y.l → x = y := fun ⟨_, _⟩ ⟨_, _⟩ h1 h2 => by simp only at h1 h2; rw [h1, h2]
    exact ext _ _ e1 e2
  · rintro rfl
    exact eqI_all rfl fun j h1 h2 => by rw [eqK_refl, L5.eqR_iff.2 rfl]; rfl
theorem eqS_iff {a b : S6} : eqS a b = true ↔ a = b := by
  obtain ⟨⟨⟨n1⟩⟩, x1, u1⟩ := a
  obtain ⟨⟨⟨n2⟩⟩, x2, u2⟩ := b
  unfold eqS
  simp only [Bool.and_eq_true, beq_iff_eq, eqI_iff, S6.mk.injEq, ByteArray.mk.injEq, Array.mk.injEq]
  exact ⟨fun h => ⟨h.1, h.2.2, h.2.1⟩, fun h => ⟨h.1, h.2.2, h.2.1⟩⟩

/-! ### what the contracts ask -/
structure FitI (x : It) : Prop where
  text : x.k.text.size ≤ 1099511627776
  len : x.l.length ≤ 1048576
  small : Small x.l
structure FitS (s : S6) : Prop where
  name : s.name.size ≤ 281474976710656
  len : s.items.length ≤ 1048576
  items : ∀ x ∈ s.items, FitI x

/-! ### laid in memory -/
structure LI where
  k : K
  a : Option Addr
  c : Nat
  l : List F
def LI.con (x : LI) : It := ⟨x.k, x.l⟩
def LI.cells (x : LI) : List Value := [.int .i64 x.k.kind, .int .i64 x.k.n, .string x.k.text, .slice x.a x.l.length x.c]
def LI.row (x : LI) : RowS := ⟨107, 2, x.a, x.c, x.l.length, cellsF x.l⟩
def cellsI (xs : List LI) : List Value := xs.flatMap LI.cells
def conI (xs : List LI) : List It := xs.map LI.con
@[simp] theorem conI_length (xs : List LI) : (conI xs).length = xs.length := List.length_map ..
theorem conI_get (xs : List LI) (j : Nat) (h : j < xs.length) : (conI xs)[j]'(by simpa using h) = xs[j].con := List.getElem_map ..
theorem cellsI_cons (x : LI) (xs : List LI) : cellsI (x :: xs) = .int .i64 x.k.kind :: .int .i64 x.k.n :: .string x.k.text :: .slice x.a x.l.length x.c :: cellsI xs := rfl
theorem cellsI_append (xs ys : List LI) : cellsI (xs ++ ys) = cellsI xs ++ cellsI ys := by unfold cellsI; rw [List.flatMap_append]
@[simp] theorem cellsI_length : ∀ (xs : List LI), (cellsI xs).length = xs.length * 4
  | [] => rfl
  | x :: xs => by rw [cellsI_cons, List.length_cons, List.length_cons, List.length_cons, List.length_cons, cellsI_length xs, List.length_cons]; omega
theorem cellsI_at : ∀ (xs : List LI) (j : Nat) (h : j < xs.length), (cellsI xs)[j * 4]? = some (.int .i64 xs[j].k.kind) ∧ (cellsI xs)[j * 4 + 1]? = some (.int .i64 xs[j].k.n) ∧ (cellsI xs)[j * 4 + 2]? = some (.string xs[j].k.text) ∧ (cellsI xs)[j * 4 + 3]? = some (.slice xs[j].a xs[j].l.length xs[j].c)
  | x :: xs, 0, _ => ⟨rfl, rfl, rfl, rfl⟩
  | x :: xs, j + 1, h => by
    have := cellsI_at xs j (by simpa using h)
    rw [cellsI_cons, show (j + 1) * 4 = j * 4 + 1 + 1 + 1 + 1 by omega]
    exact this
theorem cellsI_one (xs : List LI) : ∀ u ∈ cellsI xs, u.oneCell' = true := by
  intro u hu
  obtain ⟨x, _, hx⟩ := List.mem_flatMap.1 hu
  simp [LI.cells] at hx
  rcases hx with rfl | rfl | rfl | rfl <;> rfl
theorem readsI {w : World} {B : Nat} {a : Option Addr} {xs : List LI} (h : Reads w B a (cellsI xs)) (j : Nat) (hj : j < xs.length) :
    ∃ ad, a = some ad ∧ ad.block < B ∧ w.cell? (ad.add (j * 4)) = some (.int .i64 xs[j].k.kind) ∧ w.cell? ⟨(ad.add (j * 4)).block, (ad.add (j * 4)).off + 1, none⟩ = some (.int .i64 xs[j].k.n) ∧ w.cell? ⟨(ad.add (j * 4)).block, (ad.add (j * 4)).off + 2, none⟩ = some (.string xs[j].k.text) ∧ w.cell? ⟨(ad.add (j * 4)).block, (ad.add (j * 4)).off + 3, none⟩ = some (.slice xs[j].a xs[j].l.length xs[j].c) := by
  obtain ⟨c0, c1, c2, c3⟩ := cellsI_at xs j hj
  have key : ∀ q, q < 4 → ∃ ad, a = some ad ∧ ad.block < B ∧ (cellsI xs)[j * 4 + q]? = w.cell? (ad.add (j * 4 + q)) := fun q hq => by
    have hq2 : j * 4 + q < (cellsI xs).length := by rw [cellsI_length]; omega
    obtain ⟨ad, e, hb, h1⟩ := h (j * 4 + q) hq2
    exact ⟨ad, e, hb, by rw [List.getElem?_eq_getElem hq2, h1]⟩
  obtain ⟨ad, e, hb, h0⟩ := key 0 (by omega)
  obtain ⟨ad1, e1, _, h1⟩ := key 1 (by omega)
  obtain ⟨ad2, e2, _, h2⟩ := key 2 (by omega)
  obtain ⟨ad3, e3, _, h3⟩ := key 3 (by omega)
  rw [e] at e1 e2 e3
  cases e1; cases e2; cases e3
  have nx : ∀ q, w.cell? (ad.add (j * 4 + (q + 1))) = w.cell? ⟨(ad.add (j * 4)).block, (ad.add (j * 4)).off + (q + 1), none⟩ := fun q => by
    congr 1
    unfold Addr.add
    by_cases hz : j * 4 = 0 <;> simp [hz, Nat.add_assoc]
  refine ⟨ad, e, hb, ?_, ?_, ?_, ?_⟩
  · rw [Nat.add_zero] at h0
    rw [← h0, c0]
  · rw [← nx 0, ← h1, c1]
  · rw [← nx 1, ← h2, c2]
  · rw [← nx 2, ← h3, c3]
structure LS where
  name : ByteArray
  a : Option Addr
  c : Nat
  xs : List LI
  auto : Int
def LS.con (s : LS) : S6 := ⟨s.name, conI s.xs, s.auto⟩
def LS.cells (s : LS) : Array Value := #[.string s.name, .slice s.a s.xs.length s.c, .int .i64 s.auto]
def LS.v (s : LS) : Value := .agg s.cells
def rowI (a : Option Addr) (c : Nat) (xs : List LI) : RowS := ⟨43, 4, a, c, xs.length, cellsI xs⟩
def rowsI (xs : List LI) : List RowS := xs.map LI.row
def LS.rows (s : LS) : List RowS := rowI s.a s.c s.xs :: rowsI s.xs
theorem rowsI_append (xs ys : List LI) : rowsI (xs ++ ys) = rowsI xs ++ rowsI ys := List.map_append
theorem rowsI_at (xs : List LI) (j : Nat) (h : j < xs.length) : xs[j].row ∈ rowsI xs := List.mem_map.2 ⟨_, List.getElem_mem h, rfl⟩
section
variable {w : World} {B : Nat} {s : LS}
theorem LS.outer (h : RowsRd w B s.rows) : Reads w B s.a (cellsI s.xs) := (h.at_ (r := rowI s.a s.c s.xs) (List.mem_cons_self ..)).reads
theorem LS.inner (h : RowsRd w B s.rows) : RowsRd w B (rowsI s.xs) := h.sub fun r hr => List.mem_cons_of_mem _ hr
end
def GaveI (w : World) (x : It) (e : Ending) (w' : World) : Prop :=
  ∃ a c, e = .returned (.agg #[.int .i64 x.k.kind, .int .i64 x.k.n, .string x.k.text, .slice a x.l.length c]) ∧ BagOwn w' w.heap.size [(LI.mk x.k a c x.l).row] ∧ Below w.heap.size w w'
def GaveIs (w : World) (xs : List It) (e : Ending) (w' : World) : Prop :=
  ∃ (a : Option Addr) (c : Nat) (ys : List LI), e = .returned (.slice a ys.length c) ∧ conI ys = xs ∧ BagOwn w' w.heap.size (rowI a c ys :: rowsI ys) ∧ Below w.heap.size w w'
def GaveS (w : World) (s : S6) (e : Ending) (w' : World) : Prop :=
  ∃ y : LS, e = .returned y.v ∧ y.con = s ∧ BagOwn w' w.heap.size y.rows ∧ Below w.heap.size w w'
def GaveSB (w : World) (s : S6) (b : Bool) (e : Ending) (w' : World) : Prop :=
  ∃ y : LS, e = .returned (.tuple #[y.v, .bool b]) ∧ y.con = s ∧ BagOwn w' w.heap.size y.rows ∧ Below w.heap.size w w'
def GaveSN (w : World) (s : S6) (n : Int) (e : Ending) (w' : World) : Prop :=
  ∃ y : LS, e = .returned (.tuple #[y.v, .int .i64 n]) ∧ y.con = s ∧ BagOwn w' w.heap.size y.rows ∧ Below w.heap.size w w'
def GaveSKB (w : World) (s : S6) (k : K) (b : Bool) (e : Ending) (w' : World) : Prop :=
  ∃ y : LS, e = .returned (.tuple #[y.v, k.v, .bool b]) ∧ y.con = s ∧ BagOwn w' w.heap.size y.rows ∧ Below w.heap.size w w'
end Go.Proofs.Ytmnedjhfibmcnaa.L6

/-
  Mathematics of stores: when a store is valid behind a change of one record or behind an insertion. No condition.
-/
namespace Go.Proofs.Ytmnedjhfibmcnaa.L6
set_option maxRecDepth 100000
open L4 (K isK cmpK R inR encU)
open L5 (F isR isN cellsF encR eqR Small)
set_option linter.unusedVariables false

theorem isI_iff {xs : List It} : isI xs = true ↔ (∀ i (h : i < xs.length), isK xs[i].k = true ∧ isR xs[i].l = true) ∧ ∀ i (h : i + 1 < xs.length), cmpK xs[i].k xs[i + 1].k < 0 := by
  constructor
  · intro h
    refine ⟨fun i hi => ?_, fun i hi => ?_⟩
    · have h1 := isI_at h i hi
      rw [okIx_at (List.getElem?_eq_getElem hi)] at h1
      simp only [Bool.and_eq_true] at h1
      exact ⟨h1.1, h1.2.1⟩
    · have h1 := isI_at h (i + 1) hi
      rw [okIx_succ i hi] at h1
      simp only [Bool.and_eq_true, decide_eq_true_eq] at h1
      exact h1.2.2
  · rintro ⟨h1, h2⟩
    refine isI_all fun i hi => ?_
    rcases i with _ | j
    · rw [okIx_zero hi, (h1 0 hi).1, (h1 0 hi).2]; rfl
    · rw [okIx_succ j hi, (h1 _ hi).1, (h1 _ hi).2, decide_eq_true (h2 j hi)]; rfl
theorem isI_bad {xs : List It} (i : Nat) (x : It) (hx : xs[i]? = some x) (h : (isK x.k && isR x.l) = false) : isI xs = false := by
  cases h1 : isI xs with
  | false => rfl
  | true =>
    obtain ⟨hi, rfl⟩ := List.getElem?_eq_some_iff.1 hx
    have h2 := (isI_iff.1 h1).1 i hi
    rw [h2.1, h2.2] at h
    cases h
theorem isI_set {xs : List It} (h : isI xs = true) (i : Nat) (hi : i < xs.length) (l : List F) : isI (xs.set i ⟨xs[i].k, l⟩) = isR l := by
  have hx := isI_iff.1 h
  cases hl : isR l with
  | false => exact isI_bad i ⟨xs[i].k, l⟩ (by rw [List.getElem?_set_self hi]) (by show (isK xs[i].k && isR l) = false; rw [hl, Bool.and_false])
  | true =>
    have hk : ∀ j (hj : j < (xs.set i ⟨xs[i].k, l⟩).length), (xs.set i ⟨xs[i].k, l⟩)[j].k = (xs[j]'(by simpa using hj)).k := fun j hj => by
      rw [List.getElem_set]
      split
      · rename_i e; subst e; rfl
      · rfl
    refine isI_iff.2 ⟨fun j hj => ?_, fun j hj => ?_⟩
    · have hj' : j < xs.length := by simpa using hj
      refine ⟨by rw [hk j hj]; exact (hx.1 j hj').1, ?_⟩
      rw [List.getElem_set]
      split
      · exact hl
      · exact (hx.1 j hj').2
    · rw [hk j (by omega), hk (j + 1) hj]
      exact hx.2 j (by simpa using hj)
theorem get_ins (xs : List It) (p : Nat) (hp : p ≤ xs.length) (z : It) (i : Nat) :
    (xs.take p ++ z :: xs.drop p)[i]? = if i < p then xs[i]? else if i = p then some z else xs[i - 1]? := by
  rw [List.getElem?_append, List.length_take, Nat.min_eq_left hp]
  split
  · rw [List.getElem?_take, if_pos (by assumption)]
  · rename_i h
    split
    · rename_i e; subst e; simp
    · rw [show i - p = (i - p - 1) + 1 by omega, List.getElem?_cons_succ, List.getElem?_drop]
      congr 1
      omega
theorem isI_ins {xs : List It} (h : isI xs = true) (k : K) (l : List F) (p : Nat) (hp : p ≤ xs.length) (hk : isK k = true) (hl : isR l = true) (hlo : ∀ j (hj : j < xs.length), j < p → cmpK xs[j].k k < 0) (hhi : ∀ hj : p < xs.length, cmpK k xs[p].k < 0) : isI (xs.take p ++ ⟨k, l⟩ :: xs.drop p) = true := by
  have hx := isI_iff.1 h
  have hlen : (xs.take p ++ (⟨k, l⟩ : It) :: xs.drop p).length = xs.length + 1 := by simp; omega
  have hg : ∀ i (hi : i < (xs.take p ++ (⟨k, l⟩ : It) :: xs.drop p).length) (z : It), (if i < p then xs[i]? else if i = p then some ⟨k, l⟩ else xs[i - 1]?) = some z → (xs.take p ++ (⟨k, l⟩ : It) :: xs.drop p)[i] = z := fun i hi z hz => by
    have h1 := get_ins xs p hp ⟨k, l⟩ i
    rw [hz, List.getElem?_eq_getElem hi] at h1
    exact Option.some.inj h1
  refine isI_iff.2 ⟨fun i hi => ?_, fun i hi => ?_⟩
  · rcases Nat.lt_trichotomy i p with h1 | h1 | h1
    · rw [hg i hi xs[i] (by rw [if_pos h1, List.getElem?_eq_getElem])]
      exact hx.1 i (by omega)
    · rw [hg i hi ⟨k, l⟩ (by rw [if_neg (by omega), if_pos h1])]
      exact ⟨hk, hl⟩
    · have : i - 1 < xs.length := by omega
      rw [hg i hi xs[i - 1] (by rw [if_neg (by omega), if_neg (by omega), List.getElem?_eq_getElem])]
      exact hx.1 (i - 1) this
  · rcases Nat.lt_trichotomy (i + 1) p with h1 | h1 | h1
    · rw [hg i (by omega) xs[i] (by rw [if_pos (by omega), List.getElem?_eq_getElem]), hg (i + 1) hi xs[i + 1] (by rw [if_pos h1, List.getElem?_eq_getElem])]
      exact hx.2 i (by omega)
    · rw [hg i (by omega) xs[i] (by rw [if_pos (by omega), List.getElem?_eq_getElem]), hg (i + 1) hi ⟨k, l⟩ (by rw [if_neg (by omega), if_pos h1])]
      exact hlo i (by omega) (by omega)
    · rcases Nat.lt_or_ge p i with h2 | h2
      · have h3 : i - 1 + 1 < xs.length := by omega
        rw [hg i (by omega) xs[i - 1] (by rw [if_neg (by omega), if_neg (by omega), List.getElem?_eq_getElem]), hg (i + 1) hi (xs[i - 1 + 1]'h3) (by
          rw [if_neg (by omega), if_neg (by omega), List.getElem?_eq_getElem (show i + 1 - 1 < xs.length by omega)]
          congr 2
          omega)]
        exact hx.2 (i - 1) h3
      · obtain rfl : i = p := by omega
        have h3 : i < xs.length := by omega
        rw [hg i (by omega) ⟨k, l⟩ (by rw [if_neg (by omega), if_pos rfl]), hg (i + 1) hi (xs[i]'h3) (by
          rw [if_neg (by omega), if_neg (by omega), List.getElem?_eq_getElem (show i + 1 - 1 < xs.length by omega)]
          congr 2)]
        exact hhi h3
theorem isS_iff {s : S6} : isS s = true ↔ isI s.items = true ∧ isN s.name.data.toList = true ∧ s.items.length ≤ 16 ∧ 0 ≤ s.auto ∧ s.auto ≤ 1000000 := by
  unfold isS
  simp only [Bool.and_eq_true, decide_eq_true_eq, L1.inB_true]
theorem fndO_ne {xs : List It} {k : K} (h : fndO xs k = none) : ∀ x ∈ xs, x.k ≠ k := fun x hx e => by
  unfold fndO at h
  rw [List.findIdx?_eq_none_iff] at h
  have := h x hx
  rw [e, eqK_refl] at this
  cases this
theorem fndO_cmp {xs : List It} {k : K} (hv : isI xs = true) (hk : isK k = true) (h : fndO xs k = none) : ∀ x ∈ xs, cmpK x.k k ≠ 0 := fun x hx e => by
  obtain ⟨j, hj, rfl⟩ := List.getElem_of_mem hx
  exact fndO_ne h _ hx ((L4.cmpK_zero ((isI_iff.1 hv).1 j hj).1 hk).1 e)
theorem posI_spec (xs : List It) (k : K) : (∀ j (hj : j < xs.length), j < posI xs k → cmpK xs[j].k k < 0) ∧ ∀ hj : posI xs k < xs.length, ¬ cmpK xs[posI xs k].k k < 0 := by
  unfold posI
  cases h : xs.findIdx? fun x => !decide (cmpK x.k k < 0) with
  | none =>
    rw [List.findIdx?_eq_none_iff] at h
    refine ⟨fun j hj _ => ?_, fun hj => absurd hj (by simp)⟩
    have := h _ (List.getElem_mem hj)
    simpa using this
  | some i =>
    rw [List.findIdx?_eq_some_iff_getElem] at h
    obtain ⟨hi, h1, h2⟩ := h
    refine ⟨fun j hj hji => ?_, fun hj => ?_⟩
    · have := h2 j hji
      simpa using this
    · simpa using h1
theorem nextAuto_range {auto : Int} (k : K) (h0 : 0 ≤ auto) (h1 : auto ≤ 1000000) : auto ≤ nextAuto auto k ∧ nextAuto auto k ≤ 1000000 := by
  unfold nextAuto
  split
  · rename_i h
    simp only [Bool.and_eq_true, L1.inB_true] at h
    omega
  · omega
theorem putI_valid {s : S6} (k : K) (l : List F) (h : isS s = true) : isS (putI s k l).1 = true := by
  obtain ⟨h1, h2, h3, h4, h5⟩ := isS_iff.1 h
  unfold putI
  split
  · rename_i hg
    simp only [Bool.and_eq_true] at hg
    cases hf : fndO s.items k with
    | some i =>
      obtain ⟨hi, hki⟩ := fndO_some hf
      have e := isI_set h1 i hi l
      rw [hki] at e
      exact isS_iff.2 ⟨by show isI (s.items.set i ⟨k, l⟩) = true; rw [e]; exact hg.2.2, h2, by show (s.items.set i _).length ≤ 16; rw [List.length_set]; exact h3, h4, h5⟩
    | none =>
      dsimp only
      split
      · exact h
      · have hp := posI_spec s.items k
        have ha := nextAuto_range k h4 h5
        refine isS_iff.2 ⟨isI_ins h1 k l _ (posI_le _ _) hg.2.1 hg.2.2 hp.1 (fun hj => ?_), h2, ?_, by show 0 ≤ nextAuto s.auto k; omega, by show nextAuto s.auto k ≤ 1000000; omega⟩
        · have e1 := hp.2 hj
          have e2 := fndO_cmp h1 hg.2.1 hf _ (List.getElem_mem hj)
          rw [L4.cmpK_swap]
          omega
        · have := posI_le s.items k
          simp
          omega
  · exact h
theorem FitS.set {n : ByteArray} {xs : List It} {u u2 : Int} (h : FitS ⟨n, xs, u⟩) (i : Nat) (z : It) (hz : FitI z) : FitS ⟨n, xs.set i z, u2⟩ :=
  ⟨h.name, by show (xs.set i z).length ≤ _; rw [List.length_set]; exact h.len, fun x hx => by
    rcases List.mem_or_eq_of_mem_set hx with h1 | h1
    · exact h.items x h1
    · rw [h1]; exact hz⟩
theorem FitS.ins {n : ByteArray} {xs : List It} {u u2 : Int} (h : FitS ⟨n, xs, u⟩) (p : Nat) (z : It) (hz : FitI z) (hl : xs.length ≤ 1000) : FitS ⟨n, xs.take p ++ z :: xs.drop p, u2⟩ :=
  ⟨h.name, by show (xs.take p ++ z :: xs.drop p).length ≤ _; simp; omega, fun x hx => by
    rcases List.mem_append.1 hx with h1 | h1
    · exact h.items x (List.mem_of_mem_take h1)
    · rcases List.mem_cons.1 h1 with h2 | h2
      · rw [h2]; exact hz
      · exact h.items x (List.mem_of_mem_drop h2)⟩
end Go.Proofs.Ytmnedjhfibmcnaa.L6

/-
  What the results of chapter 6's functions may hold, for the exact laws. No condition.
-/
namespace Go.Proofs.Ytmnedjhfibmcnaa.L6
set_option maxRecDepth 100000
open L4 (K isK cmpK R inR encU)
open L5 (F isR isN cellsF encR eqR Small)
set_option linter.unusedVariables false
theorem FitS_put {s : S6} {k : K} {l : List F} (h : FitS s) (hz : FitI ⟨k, l⟩) : FitS (putI s k l).1 := by
  obtain ⟨n, xs, u⟩ := s
  unfold putI
  split
  · rename_i hg
    split
    · exact h.set _ _ hz
    · split
      · exact h
      · rename_i h2
        exact h.ins _ _ hz (by dsimp only at h2; omega)
  · exact h
theorem FitI_in {xs : List It} {r : R} (h : ∀ x ∈ xs, FitI x) : ∀ x ∈ inI xs r, FitI x := fun x hx => h x ((List.mem_filter.1 hx).1)
theorem FitS_del {s : S6} {r : R} (h : FitS s) : FitS (delS s r) := by
  unfold delS
  split
  · exact ⟨h.name, Nat.le_trans (List.length_filter_le _ _) h.len, fun x hx => h.items x ((List.mem_filter.1 hx).1)⟩
  · exact h
theorem inI_len {xs : List It} {r : R} (h : xs.length ≤ 1048576) : (inI xs r).length ≤ 1048576 := Nat.le_trans (List.length_filter_le _ _) h
end Go.Proofs.Ytmnedjhfibmcnaa.L6

/-
  The contract of chapter 5's SetField of the specification. Conditions: names of at most 2^48 bytes, a record of at most 2^40 fields. (The region that draws its order is written by my program gen_l5set.py.)
-/
namespace Go.Proofs.Ytmnedjhfibmcnaa.L5
set_option maxRecDepth 100000
open Go.Op (bytesLess)
open L4 (boxR push_box box_at)
open Go.ChangeShapes Go.WideShapes Go.ChangeAt Go.RowKit Mem Sl Ex L2 Sv
set_option linter.unusedVariables false
set_option linter.unusedSimpArgs false

theorem put_box5 {W w : World} {rs : List Res} {g : Nat} {t : TypeId} {cs : Array Value} (h : Sep W w rs) (i : Nat) (hi : rs[i]? = some (boxR g t cs)) (j : Nat) (v : Value) : Sep W (w.setCell ⟨g, j, none⟩ v) (rs.set i (boxR g t (cs.setIfInBounds j v))) :=
  h.put i hi (Turned.of_grown (grownBy_put w g j v)) ((box_at h i hi).put j v) (fun b hb => hb)
def posF (l : List F) (s : ByteArray) : Nat := (l.takeWhile fun f => bytesLess f.t s.data.toList).length
def putF (l : List F) (s : ByteArray) (x : Int) : List F :=
  match l[posF l s]? with
  | some f => if f.t = s.data.toList then l.set (posF l s) ⟨f.name, x⟩ else l.take (posF l s) ++ ⟨s, x⟩ :: l.drop (posF l s)
  | none => l ++ [⟨s, x⟩]
def setL (l : List F) (s : ByteArray) (x : Int) : List F := if isR l && isR (putF l s x) then putF l s x else l
def setB (l : List F) (s : ByteArray) (x : Int) : Bool := isR l && isR (putF l s x)
theorem posF_at {l : List F} {s : ByteArray} (k : Nat) (hk : k ≤ l.length) (h : ∀ j (hj : j < l.length), j < k → bytesLess l[j].t s.data.toList = true) (h2 : ∀ hj : k < l.length, bytesLess l[k].t s.data.toList = false) : posF l s = k := by
  unfold posF
  have e : l = l.take k ++ l.drop k := (List.take_append_drop k l).symm
  rw [e, List.takeWhile_append_of_pos (by
    intro f hf
    obtain ⟨i, hi, rfl⟩ := List.getElem_of_mem hf
    rw [List.getElem_take]
    simp at hi
    exact h i (by omega) (by omega))]
  by_cases hlt : k < l.length
  · have := List.drop_eq_getElem_cons hlt
    rw [this, List.takeWhile_cons, h2 hlt]
    simp
    omega
  · rw [List.drop_of_length_le (by omega)]
    simp
    omega
theorem cellsF_set : ∀ (l : List F) (k : Nat) (h : k < l.length) (x : Int), (cellsF l).set (k * 2 + 1) (.int .i64 x) = cellsF (l.set k ⟨l[k].name, x⟩)
  | f :: l, 0, _, x => rfl
  | f :: l, k + 1, h, x => by
    have := cellsF_set l k (by simpa using h) x
    rw [cellsF_cons, show (k + 1) * 2 + 1 = k * 2 + 1 + 1 + 1 by omega, List.set_cons_succ, List.set_cons_succ, this]
    rfl
theorem reads_prefix {w : World} {B : Nat} {a : Option Addr} {l : List F} (h : Reads w B a (cellsF l)) (k : Nat) : Reads w B a (cellsF (l.take k)) := fun j hj => by
  have e : cellsF l = cellsF (l.take k) ++ cellsF (l.drop k) := by rw [← cellsF_append, List.take_append_drop]
  obtain ⟨ad, e1, hb, hc⟩ := h j (by rw [e, List.length_append]; omega)
  refine ⟨ad, e1, hb, hc.trans ?_⟩
  congr 1
  simp only [e]
  exact List.getElem_append_left hj
theorem reads_suffix {w : World} {B : Nat} {ad : Addr} {l : List F} (h : Reads w B (some ad) (cellsF l)) (k : Nat) : Reads w B (some (ad.add (k * 2))) (cellsF (l.drop k)) := fun j hj => by
  by_cases hk : k ≤ l.length
  · have e : cellsF l = cellsF (l.take k) ++ cellsF (l.drop k) := by rw [← cellsF_append, List.take_append_drop]
    have e2 : (cellsF (l.take k)).length = k * 2 := by rw [cellsF_length, List.length_take, Nat.min_eq_left hk]
    obtain ⟨ad', e1, hb, hc⟩ := h (k * 2 + j) (by rw [e, List.length_append, e2]; omega)
    injection e1 with e1
    subst e1
    refine ⟨_, rfl, by rw [add_block]; exact hb, ?_⟩
    rw [add_add, hc]
    congr 1
    simp only [e]
    rw [List.getElem_append_right (by omega)]
    congr 1
    omega
  · rw [List.drop_of_length_le (by omega)] at hj
    simp [cellsF_nil] at hj
set_option maxHeartbeats 3000000 in
theorem specSetField_any (a : Option Addr) (c : Nat) (l : List F) (s : ByteArray) (x : Int) (hl : l.length < 1099511627776) (hsm : Small l) (hss : s.size ≤ 281474976710656) (w : World) (hr : Reads w w.heap.size a (cellsF l)) (hc : l.length ≤ c) (hz : a = none → c = 0) :
    Calls Try.prog 138 #[.agg #[.slice a l.length c], .string s, .int .i64 x] w (GaveRB w (setL l s x) (setB l s x)) := by
  obtain ⟨i0, hi, hz0, hz1, hz2⟩ := fieldInfo
  have HI := Lib.hid (And.intro hi (And.intro hz0 (And.intro hz1 hz2)))
  have HR := Lib.hid (fun w' (h : Below w.heap.size w w') => hr.below h)
  have HS := Lib.hid (fun w' (h : Below w.heap.size w w') => specIsRecord_any a c l (Nat.le_of_lt hl) hsm w' ((hr.below h).more h.size))
  have HL := Lib.hid (fun w' (h : Below w.heap.size w w') => l5Copy_any a c l (Nat.le_of_lt hl) w' ((hr.below h).more h.size))
  have HSM := Lib.hid (show Small (putF l s x) by
    unfold putF
    split
    · rename_i f hf
      have hfm := List.mem_of_getElem? hf
      split
      · intro g hg
        rcases List.mem_or_eq_of_mem_set hg with h | rfl
        · exact hsm g h
        · exact hsm f hfm
      · intro g hg
        simp only [List.mem_append, List.mem_cons] at hg
        rcases hg with h | rfl | h
        · exact hsm g (List.mem_of_mem_take h)
        · exact hss
        · exact hsm g (List.mem_of_mem_drop h)
    · intro g hg
      simp only [List.mem_append, List.mem_singleton] at hg
      rcases hg with h | rfl
      · exact hsm g h
      · exact hss)
  obtain ⟨n, hn⟩ : ∃ n, n = l.length := ⟨_, rfl⟩
  rw [← hn] at hl HS HL hc ⊢
  have HN := Lib.hid hn
  have hl' : (n : Int) < 1099511627776 := by omega
  have hc' : (n : Int) ≤ (c : Int) := by omega
  clear hn hr hsm
  obtain ⟨br, hbr⟩ : ∃ b, isR l = b := ⟨_, rfl⟩
  rw [hbr] at HS
  have S0 := Sep.start w
  have S1 := push_box S0 41 #[.slice a n c] w.heap.size rfl
  have S2 := push_box S1 41 #[.slice none 0 0] (w.heap.size + 1) (by simp)
  clear S0 S1
  go_enter Try.func138, Try.ntmps138
  go_wp2_with fail
  go_at_call 128
  refine (HL.out _ S2.old).mono ?_
  rintro e w3 ⟨a4, c4, rfl, ho3, hb3⟩
  have S3 := push_own S2 hb3 ho3
  clear hb3 ho3 S2
  obtain ⟨G, hG⟩ : ∃ g, g = w3.heap.size := ⟨_, rfl⟩
  obtain ⟨w4, hw4⟩ : ∃ u, u = w3.alloc (.cells #[.slice a4 n c4] 41) := ⟨_, rfl⟩
  have S4 := push_box S3 41 #[.slice a4 n c4] G hG
  rw [← hw4] at S4
  go_upto_region 2 with fail
  rw [← hw4, ← hG]
  clear hw4 hG S3
  have H4 := Lib.hid S4
  obtain ⟨r0, r1⟩ := Row.one (box_at S4 0 rfl)
  obtain ⟨o0, o1⟩ := Row.one (box_at S4 3 rfl)
  clear S4
  go_wp2
  go_loop [9] (fun i => ∃ k : Nat, k ≤ n ∧ i = .int .i64 k ∧ Hid (∀ j (hj : j < l.length), j < k → bytesLess l[j].t s.data.toList = true)) (fun i => n - (intOf i).toNat)
  case atStart => exact ⟨0, Nat.zero_le _, rfl, fun j hj h => by omega⟩
  case round =>
    obtain ⟨k, hk, rfl, hrel⟩ := hrel
    by_cases hlt : (k : Int) < (n : Int)
    · have hkl : k < l.length := by have := HN.out; omega
      obtain ⟨ad, rfl, had, h1, h2⟩ := readsF (HR.out _ H4.out.old) k hkl
      obtain ⟨t, ht⟩ : ∃ t, t = l[k].name := ⟨_, rfl⟩
      have HKT := Lib.hid (show l[k].t = t.data.toList by unfold F.t; rw [ht])
      rw [← ht] at h1
      obtain ⟨bo, hbo⟩ : ∃ b, bytesLess t.toList s.toList = b := ⟨_, rfl⟩
      have HB := Lib.hid (show bytesLess l[k].t s.data.toList = bo by rw [HKT.out, ← hbo, ByteArray.toList_eq, ByteArray.toList_eq])
      have HT := Lib.hid ht
      clear ht
      cases bo with
      | true =>
        go_wp2_with fail
        go_round
        case rel => exact ⟨k + 1, by omega, by go_num, fun j hj h => by
          by_cases e : j < k
          · exact hrel.out j hj e
          · obtain rfl : j = k := by omega
            exact HB.out⟩
        case measure => simp [intOf]; omega
      | false =>
        have HPO := Lib.hid (posF_at k (by omega) hrel.out (fun _ => HB.out))
        by_cases he : t.data.toList = s.data.toList
        · have heq : (t.toList == s.toList) = true := by rw [ByteArray.toList_eq, ByteArray.toList_eq, he, beq_self_eq_true]
          have HPU := Lib.hid (show putF l s x = l.set k ⟨l[k].name, x⟩ by
            unfold putF
            rw [HPO.out, List.getElem?_eq_getElem hkl]
            simp only [HKT.out, he, if_true])
          have HU := Lib.hid (show (putF l s x).length = n by rw [HPU.out, List.length_set, HN.out])
          rcases (own_at H4.out 2 rfl).form with ⟨_, h9, _⟩ | ⟨g4, rfl, _, _, _⟩
          · omega
          have SX5 := set_own H4.out 2 rfl (k * 2 + 1) (by rw [cellsF_length]; omega) (.int .i64 x)
          have hcx := (own_at H4.out 2 rfl).cell (k * 2 + 1) (by rw [cellsF_length]; omega)
          have hfx := (own_at H4.out 2 rfl).free (k * 2 + 1)
          have HQ := Lib.hid (show Sep w (w4.setCell ⟨g4, k * 2 + 1, none⟩ (.int .i64 x)) [boxR w.heap.size 41 #[.slice (some ad) n c], boxR (w.heap.size + 1) 41 #[.slice none 0 0], boxR G 41 #[.slice (some ⟨g4, 0, none⟩) n c4], ownV 107 2 (some ⟨g4, 0, none⟩) c4 n (cellsF (putF l s x))] from by
            have h9 := sep_pick SX5 [0, 1, 3, 2] rfl (by decide) rfl rfl rfl rfl
            rw [cellsF_set l k hkl x, ← HPU.out] at h9
            exact h9)
          obtain ⟨q0, q1⟩ := Row.one (box_at HQ.out 0 rfl)
          clear SX5
          clear q0 q1 r0 r1 o0 o1
          have r0 := (Row.one (box_at H4.out 0 rfl)).1
          have o0 := (Row.one (box_at H4.out 3 rfl)).1
          go_upto_region 8 with fail
          clear r0 o0 hcx hfx
          have SQ := HQ.out
          obtain ⟨r0, r1⟩ := Row.one (box_at SQ 0 rfl)
          obtain ⟨o0, o1⟩ := Row.one (box_at SQ 2 rfl)
          go_wp2_with fail
          go_at_call 69
          refine (HS.out _ SQ.old).mono ?_
          rintro e w7 ⟨rfl, h7⟩
          have S7 := SQ.keep h7
          clear h7 SQ HQ r0 r1 o0 o1
          obtain ⟨r0, r1⟩ := Row.one (box_at S7 0 rfl)
          obtain ⟨z0, z1⟩ := Row.one (box_at S7 1 rfl)
          obtain ⟨o0, o1⟩ := Row.one (box_at S7 2 rfl)
          cases br with
          | false =>
            have HE := Lib.hid (show setL l s x = l ∧ setB l s x = false by unfold setL setB; rw [hbr]; exact ⟨rfl, rfl⟩)
            go_wp2_with fail
            go_at_call 128
            refine (HL.out _ S7.old).mono ?_
            rintro e w8 ⟨a8, c8, rfl, ho8, hb8⟩
            have S8 := push_own S7 hb8 ho8
            clear hb8 ho8 S7 r0 r1 z0 z1 o0 o1
            obtain ⟨z0, z1⟩ := Row.one (box_at S8 1 rfl)
            have S9 := Lib.hid (put_box5 S8 1 rfl 0 (.slice a8 n c8))
            go_wp2_with fail
            refine bodyPost_ret (v := .tuple #[.agg #[.slice a8 n c8], .bool false]) (by simp [results, Try.results138, go_sem, z0]) rfl ?_
            unfold GaveRB
            rw [HE.out.1, HE.out.2, ← HN.out]
            exact ⟨a8, c8, rfl, own_from S9.out 4 rfl, S9.out.old⟩
          | true =>
            have HO := Lib.hid (specIsRecord_any (some ⟨g4, 0, none⟩) c4 (putF l s x) (by rw [HU.out]; omega) HSM.out w7 (own_at S7 3 rfl).reads)
            rw [HU.out] at HO
            obtain ⟨bo, hbo⟩ : ∃ b, isR (putF l s x) = b := ⟨_, rfl⟩
            rw [hbo] at HO
            go_wp2_with fail
            go_at_call 69
            refine HO.out.mono ?_
            rintro e w8 ⟨rfl, h8⟩
            have S8 := S7.keep h8
            clear h8 S7 r0 r1 z0 z1 o0 o1
            obtain ⟨r0, r1⟩ := Row.one (box_at S8 0 rfl)
            obtain ⟨z0, z1⟩ := Row.one (box_at S8 1 rfl)
            obtain ⟨o0, o1⟩ := Row.one (box_at S8 2 rfl)
            cases bo with
            | false =>
              have HE := Lib.hid (show setL l s x = l ∧ setB l s x = false by unfold setL setB; rw [hbr, hbo]; exact ⟨rfl, rfl⟩)
              go_wp2_with fail
              go_at_call 128
              refine (HL.out _ S8.old).mono ?_
              rintro e w9 ⟨a8, c8, rfl, ho8, hb8⟩
              have S9 := push_own S8 hb8 ho8
              clear hb8 ho8 S8 r0 r1 z0 z1 o0 o1
              obtain ⟨z0, z1⟩ := Row.one (box_at S9 1 rfl)
              have SX := Lib.hid (put_box5 S9 1 rfl 0 (.slice a8 n c8))
              go_wp2_with fail
              refine bodyPost_ret (v := .tuple #[.agg #[.slice a8 n c8], .bool false]) (by simp [results, Try.results138, go_sem, z0]) rfl ?_
              unfold GaveRB
              rw [HE.out.1, HE.out.2, ← HN.out]
              exact ⟨a8, c8, rfl, own_from SX.out 4 rfl, SX.out.old⟩
            | true =>
              have HE := Lib.hid (show setL l s x = putF l s x ∧ setB l s x = true by unfold setL setB; rw [hbr, hbo]; exact ⟨rfl, rfl⟩)
              have SX := Lib.hid (put_box5 S8 1 rfl 0 (.slice (some ⟨g4, 0, none⟩) n c4))
              go_wp2_with fail
              refine bodyPost_ret (v := .tuple #[.agg #[.slice (some ⟨g4, 0, none⟩) n c4], .bool true]) (by simp [results, Try.results138, go_sem, z0]) rfl ?_
              unfold GaveRB
              rw [HE.out.1, HE.out.2, HU.out]
              exact ⟨some ⟨g4, 0, none⟩, c4, rfl, own_from SX.out 3 rfl, SX.out.old⟩
        · have heq : (t.toList == s.toList) = false := by rw [ByteArray.toList_eq, ByteArray.toList_eq, beq_eq_false_iff_ne]; exact he
          have HPU := Lib.hid (show putF l s x = l.take k ++ ⟨s, x⟩ :: l.drop k by
            unfold putF
            rw [HPO.out, List.getElem?_eq_getElem hkl]
            simp only [HKT.out, he, if_false])
          have HU := Lib.hid (show (putF l s x).length = n + 1 by rw [HPU.out, List.length_append, List.length_cons, List.length_take, List.length_drop, ← HN.out]; omega)
          have HXS := Lib.hid (show cellsF (putF l s x) = cellsF (l.take k) ++ cellsF [⟨s, x⟩] ++ cellsF (l.drop k) by rw [HPU.out, cellsF_append, cellsF_cons, List.append_assoc]; rfl)
          have HK := Lib.hid (show (cellsF (l.take k)).length = k * 2 ∧ (cellsF (l.drop k)).length = (n - k) * 2 ∧ k + 1 + (n - k) = n + 1 by
            have e := HN.out
            refine ⟨by rw [cellsF_length, List.length_take, ← e, Nat.min_eq_left (by omega)], by rw [cellsF_length, List.length_drop, ← e], by omega⟩)
          have HRd := Lib.hid (fun w' (h : Below w.heap.size w w') (q : Nat) => reads_prefix (HR.out w' h) q)
          obtain ⟨m, hmn⟩ : ∃ m, m = n + 1 := ⟨_, rfl⟩
          rw [← hmn] at HU HK
          have hm' : (m : Int) ≤ 1099511627776 := by omega
          clear hmn
          have hck : ¬ c = k := by omega
          have hkc : k ≤ c := by omega
          have HRt := Lib.hid (show ∀ w' ad2, some ad = some ad2 → Below w.heap.size w w' → Reads w' w.heap.size (some (ad2.add (k * 2))) (cellsF (l.drop k)) from fun w' ad2 ha h => reads_suffix (by rw [← ha]; exact HR.out w' h) k)
          go_upto_region 7 with fail
          go_cut [9] (fun y wx => y = .int .i64 k ∧ ∃ A C, Hid (Sep w wx [boxR w.heap.size 41 #[.slice (some ad) n c], boxR (w.heap.size + 1) 41 #[.slice none 0 0], boxR G 41 #[.slice A m C], ownV 107 2 A C m (cellsF (putF l s x))]))
          case first =>
            refine wp_region_held_drew (S := fun w' => w'.cell? ⟨w.heap.size, 0, none⟩ = some (.slice (some ad) n c)) (by kernel_rfl) r0 (fun hS => ?_)
            have S6 : Sep w w4.drew _ := H4.out.drews 1
            clear r0 r1 o0 o1
            generalize w4.drew = wd at hS S6 ⊢
            refine tk 1 rfl ?_
            try simp only [zp0, zp1, zp2, zp3, zp4]
            refine tk 2 rfl ?_
            try simp only [zp0, zp1, zp2, zp3, zp4]
            refine tk 3 rfl ?_
            try simp only [zp0, zp1, zp2, zp3, zp4]
            refine tk 4 rfl ?_
            try simp only [zp0, zp1, zp2, zp3, zp4]
            refine tk 6 rfl ?_
            try simp only [zp0, zp1, zp2, zp3, zp4]
            refine tk 7 rfl ?_
            try simp only [zp0, zp1, zp2, zp3, zp4]
            refine tk 8 rfl ?_
            try simp only [zp0, zp1, zp2, zp3, zp4]
            refine tk 11 rfl ?_
            try simp only [zp0, zp1, zp2, zp3, zp4]
            refine tk 12 rfl ?_
            try simp only [zp0, zp1, zp2, zp3, zp4]
            refine tk 13 rfl ?_
            try simp only [zp0, zp1, zp2, zp3, zp4]
            refine tk 14 rfl ?_
            try simp only [zp0, zp1, zp2, zp3, zp4]
            refine wpAnyH_ready (rs := [0, 9]) (by kernel_rfl) (by simp) ?_
            refine Reg.cons_op (i := 0) rfl (fun K hK => ?_) ?_
            · have S1y := push_own S6 ((Below.refl _ _).alloc (Nat.le_refl _) _) (OwnV.emptyAt wd 107 2 wd.heap.size rfl (Nat.le_refl _))
              go_simp
              refine hK.out _ _ (Row.one (box_at S1y 0 rfl)).1 (fun hS => ?_)
              clear hK K
              try simp only [zp0, zp1, zp2, zp3, zp4]
              obtain ⟨b1, hb1⟩ : ∃ b, b = wd.heap.size := ⟨_, rfl⟩
              rw [← hb1] at S1y ⊢
              generalize wd.alloc (.cells #[] 107) = w1y at hS S1y ⊢
              clear hb1
              refine wpAnyH_ready (rs := [5, 9]) (by kernel_rfl) (by simp) ?_
              refine Reg.cons_op (i := 5) rfl (fun K hK => ?_) ?_
              · refine step_append_s S1y 4 rfl rfl _ _ 39 (by rfl) i0 (.agg #[.string ⟨#[]⟩, .int .i64 0]) 24 Try.underlying39 HI.out.1 HI.out.2.1 HI.out.2.2.1 HI.out.2.2.2 rfl (by omega) _ (by rfl) rfl _ _ k _ _ (cellsF (l.take k)) (by rfl) rfl (HRd.out _ S1y.old k) HK.out.1 (cellsF_one _) (by unfold maxLen; omega) (by omega) ?_
                intro a2y c2y w2y S2y
                try simp only [List.set_cons_zero, List.set_cons_succ, List.set_nil, List.append_nil, List.nil_append, List.cons_append] at S2y
                simp only [Nat.zero_add] at S2y ⊢
                refine hK.out _ _ (Row.one (box_at S2y 0 rfl)).1 (fun hS => ?_)
                clear hK K
                try simp only [zp0, zp1, zp2, zp3, zp4]
                refine wpAnyH_ready (rs := [9]) (by kernel_rfl) (by simp) ?_
                refine Reg.cons_op (i := 9) rfl (fun K hK => ?_) ?_
                · have S3y := push_own S2y ((Below.refl _ _).alloc (Nat.le_refl _) _) (OwnV.madeAt w2y 107 2 1 w2y.heap.size #[.string s, .int .i64 x] rfl (Nat.le_refl _) rfl (by decide))
                  go_simp
                  refine hK.out _ _ (Row.one (box_at S3y 0 rfl)).1 (fun hS => ?_)
                  clear hK K
                  try simp only [zp0, zp1, zp2, zp3, zp4]
                  obtain ⟨b3, hb3⟩ : ∃ b, b = w2y.heap.size := ⟨_, rfl⟩
                  rw [← hb3] at S3y ⊢
                  generalize w2y.alloc (.cells #[.string s, .int .i64 x] 107) = w3y at hS S3y ⊢
                  clear hb3
                  refine wpAnyH_ready (rs := [10]) (by kernel_rfl) (by simp) ?_
                  refine Reg.cons_op (i := 10) rfl (fun K hK => ?_) ?_
                  · refine step_append_s S3y 4 rfl rfl _ _ 39 (by rfl) i0 (.agg #[.string ⟨#[]⟩, .int .i64 0]) 24 Try.underlying39 HI.out.1 HI.out.2.1 HI.out.2.2.1 HI.out.2.2.2 rfl (by omega) _ (by rfl) (by omega) _ _ 1 _ _ (cellsF [⟨s, x⟩]) (by rfl) rfl (own_at S3y 5 rfl).reads rfl (cellsF_one _) (by unfold maxLen; omega) (by omega) ?_
                    intro a4y c4y w4y S4y
                    try simp only [List.set_cons_zero, List.set_cons_succ, List.set_nil, List.append_nil, List.nil_append, List.cons_append] at S4y
                    refine hK.out _ _ (Row.one (box_at S4y 0 rfl)).1 (fun hS => ?_)
                    clear hK K
                    try simp only [zp0, zp1, zp2, zp3, zp4]
                    refine wpAnyH_ready (rs := [15]) (by kernel_rfl) (by simp) ?_
                    refine Reg.cons_op (i := 15) rfl (fun K hK => ?_) ?_
                    · refine step_append_s S4y 4 rfl rfl _ _ 39 (by rfl) i0 (.agg #[.string ⟨#[]⟩, .int .i64 0]) 24 Try.underlying39 HI.out.1 HI.out.2.1 HI.out.2.2.1 HI.out.2.2.2 rfl (by omega) _ (by rfl) (by omega) _ _ (n - k) _ _ (cellsF (l.drop k)) (by rfl) rfl (HRt.out _ _ rfl S4y.old) HK.out.2.1 (cellsF_one _) (by unfold maxLen; omega) (by omega) ?_
                      intro a5y c5y w5y S5y
                      try simp only [List.set_cons_zero, List.set_cons_succ, List.set_nil, List.append_nil, List.nil_append, List.cons_append] at S5y
                      refine hK.out _ _ (Row.one (box_at S5y 0 rfl)).1 (fun hS => ?_)
                      clear hK K
                      try simp only [zp0, zp1, zp2, zp3, zp4]
                      refine tk 16 rfl ?_
                      try simp only [zp0, zp1, zp2, zp3, zp4]
                      refine wpAnyH_ready (rs := [17]) (by kernel_rfl) (by simp) ?_
                      refine Reg.cons_op (i := 17) rfl (fun K hK => ?_) ?_
                      · have S6y := put_box5 S5y 3 rfl 0 (.slice a5y (k + 1 + (n - k)) c5y)
                        obtain ⟨g0, g1⟩ := Row.one (box_at S5y 3 rfl)
                        go_simp
                        refine hK.out _ _ (Row.one (box_at S6y 0 rfl)).1 (fun hS => ?_)
                        clear hK K
                        try simp only [zp0, zp1, zp2, zp3, zp4]
                        clear g0 g1
                        refine wpAnyH_done (by kernel_rfl) ?_ _
                        go_wp2_with fail
                        go_meet
                        case rel => exact ⟨rfl, a5y, c5y, by have h9 := sep_pick S6y [0, 1, 3, 4] rfl (by decide) rfl rfl rfl rfl; rw [HK.out.2.2] at h9; (try rw [HK.out.2.2]); rw [HXS.out]; exact h9⟩
                      exact AllReadyH.nil
                    exact AllReadyH.nil
                  exact AllReadyH.nil
                exact AllReadyH.nil
              refine Reg.cons_op (i := 9) rfl (fun K hK => ?_) ?_
              · have S7y := push_own S1y ((Below.refl _ _).alloc (Nat.le_refl _) _) (OwnV.madeAt w1y 107 2 1 w1y.heap.size #[.string s, .int .i64 x] rfl (Nat.le_refl _) rfl (by decide))
                go_simp
                refine hK.out _ _ (Row.one (box_at S7y 0 rfl)).1 (fun hS => ?_)
                clear hK K
                try simp only [zp0, zp1, zp2, zp3, zp4]
                obtain ⟨b7, hb7⟩ : ∃ b, b = w1y.heap.size := ⟨_, rfl⟩
                rw [← hb7] at S7y ⊢
                generalize w1y.alloc (.cells #[.string s, .int .i64 x] 107) = w7y at hS S7y ⊢
                clear hb7
                refine wpAnyH_ready (rs := [5]) (by kernel_rfl) (by simp) ?_
                refine Reg.cons_op (i := 5) rfl (fun K hK => ?_) ?_
                · refine step_append_s S7y 4 rfl rfl _ _ 39 (by rfl) i0 (.agg #[.string ⟨#[]⟩, .int .i64 0]) 24 Try.underlying39 HI.out.1 HI.out.2.1 HI.out.2.2.1 HI.out.2.2.2 rfl (by omega) _ (by rfl) rfl _ _ k _ _ (cellsF (l.take k)) (by rfl) rfl (HRd.out _ S7y.old k) HK.out.1 (cellsF_one _) (by unfold maxLen; omega) (by omega) ?_
                  intro a8y c8y w8y S8y
                  try simp only [List.set_cons_zero, List.set_cons_succ, List.set_nil, List.append_nil, List.nil_append, List.cons_append] at S8y
                  simp only [Nat.zero_add] at S8y ⊢
                  refine hK.out _ _ (Row.one (box_at S8y 0 rfl)).1 (fun hS => ?_)
                  clear hK K
                  try simp only [zp0, zp1, zp2, zp3, zp4]
                  refine wpAnyH_ready (rs := [10]) (by kernel_rfl) (by simp) ?_
                  refine Reg.cons_op (i := 10) rfl (fun K hK => ?_) ?_
                  · refine step_append_s S8y 4 rfl rfl _ _ 39 (by rfl) i0 (.agg #[.string ⟨#[]⟩, .int .i64 0]) 24 Try.underlying39 HI.out.1 HI.out.2.1 HI.out.2.2.1 HI.out.2.2.2 rfl (by omega) _ (by rfl) (by omega) _ _ 1 _ _ (cellsF [⟨s, x⟩]) (by rfl) rfl (own_at S8y 5 rfl).reads rfl (cellsF_one _) (by unfold maxLen; omega) (by omega) ?_
                    intro a9y c9y w9y S9y
                    try simp only [List.set_cons_zero, List.set_cons_succ, List.set_nil, List.append_nil, List.nil_append, List.cons_append] at S9y
                    refine hK.out _ _ (Row.one (box_at S9y 0 rfl)).1 (fun hS => ?_)
                    clear hK K
                    try simp only [zp0, zp1, zp2, zp3, zp4]
                    refine wpAnyH_ready (rs := [15]) (by kernel_rfl) (by simp) ?_
                    refine Reg.cons_op (i := 15) rfl (fun K hK => ?_) ?_
                    · refine step_append_s S9y 4 rfl rfl _ _ 39 (by rfl) i0 (.agg #[.string ⟨#[]⟩, .int .i64 0]) 24 Try.underlying39 HI.out.1 HI.out.2.1 HI.out.2.2.1 HI.out.2.2.2 rfl (by omega) _ (by rfl) (by omega) _ _ (n - k) _ _ (cellsF (l.drop k)) (by rfl) rfl (HRt.out _ _ rfl S9y.old) HK.out.2.1 (cellsF_one _) (by unfold maxLen; omega) (by omega) ?_
                      intro a10y c10y w10y S10y
                      try simp only [List.set_cons_zero, List.set_cons_succ, List.set_nil, List.append_nil, List.nil_append, List.cons_append] at S10y
                      refine hK.out _ _ (Row.one (box_at S10y 0 rfl)).1 (fun hS => ?_)
                      clear hK K
                      try simp only [zp0, zp1, zp2, zp3, zp4]
                      refine tk 16 rfl ?_
                      try simp only [zp0, zp1, zp2, zp3, zp4]
                      refine wpAnyH_ready (rs := [17]) (by kernel_rfl) (by simp) ?_
                      refine Reg.cons_op (i := 17) rfl (fun K hK => ?_) ?_
                      · have S11y := put_box5 S10y 3 rfl 0 (.slice a10y (k + 1 + (n - k)) c10y)
                        obtain ⟨g0, g1⟩ := Row.one (box_at S10y 3 rfl)
                        go_simp
                        refine hK.out _ _ (Row.one (box_at S11y 0 rfl)).1 (fun hS => ?_)
                        clear hK K
                        try simp only [zp0, zp1, zp2, zp3, zp4]
                        clear g0 g1
                        refine wpAnyH_done (by kernel_rfl) ?_ _
                        go_wp2_with fail
                        go_meet
                        case rel => exact ⟨rfl, a10y, c10y, by have h9 := sep_pick S11y [0, 1, 3, 4] rfl (by decide) rfl rfl rfl rfl; rw [HK.out.2.2] at h9; (try rw [HK.out.2.2]); rw [HXS.out]; exact h9⟩
                      exact AllReadyH.nil
                    exact AllReadyH.nil
                  exact AllReadyH.nil
                exact AllReadyH.nil
              exact AllReadyH.nil
            refine Reg.cons_op (i := 9) rfl (fun K hK => ?_) ?_
            · have S12y := push_own S6 ((Below.refl _ _).alloc (Nat.le_refl _) _) (OwnV.madeAt wd 107 2 1 wd.heap.size #[.string s, .int .i64 x] rfl (Nat.le_refl _) rfl (by decide))
              go_simp
              refine hK.out _ _ (Row.one (box_at S12y 0 rfl)).1 (fun hS => ?_)
              clear hK K
              try simp only [zp0, zp1, zp2, zp3, zp4]
              obtain ⟨b12, hb12⟩ : ∃ b, b = wd.heap.size := ⟨_, rfl⟩
              rw [← hb12] at S12y ⊢
              generalize wd.alloc (.cells #[.string s, .int .i64 x] 107) = w12y at hS S12y ⊢
              clear hb12
              refine wpAnyH_ready (rs := [0]) (by kernel_rfl) (by simp) ?_
              refine Reg.cons_op (i := 0) rfl (fun K hK => ?_) ?_
              · have S13y := push_own S12y ((Below.refl _ _).alloc (Nat.le_refl _) _) (OwnV.emptyAt w12y 107 2 w12y.heap.size rfl (Nat.le_refl _))
                go_simp
                refine hK.out _ _ (Row.one (box_at S13y 0 rfl)).1 (fun hS => ?_)
                clear hK K
                try simp only [zp0, zp1, zp2, zp3, zp4]
                obtain ⟨b13, hb13⟩ : ∃ b, b = w12y.heap.size := ⟨_, rfl⟩
                rw [← hb13] at S13y ⊢
                generalize w12y.alloc (.cells #[] 107) = w13y at hS S13y ⊢
                clear hb13
                refine wpAnyH_ready (rs := [5]) (by kernel_rfl) (by simp) ?_
                refine Reg.cons_op (i := 5) rfl (fun K hK => ?_) ?_
                · refine step_append_s S13y 5 rfl rfl _ _ 39 (by rfl) i0 (.agg #[.string ⟨#[]⟩, .int .i64 0]) 24 Try.underlying39 HI.out.1 HI.out.2.1 HI.out.2.2.1 HI.out.2.2.2 rfl (by omega) _ (by rfl) rfl _ _ k _ _ (cellsF (l.take k)) (by rfl) rfl (HRd.out _ S13y.old k) HK.out.1 (cellsF_one _) (by unfold maxLen; omega) (by omega) ?_
                  intro a14y c14y w14y S14y
                  try simp only [List.set_cons_zero, List.set_cons_succ, List.set_nil, List.append_nil, List.nil_append, List.cons_append] at S14y
                  simp only [Nat.zero_add] at S14y ⊢
                  refine hK.out _ _ (Row.one (box_at S14y 0 rfl)).1 (fun hS => ?_)
                  clear hK K
                  try simp only [zp0, zp1, zp2, zp3, zp4]
                  refine wpAnyH_ready (rs := [10]) (by kernel_rfl) (by simp) ?_
                  refine Reg.cons_op (i := 10) rfl (fun K hK => ?_) ?_
                  · refine step_append_s S14y 5 rfl rfl _ _ 39 (by rfl) i0 (.agg #[.string ⟨#[]⟩, .int .i64 0]) 24 Try.underlying39 HI.out.1 HI.out.2.1 HI.out.2.2.1 HI.out.2.2.2 rfl (by omega) _ (by rfl) (by omega) _ _ 1 _ _ (cellsF [⟨s, x⟩]) (by rfl) rfl (own_at S14y 4 rfl).reads rfl (cellsF_one _) (by unfold maxLen; omega) (by omega) ?_
                    intro a15y c15y w15y S15y
                    try simp only [List.set_cons_zero, List.set_cons_succ, List.set_nil, List.append_nil, List.nil_append, List.cons_append] at S15y
                    refine hK.out _ _ (Row.one (box_at S15y 0 rfl)).1 (fun hS => ?_)
                    clear hK K
                    try simp only [zp0, zp1, zp2, zp3, zp4]
                    refine wpAnyH_ready (rs := [15]) (by kernel_rfl) (by simp) ?_
                    refine Reg.cons_op (i := 15) rfl (fun K hK => ?_) ?_
                    · refine step_append_s S15y 5 rfl rfl _ _ 39 (by rfl) i0 (.agg #[.string ⟨#[]⟩, .int .i64 0]) 24 Try.underlying39 HI.out.1 HI.out.2.1 HI.out.2.2.1 HI.out.2.2.2 rfl (by omega) _ (by rfl) (by omega) _ _ (n - k) _ _ (cellsF (l.drop k)) (by rfl) rfl (HRt.out _ _ rfl S15y.old) HK.out.2.1 (cellsF_one _) (by unfold maxLen; omega) (by omega) ?_
                      intro a16y c16y w16y S16y
                      try simp only [List.set_cons_zero, List.set_cons_succ, List.set_nil, List.append_nil, List.nil_append, List.cons_append] at S16y
                      refine hK.out _ _ (Row.one (box_at S16y 0 rfl)).1 (fun hS => ?_)
                      clear hK K
                      try simp only [zp0, zp1, zp2, zp3, zp4]
                      refine tk 16 rfl ?_
                      try simp only [zp0, zp1, zp2, zp3, zp4]
                      refine wpAnyH_ready (rs := [17]) (by kernel_rfl) (by simp) ?_
                      refine Reg.cons_op (i := 17) rfl (fun K hK => ?_) ?_
                      · have S17y := put_box5 S16y 3 rfl 0 (.slice a16y (k + 1 + (n - k)) c16y)
                        obtain ⟨g0, g1⟩ := Row.one (box_at S16y 3 rfl)
                        go_simp
                        refine hK.out _ _ (Row.one (box_at S17y 0 rfl)).1 (fun hS => ?_)
                        clear hK K
                        try simp only [zp0, zp1, zp2, zp3, zp4]
                        clear g0 g1
                        refine wpAnyH_done (by kernel_rfl) ?_ _
                        go_wp2_with fail
                        go_meet
                        case rel => exact ⟨rfl, a16y, c16y, by have h9 := sep_pick S17y [0, 1, 3, 5] rfl (by decide) rfl rfl rfl rfl; rw [HK.out.2.2] at h9; (try rw [HK.out.2.2]); rw [HXS.out]; exact h9⟩
                      exact AllReadyH.nil
                    exact AllReadyH.nil
                  exact AllReadyH.nil
                exact AllReadyH.nil
              exact AllReadyH.nil
            exact AllReadyH.nil
          case rest =>
            obtain ⟨rfl, A, C, HQ⟩ := hcut
            clear r0 r1 o0 o1
            have SQ := HQ.out
            obtain ⟨r0, r1⟩ := Row.one (box_at SQ 0 rfl)
            obtain ⟨o0, o1⟩ := Row.one (box_at SQ 2 rfl)
            go_wp2_with fail
            go_at_call 69
            refine (HS.out _ SQ.old).mono ?_
            rintro e w7 ⟨rfl, h7⟩
            have S7 := SQ.keep h7
            clear h7 SQ HQ r0 r1 o0 o1
            obtain ⟨r0, r1⟩ := Row.one (box_at S7 0 rfl)
            obtain ⟨z0, z1⟩ := Row.one (box_at S7 1 rfl)
            obtain ⟨o0, o1⟩ := Row.one (box_at S7 2 rfl)
            cases br with
            | false =>
              have HE := Lib.hid (show setL l s x = l ∧ setB l s x = false by unfold setL setB; rw [hbr]; exact ⟨rfl, rfl⟩)
              go_wp2_with fail
              go_at_call 128
              refine (HL.out _ S7.old).mono ?_
              rintro e w8 ⟨a8, c8, rfl, ho8, hb8⟩
              have S8 := push_own S7 hb8 ho8
              clear hb8 ho8 S7 r0 r1 z0 z1 o0 o1
              obtain ⟨z0, z1⟩ := Row.one (box_at S8 1 rfl)
              have S9 := Lib.hid (put_box5 S8 1 rfl 0 (.slice a8 n c8))
              go_wp2_with fail
              refine bodyPost_ret (v := .tuple #[.agg #[.slice a8 n c8], .bool false]) (by simp [results, Try.results138, go_sem, z0]) rfl ?_
              unfold GaveRB
              rw [HE.out.1, HE.out.2, ← HN.out]
              exact ⟨a8, c8, rfl, own_from S9.out 4 rfl, S9.out.old⟩
            | true =>
              have HO := Lib.hid (specIsRecord_any A C (putF l s x) (by rw [HU.out]; omega) HSM.out w7 (own_at S7 3 rfl).reads)
              rw [HU.out] at HO
              obtain ⟨bo, hbo⟩ : ∃ b, isR (putF l s x) = b := ⟨_, rfl⟩
              rw [hbo] at HO
              go_wp2_with fail
              go_at_call 69
              refine HO.out.mono ?_
              rintro e w8 ⟨rfl, h8⟩
              have S8 := S7.keep h8
              clear h8 S7 r0 r1 z0 z1 o0 o1
              obtain ⟨r0, r1⟩ := Row.one (box_at S8 0 rfl)
              obtain ⟨z0, z1⟩ := Row.one (box_at S8 1 rfl)
              obtain ⟨o0, o1⟩ := Row.one (box_at S8 2 rfl)
              cases bo with
              | false =>
                have HE := Lib.hid (show setL l s x = l ∧ setB l s x = false by unfold setL setB; rw [hbr, hbo]; exact ⟨rfl, rfl⟩)
                go_wp2_with fail
                go_at_call 128
                refine (HL.out _ S8.old).mono ?_
                rintro e w9 ⟨a8, c8, rfl, ho8, hb8⟩
                have S9 := push_own S8 hb8 ho8
                clear hb8 ho8 S8 r0 r1 z0 z1 o0 o1
                obtain ⟨z0, z1⟩ := Row.one (box_at S9 1 rfl)
                have SX := Lib.hid (put_box5 S9 1 rfl 0 (.slice a8 n c8))
                go_wp2_with fail
                refine bodyPost_ret (v := .tuple #[.agg #[.slice a8 n c8], .bool false]) (by simp [results, Try.results138, go_sem, z0]) rfl ?_
                unfold GaveRB
                rw [HE.out.1, HE.out.2, ← HN.out]
                exact ⟨a8, c8, rfl, own_from SX.out 4 rfl, SX.out.old⟩
              | true =>
                have HE := Lib.hid (show setL l s x = putF l s x ∧ setB l s x = true by unfold setL setB; rw [hbr, hbo]; exact ⟨rfl, rfl⟩)
                have SX := Lib.hid (put_box5 S8 1 rfl 0 (.slice A m C))
                go_wp2_with fail
                refine bodyPost_ret (v := .tuple #[.agg #[.slice A m C], .bool true]) (by simp [results, Try.results138, go_sem, z0]) rfl ?_
                unfold GaveRB
                rw [HE.out.1, HE.out.2, HU.out]
                exact ⟨A, C, rfl, own_from SX.out 3 rfl, SX.out.old⟩
    · have HKN := Lib.hid (show n ≤ k by omega)
      have HPO := Lib.hid (posF_at k (by rw [← HN.out]; exact hk) hrel.out (fun hj => by have := HN.out; have := HKN.out; omega))
      have HPU := Lib.hid (show putF l s x = l.take k ++ ⟨s, x⟩ :: l.drop k by
        unfold putF
        rw [HPO.out, List.getElem?_eq_none (by rw [← HN.out]; exact HKN.out), List.take_of_length_le (by rw [← HN.out]; exact HKN.out), List.drop_of_length_le (by rw [← HN.out]; exact HKN.out)])
      have HU := Lib.hid (show (putF l s x).length = n + 1 by rw [HPU.out, List.length_append, List.length_cons, List.length_take, List.length_drop, ← HN.out]; omega)
      have HXS := Lib.hid (show cellsF (putF l s x) = cellsF (l.take k) ++ cellsF [⟨s, x⟩] ++ cellsF (l.drop k) by rw [HPU.out, cellsF_append, cellsF_cons, List.append_assoc]; rfl)
      have HK := Lib.hid (show (cellsF (l.take k)).length = k * 2 ∧ (cellsF (l.drop k)).length = (n - k) * 2 ∧ k + 1 + (n - k) = n + 1 by
        have e := HN.out
        refine ⟨by rw [cellsF_length, List.length_take, ← e, Nat.min_eq_left (by omega)], by rw [cellsF_length, List.length_drop, ← e], by omega⟩)
      have HRd := Lib.hid (fun w' (h : Below w.heap.size w w') (q : Nat) => reads_prefix (HR.out w' h) q)
      obtain ⟨m, hmn⟩ : ∃ m, m = n + 1 := ⟨_, rfl⟩
      rw [← hmn] at HU HK
      have hm' : (m : Int) ≤ 1099511627776 := by omega
      clear hmn
      by_cases hck : c = k
      · have HRt := Lib.hid (show ∀ w' (A : Option Addr), Below w.heap.size w w' → Reads w' w.heap.size A (cellsF (l.drop k)) from fun w' A h => by rw [List.drop_of_length_le (by have := HN.out; omega), cellsF_nil]; exact Reads.nil)
        have HK1 := Lib.hid (show k + 1 = m by have := HK.out.2.2; have := HKN.out; omega)
        obtain rfl : k = c := hck.symm
        go_upto_region 7 with fail
        go_cut [9] (fun y wx => y = .int .i64 k ∧ ∃ A C, Hid (Sep w wx [boxR w.heap.size 41 #[.slice a n k], boxR (w.heap.size + 1) 41 #[.slice none 0 0], boxR G 41 #[.slice A m C], ownV 107 2 A C m (cellsF (putF l s x))]))
        case first =>
          refine wp_region_held_drew (S := fun w' => w'.cell? ⟨w.heap.size, 0, none⟩ = some (.slice a n k)) (by kernel_rfl) r0 (fun hS => ?_)
          have S6 : Sep w w4.drew _ := H4.out.drews 1
          clear r0 r1 o0 o1
          generalize w4.drew = wd at hS S6 ⊢
          refine tk 1 rfl ?_
          try simp only [zp0, zp1, zp2, zp3, zp4]
          refine tk 2 rfl ?_
          try simp only [zp0, zp1, zp2, zp3, zp4]
          refine tk 3 rfl ?_
          try simp only [zp0, zp1, zp2, zp3, zp4]
          refine tk 4 rfl ?_
          try simp only [zp0, zp1, zp2, zp3, zp4]
          refine tk 6 rfl ?_
          try simp only [zp0, zp1, zp2, zp3, zp4]
          refine tk 7 rfl ?_
          try simp only [zp0, zp1, zp2, zp3, zp4]
          refine tk 8 rfl ?_
          try simp only [zp0, zp1, zp2, zp3, zp4]
          refine tk 11 rfl ?_
          try simp only [zp0, zp1, zp2, zp3, zp4]
          refine tk 12 rfl ?_
          try simp only [zp0, zp1, zp2, zp3, zp4]
          refine tk 13 rfl ?_
          try simp only [zp0, zp1, zp2, zp3, zp4]
          refine tk 14 rfl ?_
          try simp only [zp0, zp1, zp2, zp3, zp4]
          refine wpAnyH_ready (rs := [0, 9]) (by kernel_rfl) (by simp) ?_
          refine Reg.cons_op (i := 0) rfl (fun K hK => ?_) ?_
          · have S18y := push_own S6 ((Below.refl _ _).alloc (Nat.le_refl _) _) (OwnV.emptyAt wd 107 2 wd.heap.size rfl (Nat.le_refl _))
            go_simp
            refine hK.out _ _ (Row.one (box_at S18y 0 rfl)).1 (fun hS => ?_)
            clear hK K
            try simp only [zp0, zp1, zp2, zp3, zp4]
            obtain ⟨b18, hb18⟩ : ∃ b, b = wd.heap.size := ⟨_, rfl⟩
            rw [← hb18] at S18y ⊢
            generalize wd.alloc (.cells #[] 107) = w18y at hS S18y ⊢
            clear hb18
            refine wpAnyH_ready (rs := [5, 9]) (by kernel_rfl) (by simp) ?_
            refine Reg.cons_op (i := 5) rfl (fun K hK => ?_) ?_
            · refine step_append_s S18y 4 rfl rfl _ _ 39 (by rfl) i0 (.agg #[.string ⟨#[]⟩, .int .i64 0]) 24 Try.underlying39 HI.out.1 HI.out.2.1 HI.out.2.2.1 HI.out.2.2.2 rfl (by omega) _ (by rfl) rfl _ _ k _ _ (cellsF (l.take k)) (by rfl) rfl (HRd.out _ S18y.old k) HK.out.1 (cellsF_one _) (by unfold maxLen; omega) (by omega) ?_
              intro a19y c19y w19y S19y
              try simp only [List.set_cons_zero, List.set_cons_succ, List.set_nil, List.append_nil, List.nil_append, List.cons_append] at S19y
              simp only [Nat.zero_add] at S19y ⊢
              refine hK.out _ _ (Row.one (box_at S19y 0 rfl)).1 (fun hS => ?_)
              clear hK K
              try simp only [zp0, zp1, zp2, zp3, zp4]
              refine wpAnyH_ready (rs := [9]) (by kernel_rfl) (by simp) ?_
              refine Reg.cons_op (i := 9) rfl (fun K hK => ?_) ?_
              · have S20y := push_own S19y ((Below.refl _ _).alloc (Nat.le_refl _) _) (OwnV.madeAt w19y 107 2 1 w19y.heap.size #[.string s, .int .i64 x] rfl (Nat.le_refl _) rfl (by decide))
                go_simp
                refine hK.out _ _ (Row.one (box_at S20y 0 rfl)).1 (fun hS => ?_)
                clear hK K
                try simp only [zp0, zp1, zp2, zp3, zp4]
                obtain ⟨b20, hb20⟩ : ∃ b, b = w19y.heap.size := ⟨_, rfl⟩
                rw [← hb20] at S20y ⊢
                generalize w19y.alloc (.cells #[.string s, .int .i64 x] 107) = w20y at hS S20y ⊢
                clear hb20
                refine wpAnyH_ready (rs := [10]) (by kernel_rfl) (by simp) ?_
                refine Reg.cons_op (i := 10) rfl (fun K hK => ?_) ?_
                · refine step_append_s S20y 4 rfl rfl _ _ 39 (by rfl) i0 (.agg #[.string ⟨#[]⟩, .int .i64 0]) 24 Try.underlying39 HI.out.1 HI.out.2.1 HI.out.2.2.1 HI.out.2.2.2 rfl (by omega) _ (by rfl) (by omega) _ _ 1 _ _ (cellsF [⟨s, x⟩]) (by rfl) rfl (own_at S20y 5 rfl).reads rfl (cellsF_one _) (by unfold maxLen; omega) (by omega) ?_
                  intro a21y c21y w21y S21y
                  try simp only [List.set_cons_zero, List.set_cons_succ, List.set_nil, List.append_nil, List.nil_append, List.cons_append] at S21y
                  refine hK.out _ _ (Row.one (box_at S21y 0 rfl)).1 (fun hS => ?_)
                  clear hK K
                  try simp only [zp0, zp1, zp2, zp3, zp4]
                  refine wpAnyH_ready (rs := [15]) (by kernel_rfl) (by simp) ?_
                  refine Reg.cons_op (i := 15) rfl (fun K hK => ?_) ?_
                  · refine step_append_s S21y 4 rfl rfl _ _ 39 (by rfl) i0 (.agg #[.string ⟨#[]⟩, .int .i64 0]) 24 Try.underlying39 HI.out.1 HI.out.2.1 HI.out.2.2.1 HI.out.2.2.2 rfl (by omega) _ (by rfl) (by omega) _ _ (n - k) _ _ (cellsF (l.drop k)) (by rfl) (by omega) (HRt.out _ _ S21y.old) HK.out.2.1 (cellsF_one _) (by unfold maxLen; omega) (by omega) ?_
                    intro a22y c22y w22y S22y
                    try simp only [List.set_cons_zero, List.set_cons_succ, List.set_nil, List.append_nil, List.nil_append, List.cons_append] at S22y
                    refine hK.out _ _ (Row.one (box_at S22y 0 rfl)).1 (fun hS => ?_)
                    clear hK K
                    try simp only [zp0, zp1, zp2, zp3, zp4]
                    refine tk 16 rfl ?_
                    try simp only [zp0, zp1, zp2, zp3, zp4]
                    refine wpAnyH_ready (rs := [17]) (by kernel_rfl) (by simp) ?_
                    refine Reg.cons_op (i := 17) rfl (fun K hK => ?_) ?_
                    · have S23y := put_box5 S22y 3 rfl 0 (.slice a22y (k + 1) c22y)
                      obtain ⟨g0, g1⟩ := Row.one (box_at S22y 3 rfl)
                      go_simp
                      refine hK.out _ _ (Row.one (box_at S23y 0 rfl)).1 (fun hS => ?_)
                      clear hK K
                      try simp only [zp0, zp1, zp2, zp3, zp4]
                      clear g0 g1
                      refine wpAnyH_done (by kernel_rfl) ?_ _
                      go_wp2_with fail
                      go_meet
                      case rel => exact ⟨rfl, a22y, c22y, by have h9 := sep_pick S23y [0, 1, 3, 4] rfl (by decide) rfl rfl rfl rfl; rw [HK.out.2.2] at h9; (try rw [HK.out.2.2]); rw [HK1.out] at h9 ⊢; rw [HXS.out]; exact h9⟩
                    exact AllReadyH.nil
                  exact AllReadyH.nil
                exact AllReadyH.nil
              exact AllReadyH.nil
            refine Reg.cons_op (i := 9) rfl (fun K hK => ?_) ?_
            · have S24y := push_own S18y ((Below.refl _ _).alloc (Nat.le_refl _) _) (OwnV.madeAt w18y 107 2 1 w18y.heap.size #[.string s, .int .i64 x] rfl (Nat.le_refl _) rfl (by decide))
              go_simp
              refine hK.out _ _ (Row.one (box_at S24y 0 rfl)).1 (fun hS => ?_)
              clear hK K
              try simp only [zp0, zp1, zp2, zp3, zp4]
              obtain ⟨b24, hb24⟩ : ∃ b, b = w18y.heap.size := ⟨_, rfl⟩
              rw [← hb24] at S24y ⊢
              generalize w18y.alloc (.cells #[.string s, .int .i64 x] 107) = w24y at hS S24y ⊢
              clear hb24
              refine wpAnyH_ready (rs := [5]) (by kernel_rfl) (by simp) ?_
              refine Reg.cons_op (i := 5) rfl (fun K hK => ?_) ?_
              · refine step_append_s S24y 4 rfl rfl _ _ 39 (by rfl) i0 (.agg #[.string ⟨#[]⟩, .int .i64 0]) 24 Try.underlying39 HI.out.1 HI.out.2.1 HI.out.2.2.1 HI.out.2.2.2 rfl (by omega) _ (by rfl) rfl _ _ k _ _ (cellsF (l.take k)) (by rfl) rfl (HRd.out _ S24y.old k) HK.out.1 (cellsF_one _) (by unfold maxLen; omega) (by omega) ?_
                intro a25y c25y w25y S25y
                try simp only [List.set_cons_zero, List.set_cons_succ, List.set_nil, List.append_nil, List.nil_append, List.cons_append] at S25y
                simp only [Nat.zero_add] at S25y ⊢
                refine hK.out _ _ (Row.one (box_at S25y 0 rfl)).1 (fun hS => ?_)
                clear hK K
                try simp only [zp0, zp1, zp2, zp3, zp4]
                refine wpAnyH_ready (rs := [10]) (by kernel_rfl) (by simp) ?_
                refine Reg.cons_op (i := 10) rfl (fun K hK => ?_) ?_
                · refine step_append_s S25y 4 rfl rfl _ _ 39 (by rfl) i0 (.agg #[.string ⟨#[]⟩, .int .i64 0]) 24 Try.underlying39 HI.out.1 HI.out.2.1 HI.out.2.2.1 HI.out.2.2.2 rfl (by omega) _ (by rfl) (by omega) _ _ 1 _ _ (cellsF [⟨s, x⟩]) (by rfl) rfl (own_at S25y 5 rfl).reads rfl (cellsF_one _) (by unfold maxLen; omega) (by omega) ?_
                  intro a26y c26y w26y S26y
                  try simp only [List.set_cons_zero, List.set_cons_succ, List.set_nil, List.append_nil, List.nil_append, List.cons_append] at S26y
                  refine hK.out _ _ (Row.one (box_at S26y 0 rfl)).1 (fun hS => ?_)
                  clear hK K
                  try simp only [zp0, zp1, zp2, zp3, zp4]
                  refine wpAnyH_ready (rs := [15]) (by kernel_rfl) (by simp) ?_
                  refine Reg.cons_op (i := 15) rfl (fun K hK => ?_) ?_
                  · refine step_append_s S26y 4 rfl rfl _ _ 39 (by rfl) i0 (.agg #[.string ⟨#[]⟩, .int .i64 0]) 24 Try.underlying39 HI.out.1 HI.out.2.1 HI.out.2.2.1 HI.out.2.2.2 rfl (by omega) _ (by rfl) (by omega) _ _ (n - k) _ _ (cellsF (l.drop k)) (by rfl) (by omega) (HRt.out _ _ S26y.old) HK.out.2.1 (cellsF_one _) (by unfold maxLen; omega) (by omega) ?_
                    intro a27y c27y w27y S27y
                    try simp only [List.set_cons_zero, List.set_cons_succ, List.set_nil, List.append_nil, List.nil_append, List.cons_append] at S27y
                    refine hK.out _ _ (Row.one (box_at S27y 0 rfl)).1 (fun hS => ?_)
                    clear hK K
                    try simp only [zp0, zp1, zp2, zp3, zp4]
                    refine tk 16 rfl ?_
                    try simp only [zp0, zp1, zp2, zp3, zp4]
                    refine wpAnyH_ready (rs := [17]) (by kernel_rfl) (by simp) ?_
                    refine Reg.cons_op (i := 17) rfl (fun K hK => ?_) ?_
                    · have S28y := put_box5 S27y 3 rfl 0 (.slice a27y (k + 1) c27y)
                      obtain ⟨g0, g1⟩ := Row.one (box_at S27y 3 rfl)
                      go_simp
                      refine hK.out _ _ (Row.one (box_at S28y 0 rfl)).1 (fun hS => ?_)
                      clear hK K
                      try simp only [zp0, zp1, zp2, zp3, zp4]
                      clear g0 g1
                      refine wpAnyH_done (by kernel_rfl) ?_ _
                      go_wp2_with fail
                      go_meet
                      case rel => exact ⟨rfl, a27y, c27y, by have h9 := sep_pick S28y [0, 1, 3, 4] rfl (by decide) rfl rfl rfl rfl; rw [HK.out.2.2] at h9; (try rw [HK.out.2.2]); rw [HK1.out] at h9 ⊢; rw [HXS.out]; exact h9⟩
                    exact AllReadyH.nil
                  exact AllReadyH.nil
                exact AllReadyH.nil
              exact AllReadyH.nil
            exact AllReadyH.nil
          refine Reg.cons_op (i := 9) rfl (fun K hK => ?_) ?_
          · have S29y := push_own S6 ((Below.refl _ _).alloc (Nat.le_refl _) _) (OwnV.madeAt wd 107 2 1 wd.heap.size #[.string s, .int .i64 x] rfl (Nat.le_refl _) rfl (by decide))
            go_simp
            refine hK.out _ _ (Row.one (box_at S29y 0 rfl)).1 (fun hS => ?_)
            clear hK K
            try simp only [zp0, zp1, zp2, zp3, zp4]
            obtain ⟨b29, hb29⟩ : ∃ b, b = wd.heap.size := ⟨_, rfl⟩
            rw [← hb29] at S29y ⊢
            generalize wd.alloc (.cells #[.string s, .int .i64 x] 107) = w29y at hS S29y ⊢
            clear hb29
            refine wpAnyH_ready (rs := [0]) (by kernel_rfl) (by simp) ?_
            refine Reg.cons_op (i := 0) rfl (fun K hK => ?_) ?_
            · have S30y := push_own S29y ((Below.refl _ _).alloc (Nat.le_refl _) _) (OwnV.emptyAt w29y 107 2 w29y.heap.size rfl (Nat.le_refl _))
              go_simp
              refine hK.out _ _ (Row.one (box_at S30y 0 rfl)).1 (fun hS => ?_)
              clear hK K
              try simp only [zp0, zp1, zp2, zp3, zp4]
              obtain ⟨b30, hb30⟩ : ∃ b, b = w29y.heap.size := ⟨_, rfl⟩
              rw [← hb30] at S30y ⊢
              generalize w29y.alloc (.cells #[] 107) = w30y at hS S30y ⊢
              clear hb30
              refine wpAnyH_ready (rs := [5]) (by kernel_rfl) (by simp) ?_
              refine Reg.cons_op (i := 5) rfl (fun K hK => ?_) ?_
              · refine step_append_s S30y 5 rfl rfl _ _ 39 (by rfl) i0 (.agg #[.string ⟨#[]⟩, .int .i64 0]) 24 Try.underlying39 HI.out.1 HI.out.2.1 HI.out.2.2.1 HI.out.2.2.2 rfl (by omega) _ (by rfl) rfl _ _ k _ _ (cellsF (l.take k)) (by rfl) rfl (HRd.out _ S30y.old k) HK.out.1 (cellsF_one _) (by unfold maxLen; omega) (by omega) ?_
                intro a31y c31y w31y S31y
                try simp only [List.set_cons_zero, List.set_cons_succ, List.set_nil, List.append_nil, List.nil_append, List.cons_append] at S31y
                simp only [Nat.zero_add] at S31y ⊢
                refine hK.out _ _ (Row.one (box_at S31y 0 rfl)).1 (fun hS => ?_)
                clear hK K
                try simp only [zp0, zp1, zp2, zp3, zp4]
                refine wpAnyH_ready (rs := [10]) (by kernel_rfl) (by simp) ?_
                refine Reg.cons_op (i := 10) rfl (fun K hK => ?_) ?_
                · refine step_append_s S31y 5 rfl rfl _ _ 39 (by rfl) i0 (.agg #[.string ⟨#[]⟩, .int .i64 0]) 24 Try.underlying39 HI.out.1 HI.out.2.1 HI.out.2.2.1 HI.out.2.2.2 rfl (by omega) _ (by rfl) (by omega) _ _ 1 _ _ (cellsF [⟨s, x⟩]) (by rfl) rfl (own_at S31y 4 rfl).reads rfl (cellsF_one _) (by unfold maxLen; omega) (by omega) ?_
                  intro a32y c32y w32y S32y
                  try simp only [List.set_cons_zero, List.set_cons_succ, List.set_nil, List.append_nil, List.nil_append, List.cons_append] at S32y
                  refine hK.out _ _ (Row.one (box_at S32y 0 rfl)).1 (fun hS => ?_)
                  clear hK K
                  try simp only [zp0, zp1, zp2, zp3, zp4]
                  refine wpAnyH_ready (rs := [15]) (by kernel_rfl) (by simp) ?_
                  refine Reg.cons_op (i := 15) rfl (fun K hK => ?_) ?_
                  · refine step_append_s S32y 5 rfl rfl _ _ 39 (by rfl) i0 (.agg #[.string ⟨#[]⟩, .int .i64 0]) 24 Try.underlying39 HI.out.1 HI.out.2.1 HI.out.2.2.1 HI.out.2.2.2 rfl (by omega) _ (by rfl) (by omega) _ _ (n - k) _ _ (cellsF (l.drop k)) (by rfl) (by omega) (HRt.out _ _ S32y.old) HK.out.2.1 (cellsF_one _) (by unfold maxLen; omega) (by omega) ?_
                    intro a33y c33y w33y S33y
                    try simp only [List.set_cons_zero, List.set_cons_succ, List.set_nil, List.append_nil, List.nil_append, List.cons_append] at S33y
                    refine hK.out _ _ (Row.one (box_at S33y 0 rfl)).1 (fun hS => ?_)
                    clear hK K
                    try simp only [zp0, zp1, zp2, zp3, zp4]
                    refine tk 16 rfl ?_
                    try simp only [zp0, zp1, zp2, zp3, zp4]
                    refine wpAnyH_ready (rs := [17]) (by kernel_rfl) (by simp) ?_
                    refine Reg.cons_op (i := 17) rfl (fun K hK => ?_) ?_
                    · have S34y := put_box5 S33y 3 rfl 0 (.slice a33y (k + 1) c33y)
                      obtain ⟨g0, g1⟩ := Row.one (box_at S33y 3 rfl)
                      go_simp
                      refine hK.out _ _ (Row.one (box_at S34y 0 rfl)).1 (fun hS => ?_)
                      clear hK K
                      try simp only [zp0, zp1, zp2, zp3, zp4]
                      clear g0 g1
                      refine wpAnyH_done (by kernel_rfl) ?_ _
                      go_wp2_with fail
                      go_meet
                      case rel => exact ⟨rfl, a33y, c33y, by have h9 := sep_pick S34y [0, 1, 3, 5] rfl (by decide) rfl rfl rfl rfl; rw [HK.out.2.2] at h9; (try rw [HK.out.2.2]); rw [HK1.out] at h9 ⊢; rw [HXS.out]; exact h9⟩
                    exact AllReadyH.nil
                  exact AllReadyH.nil
                exact AllReadyH.nil
              exact AllReadyH.nil
            exact AllReadyH.nil
          exact AllReadyH.nil
        case rest =>
          obtain ⟨rfl, A, C, HQ⟩ := hcut
          clear r0 r1 o0 o1
          have SQ := HQ.out
          obtain ⟨r0, r1⟩ := Row.one (box_at SQ 0 rfl)
          obtain ⟨o0, o1⟩ := Row.one (box_at SQ 2 rfl)
          go_wp2_with fail
          go_at_call 69
          refine (HS.out _ SQ.old).mono ?_
          rintro e w7 ⟨rfl, h7⟩
          have S7 := SQ.keep h7
          clear h7 SQ HQ r0 r1 o0 o1
          obtain ⟨r0, r1⟩ := Row.one (box_at S7 0 rfl)
          obtain ⟨z0, z1⟩ := Row.one (box_at S7 1 rfl)
          obtain ⟨o0, o1⟩ := Row.one (box_at S7 2 rfl)
          cases br with
          | false =>
            have HE := Lib.hid (show setL l s x = l ∧ setB l s x = false by unfold setL setB; rw [hbr]; exact ⟨rfl, rfl⟩)
            go_wp2_with fail
            go_at_call 128
            refine (HL.out _ S7.old).mono ?_
            rintro e w8 ⟨a8, c8, rfl, ho8, hb8⟩
            have S8 := push_own S7 hb8 ho8
            clear hb8 ho8 S7 r0 r1 z0 z1 o0 o1
            obtain ⟨z0, z1⟩ := Row.one (box_at S8 1 rfl)
            have S9 := Lib.hid (put_box5 S8 1 rfl 0 (.slice a8 n c8))
            go_wp2_with fail
            refine bodyPost_ret (v := .tuple #[.agg #[.slice a8 n c8], .bool false]) (by simp [results, Try.results138, go_sem, z0]) rfl ?_
            unfold GaveRB
            rw [HE.out.1, HE.out.2, ← HN.out]
            exact ⟨a8, c8, rfl, own_from S9.out 4 rfl, S9.out.old⟩
          | true =>
            have HO := Lib.hid (specIsRecord_any A C (putF l s x) (by rw [HU.out]; omega) HSM.out w7 (own_at S7 3 rfl).reads)
            rw [HU.out] at HO
            obtain ⟨bo, hbo⟩ : ∃ b, isR (putF l s x) = b := ⟨_, rfl⟩
            rw [hbo] at HO
            go_wp2_with fail
            go_at_call 69
            refine HO.out.mono ?_
            rintro e w8 ⟨rfl, h8⟩
            have S8 := S7.keep h8
            clear h8 S7 r0 r1 z0 z1 o0 o1
            obtain ⟨r0, r1⟩ := Row.one (box_at S8 0 rfl)
            obtain ⟨z0, z1⟩ := Row.one (box_at S8 1 rfl)
            obtain ⟨o0, o1⟩ := Row.one (box_at S8 2 rfl)
            cases bo with
            | false =>
              have HE := Lib.hid (show setL l s x = l ∧ setB l s x = false by unfold setL setB; rw [hbr, hbo]; exact ⟨rfl, rfl⟩)
              go_wp2_with fail
              go_at_call 128
              refine (HL.out _ S8.old).mono ?_
              rintro e w9 ⟨a8, c8, rfl, ho8, hb8⟩
              have S9 := push_own S8 hb8 ho8
              clear hb8 ho8 S8 r0 r1 z0 z1 o0 o1
              obtain ⟨z0, z1⟩ := Row.one (box_at S9 1 rfl)
              have SX := Lib.hid (put_box5 S9 1 rfl 0 (.slice a8 n c8))
              go_wp2_with fail
              refine bodyPost_ret (v := .tuple #[.agg #[.slice a8 n c8], .bool false]) (by simp [results, Try.results138, go_sem, z0]) rfl ?_
              unfold GaveRB
              rw [HE.out.1, HE.out.2, ← HN.out]
              exact ⟨a8, c8, rfl, own_from SX.out 4 rfl, SX.out.old⟩
            | true =>
              have HE := Lib.hid (show setL l s x = putF l s x ∧ setB l s x = true by unfold setL setB; rw [hbr, hbo]; exact ⟨rfl, rfl⟩)
              have SX := Lib.hid (put_box5 S8 1 rfl 0 (.slice A m C))
              go_wp2_with fail
              refine bodyPost_ret (v := .tuple #[.agg #[.slice A m C], .bool true]) (by simp [results, Try.results138, go_sem, z0]) rfl ?_
              unfold GaveRB
              rw [HE.out.1, HE.out.2, HU.out]
              exact ⟨A, C, rfl, own_from SX.out 3 rfl, SX.out.old⟩
      · obtain ⟨ad, rfl⟩ : ∃ ad, a = some ad := by
          cases a with
          | none => exact absurd (hz rfl) (by omega)
          | some ad => exact ⟨ad, rfl⟩
        have hkc : k ≤ c := by omega
        have HRt := Lib.hid (show ∀ w' ad2, some ad = some ad2 → Below w.heap.size w w' → Reads w' w.heap.size (some (ad2.add (k * 2))) (cellsF (l.drop k)) from fun w' ad2 ha h => reads_suffix (by rw [← ha]; exact HR.out w' h) k)
        go_upto_region 7 with fail
        go_cut [9] (fun y wx => y = .int .i64 k ∧ ∃ A C, Hid (Sep w wx [boxR w.heap.size 41 #[.slice (some ad) n c], boxR (w.heap.size + 1) 41 #[.slice none 0 0], boxR G 41 #[.slice A m C], ownV 107 2 A C m (cellsF (putF l s x))]))
        case first =>
          refine wp_region_held_drew (S := fun w' => w'.cell? ⟨w.heap.size, 0, none⟩ = some (.slice (some ad) n c)) (by kernel_rfl) r0 (fun hS => ?_)
          have S6 : Sep w w4.drew _ := H4.out.drews 1
          clear r0 r1 o0 o1
          generalize w4.drew = wd at hS S6 ⊢
          refine tk 1 rfl ?_
          try simp only [zp0, zp1, zp2, zp3, zp4]
          refine tk 2 rfl ?_
          try simp only [zp0, zp1, zp2, zp3, zp4]
          refine tk 3 rfl ?_
          try simp only [zp0, zp1, zp2, zp3, zp4]
          refine tk 4 rfl ?_
          try simp only [zp0, zp1, zp2, zp3, zp4]
          refine tk 6 rfl ?_
          try simp only [zp0, zp1, zp2, zp3, zp4]
          refine tk 7 rfl ?_
          try simp only [zp0, zp1, zp2, zp3, zp4]
          refine tk 8 rfl ?_
          try simp only [zp0, zp1, zp2, zp3, zp4]
          refine tk 11 rfl ?_
          try simp only [zp0, zp1, zp2, zp3, zp4]
          refine tk 12 rfl ?_
          try simp only [zp0, zp1, zp2, zp3, zp4]
          refine tk 13 rfl ?_
          try simp only [zp0, zp1, zp2, zp3, zp4]
          refine tk 14 rfl ?_
          try simp only [zp0, zp1, zp2, zp3, zp4]
          refine wpAnyH_ready (rs := [0, 9]) (by kernel_rfl) (by simp) ?_
          refine Reg.cons_op (i := 0) rfl (fun K hK => ?_) ?_
          · have S35y := push_own S6 ((Below.refl _ _).alloc (Nat.le_refl _) _) (OwnV.emptyAt wd 107 2 wd.heap.size rfl (Nat.le_refl _))
            go_simp
            refine hK.out _ _ (Row.one (box_at S35y 0 rfl)).1 (fun hS => ?_)
            clear hK K
            try simp only [zp0, zp1, zp2, zp3, zp4]
            obtain ⟨b35, hb35⟩ : ∃ b, b = wd.heap.size := ⟨_, rfl⟩
            rw [← hb35] at S35y ⊢
            generalize wd.alloc (.cells #[] 107) = w35y at hS S35y ⊢
            clear hb35
            refine wpAnyH_ready (rs := [5, 9]) (by kernel_rfl) (by simp) ?_
            refine Reg.cons_op (i := 5) rfl (fun K hK => ?_) ?_
            · refine step_append_s S35y 4 rfl rfl _ _ 39 (by rfl) i0 (.agg #[.string ⟨#[]⟩, .int .i64 0]) 24 Try.underlying39 HI.out.1 HI.out.2.1 HI.out.2.2.1 HI.out.2.2.2 rfl (by omega) _ (by rfl) rfl _ _ k _ _ (cellsF (l.take k)) (by rfl) rfl (HRd.out _ S35y.old k) HK.out.1 (cellsF_one _) (by unfold maxLen; omega) (by omega) ?_
              intro a36y c36y w36y S36y
              try simp only [List.set_cons_zero, List.set_cons_succ, List.set_nil, List.append_nil, List.nil_append, List.cons_append] at S36y
              simp only [Nat.zero_add] at S36y ⊢
              refine hK.out _ _ (Row.one (box_at S36y 0 rfl)).1 (fun hS => ?_)
              clear hK K
              try simp only [zp0, zp1, zp2, zp3, zp4]
              refine wpAnyH_ready (rs := [9]) (by kernel_rfl) (by simp) ?_
              refine Reg.cons_op (i := 9) rfl (fun K hK => ?_) ?_
              · have S37y := push_own S36y ((Below.refl _ _).alloc (Nat.le_refl _) _) (OwnV.madeAt w36y 107 2 1 w36y.heap.size #[.string s, .int .i64 x] rfl (Nat.le_refl _) rfl (by decide))
                go_simp
                refine hK.out _ _ (Row.one (box_at S37y 0 rfl)).1 (fun hS => ?_)
                clear hK K
                try simp only [zp0, zp1, zp2, zp3, zp4]
                obtain ⟨b37, hb37⟩ : ∃ b, b = w36y.heap.size := ⟨_, rfl⟩
                rw [← hb37] at S37y ⊢
                generalize w36y.alloc (.cells #[.string s, .int .i64 x] 107) = w37y at hS S37y ⊢
                clear hb37
                refine wpAnyH_ready (rs := [10]) (by kernel_rfl) (by simp) ?_
                refine Reg.cons_op (i := 10) rfl (fun K hK => ?_) ?_
                · refine step_append_s S37y 4 rfl rfl _ _ 39 (by rfl) i0 (.agg #[.string ⟨#[]⟩, .int .i64 0]) 24 Try.underlying39 HI.out.1 HI.out.2.1 HI.out.2.2.1 HI.out.2.2.2 rfl (by omega) _ (by rfl) (by omega) _ _ 1 _ _ (cellsF [⟨s, x⟩]) (by rfl) rfl (own_at S37y 5 rfl).reads rfl (cellsF_one _) (by unfold maxLen; omega) (by omega) ?_
                  intro a38y c38y w38y S38y
                  try simp only [List.set_cons_zero, List.set_cons_succ, List.set_nil, List.append_nil, List.nil_append, List.cons_append] at S38y
                  refine hK.out _ _ (Row.one (box_at S38y 0 rfl)).1 (fun hS => ?_)
                  clear hK K
                  try simp only [zp0, zp1, zp2, zp3, zp4]
                  refine wpAnyH_ready (rs := [15]) (by kernel_rfl) (by simp) ?_
                  refine Reg.cons_op (i := 15) rfl (fun K hK => ?_) ?_
                  · refine step_append_s S38y 4 rfl rfl _ _ 39 (by rfl) i0 (.agg #[.string ⟨#[]⟩, .int .i64 0]) 24 Try.underlying39 HI.out.1 HI.out.2.1 HI.out.2.2.1 HI.out.2.2.2 rfl (by omega) _ (by rfl) (by omega) _ _ (n - k) _ _ (cellsF (l.drop k)) (by rfl) rfl (HRt.out _ _ rfl S38y.old) HK.out.2.1 (cellsF_one _) (by unfold maxLen; omega) (by omega) ?_
                    intro a39y c39y w39y S39y
                    try simp only [List.set_cons_zero, List.set_cons_succ, List.set_nil, List.append_nil, List.nil_append, List.cons_append] at S39y
                    refine hK.out _ _ (Row.one (box_at S39y 0 rfl)).1 (fun hS => ?_)
                    clear hK K
                    try simp only [zp0, zp1, zp2, zp3, zp4]
                    refine tk 16 rfl ?_
                    try simp only [zp0, zp1, zp2, zp3, zp4]
                    refine wpAnyH_ready (rs := [17]) (by kernel_rfl) (by simp) ?_
                    refine Reg.cons_op (i := 17) rfl (fun K hK => ?_) ?_
                    · have S40y := put_box5 S39y 3 rfl 0 (.slice a39y (k + 1 + (n - k)) c39y)
                      obtain ⟨g0, g1⟩ := Row.one (box_at S39y 3 rfl)
                      go_simp
                      refine hK.out _ _ (Row.one (box_at S40y 0 rfl)).1 (fun hS => ?_)
                      clear hK K
                      try simp only [zp0, zp1, zp2, zp3, zp4]
                      clear g0 g1
                      refine wpAnyH_done (by kernel_rfl) ?_ _
                      go_wp2_with fail
                      go_meet
                      case rel => exact ⟨rfl, a39y, c39y, by have h9 := sep_pick S40y [0, 1, 3, 4] rfl (by decide) rfl rfl rfl rfl; rw [HK.out.2.2] at h9; (try rw [HK.out.2.2]); rw [HXS.out]; exact h9⟩
                    exact AllReadyH.nil
                  exact AllReadyH.nil
                exact AllReadyH.nil
              exact AllReadyH.nil
            refine Reg.cons_op (i := 9) rfl (fun K hK => ?_) ?_
            · have S41y := push_own S35y ((Below.refl _ _).alloc (Nat.le_refl _) _) (OwnV.madeAt w35y 107 2 1 w35y.heap.size #[.string s, .int .i64 x] rfl (Nat.le_refl _) rfl (by decide))
              go_simp
              refine hK.out _ _ (Row.one (box_at S41y 0 rfl)).1 (fun hS => ?_)
              clear hK K
              try simp only [zp0, zp1, zp2, zp3, zp4]
              obtain ⟨b41, hb41⟩ : ∃ b, b = w35y.heap.size := ⟨_, rfl⟩
              rw [← hb41] at S41y ⊢
              generalize w35y.alloc (.cells #[.string s, .int .i64 x] 107) = w41y at hS S41y ⊢
              clear hb41
              refine wpAnyH_ready (rs := [5]) (by kernel_rfl) (by simp) ?_
              refine Reg.cons_op (i := 5) rfl (fun K hK => ?_) ?_
              · refine step_append_s S41y 4 rfl rfl _ _ 39 (by rfl) i0 (.agg #[.string ⟨#[]⟩, .int .i64 0]) 24 Try.underlying39 HI.out.1 HI.out.2.1 HI.out.2.2.1 HI.out.2.2.2 rfl (by omega) _ (by rfl) rfl _ _ k _ _ (cellsF (l.take k)) (by rfl) rfl (HRd.out _ S41y.old k) HK.out.1 (cellsF_one _) (by unfold maxLen; omega) (by omega) ?_
                intro a42y c42y w42y S42y
                try simp only [List.set_cons_zero, List.set_cons_succ, List.set_nil, List.append_nil, List.nil_append, List.cons_append] at S42y
                simp only [Nat.zero_add] at S42y ⊢
                refine hK.out _ _ (Row.one (box_at S42y 0 rfl)).1 (fun hS => ?_)
                clear hK K
                try simp only [zp0, zp1, zp2, zp3, zp4]
                refine wpAnyH_ready (rs := [10]) (by kernel_rfl) (by simp) ?_
                refine Reg.cons_op (i := 10) rfl (fun K hK => ?_) ?_
                · refine step_append_s S42y 4 rfl rfl _ _ 39 (by rfl) i0 (.agg #[.string ⟨#[]⟩, .int .i64 0]) 24 Try.underlying39 HI.out.1 HI.out.2.1 HI.out.2.2.1 HI.out.2.2.2 rfl (by omega) _ (by rfl) (by omega) _ _ 1 _ _ (cellsF [⟨s, x⟩]) (by rfl) rfl (own_at S42y 5 rfl).reads rfl (cellsF_one _) (by unfold maxLen; omega) (by omega) ?_
                  intro a43y c43y w43y S43y
                  try simp only [List.set_cons_zero, List.set_cons_succ, List.set_nil, List.append_nil, List.nil_append, List.cons_append] at S43y
                  refine hK.out _ _ (Row.one (box_at S43y 0 rfl)).1 (fun hS => ?_)
                  clear hK K
                  try simp only [zp0, zp1, zp2, zp3, zp4]
                  refine wpAnyH_ready (rs := [15]) (by kernel_rfl) (by simp) ?_
                  refine Reg.cons_op (i := 15) rfl (fun K hK => ?_) ?_
                  · refine step_append_s S43y 4 rfl rfl _ _ 39 (by rfl) i0 (.agg #[.string ⟨#[]⟩, .int .i64 0]) 24 Try.underlying39 HI.out.1 HI.out.2.1 HI.out.2.2.1 HI.out.2.2.2 rfl (by omega) _ (by rfl) (by omega) _ _ (n - k) _ _ (cellsF (l.drop k)) (by rfl) rfl (HRt.out _ _ rfl S43y.old) HK.out.2.1 (cellsF_one _) (by unfold maxLen; omega) (by omega) ?_
                    intro a44y c44y w44y S44y
                    try simp only [List.set_cons_zero, List.set_cons_succ, List.set_nil, List.append_nil, List.nil_append, List.cons_append] at S44y
                    refine hK.out _ _ (Row.one (box_at S44y 0 rfl)).1 (fun hS => ?_)
                    clear hK K
                    try simp only [zp0, zp1, zp2, zp3, zp4]
                    refine tk 16 rfl ?_
                    try simp only [zp0, zp1, zp2, zp3, zp4]
                    refine wpAnyH_ready (rs := [17]) (by kernel_rfl) (by simp) ?_
                    refine Reg.cons_op (i := 17) rfl (fun K hK => ?_) ?_
                    · have S45y := put_box5 S44y 3 rfl 0 (.slice a44y (k + 1 + (n - k)) c44y)
                      obtain ⟨g0, g1⟩ := Row.one (box_at S44y 3 rfl)
                      go_simp
                      refine hK.out _ _ (Row.one (box_at S45y 0 rfl)).1 (fun hS => ?_)
                      clear hK K
                      try simp only [zp0, zp1, zp2, zp3, zp4]
                      clear g0 g1
                      refine wpAnyH_done (by kernel_rfl) ?_ _
                      go_wp2_with fail
                      go_meet
                      case rel => exact ⟨rfl, a44y, c44y, by have h9 := sep_pick S45y [0, 1, 3, 4] rfl (by decide) rfl rfl rfl rfl; rw [HK.out.2.2] at h9; (try rw [HK.out.2.2]); rw [HXS.out]; exact h9⟩
                    exact AllReadyH.nil
                  exact AllReadyH.nil
                exact AllReadyH.nil
              exact AllReadyH.nil
            exact AllReadyH.nil
          refine Reg.cons_op (i := 9) rfl (fun K hK => ?_) ?_
          · have S46y := push_own S6 ((Below.refl _ _).alloc (Nat.le_refl _) _) (OwnV.madeAt wd 107 2 1 wd.heap.size #[.string s, .int .i64 x] rfl (Nat.le_refl _) rfl (by decide))
            go_simp
            refine hK.out _ _ (Row.one (box_at S46y 0 rfl)).1 (fun hS => ?_)
            clear hK K
            try simp only [zp0, zp1, zp2, zp3, zp4]
            obtain ⟨b46, hb46⟩ : ∃ b, b = wd.heap.size := ⟨_, rfl⟩
            rw [← hb46] at S46y ⊢
            generalize wd.alloc (.cells #[.string s, .int .i64 x] 107) = w46y at hS S46y ⊢
            clear hb46
            refine wpAnyH_ready (rs := [0]) (by kernel_rfl) (by simp) ?_
            refine Reg.cons_op (i := 0) rfl (fun K hK => ?_) ?_
            · have S47y := push_own S46y ((Below.refl _ _).alloc (Nat.le_refl _) _) (OwnV.emptyAt w46y 107 2 w46y.heap.size rfl (Nat.le_refl _))
              go_simp
              refine hK.out _ _ (Row.one (box_at S47y 0 rfl)).1 (fun hS => ?_)
              clear hK K
              try simp only [zp0, zp1, zp2, zp3, zp4]
              obtain ⟨b47, hb47⟩ : ∃ b, b = w46y.heap.size := ⟨_, rfl⟩
              rw [← hb47] at S47y ⊢
              generalize w46y.alloc (.cells #[] 107) = w47y at hS S47y ⊢
              clear hb47
              refine wpAnyH_ready (rs := [5]) (by kernel_rfl) (by simp) ?_
              refine Reg.cons_op (i := 5) rfl (fun K hK => ?_) ?_
              · refine step_append_s S47y 5 rfl rfl _ _ 39 (by rfl) i0 (.agg #[.string ⟨#[]⟩, .int .i64 0]) 24 Try.underlying39 HI.out.1 HI.out.2.1 HI.out.2.2.1 HI.out.2.2.2 rfl (by omega) _ (by rfl) rfl _ _ k _ _ (cellsF (l.take k)) (by rfl) rfl (HRd.out _ S47y.old k) HK.out.1 (cellsF_one _) (by unfold maxLen; omega) (by omega) ?_
                intro a48y c48y w48y S48y
                try simp only [List.set_cons_zero, List.set_cons_succ, List.set_nil, List.append_nil, List.nil_append, List.cons_append] at S48y
                simp only [Nat.zero_add] at S48y ⊢
                refine hK.out _ _ (Row.one (box_at S48y 0 rfl)).1 (fun hS => ?_)
                clear hK K
                try simp only [zp0, zp1, zp2, zp3, zp4]
                refine wpAnyH_ready (rs := [10]) (by kernel_rfl) (by simp) ?_
                refine Reg.cons_op (i := 10) rfl (fun K hK => ?_) ?_
                · refine step_append_s S48y 5 rfl rfl _ _ 39 (by rfl) i0 (.agg #[.string ⟨#[]⟩, .int .i64 0]) 24 Try.underlying39 HI.out.1 HI.out.2.1 HI.out.2.2.1 HI.out.2.2.2 rfl (by omega) _ (by rfl) (by omega) _ _ 1 _ _ (cellsF [⟨s, x⟩]) (by rfl) rfl (own_at S48y 4 rfl).reads rfl (cellsF_one _) (by unfold maxLen; omega) (by omega) ?_
                  intro a49y c49y w49y S49y
                  try simp only [List.set_cons_zero, List.set_cons_succ, List.set_nil, List.append_nil, List.nil_append, List.cons_append] at S49y
                  refine hK.out _ _ (Row.one (box_at S49y 0 rfl)).1 (fun hS => ?_)
                  clear hK K
                  try simp only [zp0, zp1, zp2, zp3, zp4]
                  refine wpAnyH_ready (rs := [15]) (by kernel_rfl) (by simp) ?_
                  refine Reg.cons_op (i := 15) rfl (fun K hK => ?_) ?_
                  · refine step_append_s S49y 5 rfl rfl _ _ 39 (by rfl) i0 (.agg #[.string ⟨#[]⟩, .int .i64 0]) 24 Try.underlying39 HI.out.1 HI.out.2.1 HI.out.2.2.1 HI.out.2.2.2 rfl (by omega) _ (by rfl) (by omega) _ _ (n - k) _ _ (cellsF (l.drop k)) (by rfl) rfl (HRt.out _ _ rfl S49y.old) HK.out.2.1 (cellsF_one _) (by unfold maxLen; omega) (by omega) ?_
                    intro a50y c50y w50y S50y
                    try simp only [List.set_cons_zero, List.set_cons_succ, List.set_nil, List.append_nil, List.nil_append, List.cons_append] at S50y
                    refine hK.out _ _ (Row.one (box_at S50y 0 rfl)).1 (fun hS => ?_)
                    clear hK K
                    try simp only [zp0, zp1, zp2, zp3, zp4]
                    refine tk 16 rfl ?_
                    try simp only [zp0, zp1, zp2, zp3, zp4]
                    refine wpAnyH_ready (rs := [17]) (by kernel_rfl) (by simp) ?_
                    refine Reg.cons_op (i := 17) rfl (fun K hK => ?_) ?_
                    · have S51y := put_box5 S50y 3 rfl 0 (.slice a50y (k + 1 + (n - k)) c50y)
                      obtain ⟨g0, g1⟩ := Row.one (box_at S50y 3 rfl)
                      go_simp
                      refine hK.out _ _ (Row.one (box_at S51y 0 rfl)).1 (fun hS => ?_)
                      clear hK K
                      try simp only [zp0, zp1, zp2, zp3, zp4]
                      clear g0 g1
                      refine wpAnyH_done (by kernel_rfl) ?_ _
                      go_wp2_with fail
                      go_meet
                      case rel => exact ⟨rfl, a50y, c50y, by have h9 := sep_pick S51y [0, 1, 3, 5] rfl (by decide) rfl rfl rfl rfl; rw [HK.out.2.2] at h9; (try rw [HK.out.2.2]); rw [HXS.out]; exact h9⟩
                    exact AllReadyH.nil
                  exact AllReadyH.nil
                exact AllReadyH.nil
              exact AllReadyH.nil
            exact AllReadyH.nil
          exact AllReadyH.nil
        case rest =>
          obtain ⟨rfl, A, C, HQ⟩ := hcut
          clear r0 r1 o0 o1
          have SQ := HQ.out
          obtain ⟨r0, r1⟩ := Row.one (box_at SQ 0 rfl)
          obtain ⟨o0, o1⟩ := Row.one (box_at SQ 2 rfl)
          go_wp2_with fail
          go_at_call 69
          refine (HS.out _ SQ.old).mono ?_
          rintro e w7 ⟨rfl, h7⟩
          have S7 := SQ.keep h7
          clear h7 SQ HQ r0 r1 o0 o1
          obtain ⟨r0, r1⟩ := Row.one (box_at S7 0 rfl)
          obtain ⟨z0, z1⟩ := Row.one (box_at S7 1 rfl)
          obtain ⟨o0, o1⟩ := Row.one (box_at S7 2 rfl)
          cases br with
          | false =>
            have HE := Lib.hid (show setL l s x = l ∧ setB l s x = false by unfold setL setB; rw [hbr]; exact ⟨rfl, rfl⟩)
            go_wp2_with fail
            go_at_call 128
            refine (HL.out _ S7.old).mono ?_
            rintro e w8 ⟨a8, c8, rfl, ho8, hb8⟩
            have S8 := push_own S7 hb8 ho8
            clear hb8 ho8 S7 r0 r1 z0 z1 o0 o1
            obtain ⟨z0, z1⟩ := Row.one (box_at S8 1 rfl)
            have S9 := Lib.hid (put_box5 S8 1 rfl 0 (.slice a8 n c8))
            go_wp2_with fail
            refine bodyPost_ret (v := .tuple #[.agg #[.slice a8 n c8], .bool false]) (by simp [results, Try.results138, go_sem, z0]) rfl ?_
            unfold GaveRB
            rw [HE.out.1, HE.out.2, ← HN.out]
            exact ⟨a8, c8, rfl, own_from S9.out 4 rfl, S9.out.old⟩
          | true =>
            have HO := Lib.hid (specIsRecord_any A C (putF l s x) (by rw [HU.out]; omega) HSM.out w7 (own_at S7 3 rfl).reads)
            rw [HU.out] at HO
            obtain ⟨bo, hbo⟩ : ∃ b, isR (putF l s x) = b := ⟨_, rfl⟩
            rw [hbo] at HO
            go_wp2_with fail
            go_at_call 69
            refine HO.out.mono ?_
            rintro e w8 ⟨rfl, h8⟩
            have S8 := S7.keep h8
            clear h8 S7 r0 r1 z0 z1 o0 o1
            obtain ⟨r0, r1⟩ := Row.one (box_at S8 0 rfl)
            obtain ⟨z0, z1⟩ := Row.one (box_at S8 1 rfl)
            obtain ⟨o0, o1⟩ := Row.one (box_at S8 2 rfl)
            cases bo with
            | false =>
              have HE := Lib.hid (show setL l s x = l ∧ setB l s x = false by unfold setL setB; rw [hbr, hbo]; exact ⟨rfl, rfl⟩)
              go_wp2_with fail
              go_at_call 128
              refine (HL.out _ S8.old).mono ?_
              rintro e w9 ⟨a8, c8, rfl, ho8, hb8⟩
              have S9 := push_own S8 hb8 ho8
              clear hb8 ho8 S8 r0 r1 z0 z1 o0 o1
              obtain ⟨z0, z1⟩ := Row.one (box_at S9 1 rfl)
              have SX := Lib.hid (put_box5 S9 1 rfl 0 (.slice a8 n c8))
              go_wp2_with fail
              refine bodyPost_ret (v := .tuple #[.agg #[.slice a8 n c8], .bool false]) (by simp [results, Try.results138, go_sem, z0]) rfl ?_
              unfold GaveRB
              rw [HE.out.1, HE.out.2, ← HN.out]
              exact ⟨a8, c8, rfl, own_from SX.out 4 rfl, SX.out.old⟩
            | true =>
              have HE := Lib.hid (show setL l s x = putF l s x ∧ setB l s x = true by unfold setL setB; rw [hbr, hbo]; exact ⟨rfl, rfl⟩)
              have SX := Lib.hid (put_box5 S8 1 rfl 0 (.slice A m C))
              go_wp2_with fail
              refine bodyPost_ret (v := .tuple #[.agg #[.slice A m C], .bool true]) (by simp [results, Try.results138, go_sem, z0]) rfl ?_
              unfold GaveRB
              rw [HE.out.1, HE.out.2, HU.out]
              exact ⟨A, C, rfl, own_from SX.out 3 rfl, SX.out.old⟩
end Go.Proofs.Ytmnedjhfibmcnaa.L5

/-
  A region that draws its order and ends in a store into a cell that it loads: what holds throughout, and what holds till the store has come up. No condition.
-/
namespace Go.Proofs.Ytmnedjhfibmcnaa.Reg
set_option maxRecDepth 100000
/-! ### A region whose one late operation (a store) ends what some loads read: S0 holds throughout, S1 till number q has come up; whoever reads S1 is waited for by q. -/
section
variable {P : Program} {ops : Array Oper} {Q : Exit → Act → World → Prop} {md : Region.Mode} {S0 S1 : World → Prop} {q : Nat}
def Tier (S0 S1 : World → Prop) (q : Nat) (listed : Array Bool) (i : Nat) (w : World) : Prop := S0 w ∧ (i ≠ q → listed.getD q true = false → S1 w)
def anyL (P : Program) (md : Region.Mode) (ops : Array Oper) (Q : Exit → Act → World → Prop) (S0 S1 : World → Prop) (q : Nat) : Nat → Array Bool → Act → World → Prop
  | 0, L, a, w => Region.ready md ops L = [] ∧ Q .normal a w
  | n + 1, L, a, w => (Region.ready md ops L = [] → Q .normal a w) ∧ ∀ i, i ∈ Region.ready md ops L → wpOp P ops Q i (fun a' w' => Tier S0 S1 q L i w' ∧ anyL P md ops Q S0 S1 q n (L.setIfInBounds i true) a' w') a w
theorem anyL_plain : ∀ (n : Nat) (L : Array Bool) (a : Act) (w : World), anyL P md ops Q S0 S1 q n L a w → wpAny P md ops Q n L a w
  | 0, _, _, _, h => h
  | n + 1, _, _, _, h => ⟨h.1, fun i hi => wpOp_mono (fun a' w' h' => anyL_plain n _ a' w' h'.2) (h.2 i hi)⟩
theorem anyL_first {i : Nat} {oi : Oper} {v : Value} {T : World → Prop} (hi : ops[i]? = some oi) (hsel : ∀ (j : Nat) (o : Oper) cs b, ops[j]? = some o → o.op ≠ .select cs b) (hQ : ∀ c a w, Q (.panic c) (a.put oi.dst v) w → Q (.panic c) a w)
    (hiq : i ≠ q)
    (hT : (∀ w, S0 w → T w) ∨ ((∀ w, S0 w → S1 w → T w) ∧ ∃ oq, ops[q]? = some oq ∧ ∃ e ∈ oq.after, Region.binds md e = true ∧ e.on = i)) :
    ∀ (n : Nat) (L : Array Bool) (a : Act) (w : World), ((∀ w, S0 w → T w) ∨ L.getD q true = false) →
      (∀ j oj, ops[j]? = some oj → j ≠ i → L.getD j true = false → (∀ e ∈ oj.after, Region.binds md e = true → e.on ≠ i) → oi.apart ops oj = true) →
      i ∈ Region.ready md ops L → YieldsIf P ops T oi v a → (S0 w ∧ (L.getD q true = false → S1 w)) →
      anyL P md ops Q S0 S1 q n (L.setIfInBounds i true) (a.put oi.dst v) w → anyL P md ops Q S0 S1 q (n + 1) L a w := by
  have hTw : ∀ (L : Array Bool) (w : World), ((∀ w, S0 w → T w) ∨ L.getD q true = false) → S0 w → (L.getD q true = false → S1 w) → T w := fun L w hL h0 h1 => by
    rcases hT with h | ⟨h, _⟩
    · exact h w h0
    · rcases hL with h2 | h2
      · exact h2 w h0
      · exact h w h0 (h1 h2)
  intro n
  induction n with
  | zero =>
    intro L a w hL hfree hr hy hS H
    refine ⟨fun h => (by rw [h] at hr; cases hr), fun j hj => ?_⟩
    by_cases hji : j = i
    · subst hji
      exact hy.wpOp hi (hTw L w hL hS.1 hS.2) ⟨⟨hS.1, fun _ => hS.2⟩, H⟩
    · have := ready_mono hj hji
      rw [H.1] at this
      cases this
  | succ n ih =>
    intro L a w hL hfree hr hy hS H
    refine ⟨fun h => (by rw [h] at hr; cases hr), fun j hj => ?_⟩
    by_cases hji : j = i
    · subst hji
      exact hy.wpOp hi (hTw L w hL hS.1 hS.2) ⟨⟨hS.1, fun _ => hS.2⟩, H⟩
    · have h1 := H.2 j (ready_mono hj hji)
      obtain ⟨hjun, oj, hoj, hall⟩ := mem_ready.1 hj
      have hnot : ∀ e ∈ oj.after, Region.binds md e = true → e.on ≠ i := fun e he hb heq => by
        have g1 := hall e he hb
        have g0 := (mem_ready.1 hr).1
        rw [heq] at g1
        rcases Nat.lt_or_ge i L.size with h' | h'
        · simp [h'] at g0 g1; rw [g0] at g1; cases g1
        · simp [Array.getElem?_eq_none h'] at g1
      have h2 := wpOp_putIf hoj (hfree j oj hoj hji hjun hnot) (fun cs b => hsel i oi cs b hi) (fun cs b => hsel j oj cs b hoj) hQ hy h1
      have hfree' : ∀ k ok, ops[k]? = some ok → k ≠ i → (L.setIfInBounds j true).getD k true = false → (∀ e ∈ ok.after, Region.binds md e = true → e.on ≠ i) → oi.apart ops ok = true := fun k ok hk hki hun hno => by
        refine hfree k ok hk hki ?_ hno
        by_cases hjk : j = k
        · subst hjk; exact hjun
        · rw [getD_set_ne true hjk] at hun; exact hun
      -- the late one is not j, where it waits for i
      have hL' : (∀ w, S0 w → T w) ∨ (L.setIfInBounds j true).getD q true = false := by
        rcases hT with h | ⟨_, oq, hoq, e, he, hb, hei⟩
        · exact .inl h
        · rcases hL with h | h
          · exact .inl h
          · by_cases hjq : j = q
            · subst hjq
              rw [hoj] at hoq
              injection hoq with hoq
              subst hoq
              exact absurd hei (hnot e he hb)
            · exact .inr (by rw [getD_set_ne true hjq]; exact h)
      refine wpOp_mono (fun a' w' h3 => ?_) h2
      obtain ⟨hy', ⟨t0, t1⟩, hrest⟩ := h3
      have hS' : S0 w' ∧ ((L.setIfInBounds j true).getD q true = false → S1 w') := ⟨t0, fun hq => by
        by_cases hjq : j = q
        · subst hjq
          rcases Nat.lt_or_ge j L.size with h' | h'
          · simp [h'] at hq
          · simp at hq
        · rw [getD_set_ne true hjq] at hq
          exact t1 hjq (by rw [getD_set_ne true hiq]; exact hq)⟩
      refine ⟨⟨t0, fun hjq hq => ?_⟩, ih (L.setIfInBounds j true) a' w' hL' hfree' (ready_mono hr (Ne.symm hji)) hy' hS' ?_⟩
      · exact hS'.2 (by rw [getD_set_ne true hjq]; exact hq)
      · rw [Array.setIfInBounds_comm _ _ hji]
        exact hrest
theorem wp_region_late {id : Nat} {a : Act} {w : World} (S0 S1 : World → Prop) (q : Nat) (hm : P.follows .mixedOrders = true) (h0 : S0 w.drew) (h1 : S1 w.drew)
    (h : S0 w.drew → S1 w.drew → anyL P .any ops Q S0 S1 q ops.size (Array.replicate ops.size false) a w.drew) : (Code.region id ops true).wp P Q a w :=
  wp_region_any hm (anyL_plain _ _ _ _ (h h0 h1))
end
section
variable {P : Program} {l : List Oper} {Q : Exit → Act → World → Prop} {md : Region.Mode} {S0 S1 : World → Prop} {q fuel i : Nat} {oi : Oper} {v : Value} {listed : Array Bool} {a : Act} {w : World}
def waits (md : Region.Mode) (l : List Oper) (q i : Nat) : Bool := match nthO q l with
  | none => false
  | some o => o.after.any fun e => Region.binds md e && e.on == i
theorem early_op (hi : nthO i l = some oi) (hs : Region.noSelect l.toArray = true) (hf : Region.free md l.toArray listed i = true) (hr : (Region.ready md l.toArray listed).contains i = true) (hiq : (i == q) = false) (hq : waits md l q i = true) (hl : listed.getD q true = false)
    (hQ : ∀ c a w, Q (.panic c) (a.put oi.dst v) w → Q (.panic c) a w) (hw : Region.wanted oi (yielded l.toArray a.tmps) = true) (hy : ∀ w, S0 w → S1 w → (execOp a.eval oi).run P w = .ok (.value v) w) (h0 : S0 w) (h1 : S1 w)
    (h : anyL P md l.toArray Q S0 S1 q fuel (listed.setIfInBounds i true) (a.put oi.dst v) w) : anyL P md l.toArray Q S0 S1 q (fuel + 1) listed a w := by
  refine anyL_first (T := fun w => S0 w ∧ S1 w) (by rw [nthO_eq]; exact hi) (Region.noSelect_spec hs) hQ (by simpa using hiq) (.inr ⟨fun w a b => ⟨a, b⟩, ?_⟩) fuel listed a w (.inr hl) (Region.free_spec (by rw [nthO_eq]; exact hi) hf) (by simpa using hr) (.inl ⟨hw, fun w hh => hy w hh.1 hh.2⟩) ⟨h0, fun _ => h1⟩ h
  unfold waits at hq
  cases ho : nthO q l with
  | none => rw [ho] at hq; cases hq
  | some o =>
    rw [ho] at hq
    simp only [Array.any_eq_true, Bool.and_eq_true, beq_iff_eq] at hq
    obtain ⟨j, hj, h2, h3⟩ := hq
    exact ⟨o, by rw [nthO_eq]; exact ho, _, Array.getElem_mem hj, h2, h3⟩
theorem plain_op (hi : nthO i l = some oi) (hs : Region.noSelect l.toArray = true) (hf : Region.free md l.toArray listed i = true) (hr : (Region.ready md l.toArray listed).contains i = true) (hiq : (i == q) = false)
    (hQ : ∀ c a w, Q (.panic c) (a.put oi.dst v) w → Q (.panic c) a w) (hw : Region.wanted oi (yielded l.toArray a.tmps) = true) (hy : ∀ w, S0 w → (execOp a.eval oi).run P w = .ok (.value v) w) (h0 : S0 w) (h1 : listed.getD q true = false → S1 w)
    (h : anyL P md l.toArray Q S0 S1 q fuel (listed.setIfInBounds i true) (a.put oi.dst v) w) : anyL P md l.toArray Q S0 S1 q (fuel + 1) listed a w :=
  anyL_first (T := S0) (by rw [nthO_eq]; exact hi) (Region.noSelect_spec hs) hQ (by simpa using hiq) (.inl fun _ h => h) fuel listed a w (.inl fun _ h => h) (Region.free_spec (by rw [nthO_eq]; exact hi) hf) (by simpa using hr) (.inl ⟨hw, hy⟩) ⟨h0, h1⟩ h
theorem only_op (hi : nthO i l = some oi) (hr : Region.ready md l.toArray listed = [i])
    (h : ∀ K' : Act → World → Prop, Shut (∀ a w, S0 w → S1 w → (S0 w → S1 w → anyL P md l.toArray Q S0 S1 q fuel (listed.setIfInBounds i true) a w) → K' a w) → if Region.wanted oi (yielded l.toArray a.tmps) = true then Oper.wp P oi a w K' Q else K' (a.put oi.dst undef) w) :
    anyL P md l.toArray Q S0 S1 q (fuel + 1) listed a w := by
  refine ⟨fun h0 => (by rw [hr] at h0; cases h0), fun j hj => ?_⟩
  rw [hr] at hj
  obtain rfl := List.mem_singleton.1 hj
  exact wpOp_step (by rw [nthO_eq]; exact hi) (fun K' hK => h K' (fun a w h0 h1 hW => hK a w ⟨⟨h0, fun _ _ => h1⟩, hW h0 h1⟩))
theorem late_op (hi : nthO i l = some oi) (hr : Region.ready md l.toArray listed = [i]) (hiq : (i == q) = true)
    (h : ∀ K' : Act → World → Prop, Shut (∀ a w, S0 w → (S0 w → anyL P md l.toArray Q S0 S1 q fuel (listed.setIfInBounds i true) a w) → K' a w) → if Region.wanted oi (yielded l.toArray a.tmps) = true then Oper.wp P oi a w K' Q else K' (a.put oi.dst undef) w) :
    anyL P md l.toArray Q S0 S1 q (fuel + 1) listed a w := by
  refine ⟨fun h0 => (by rw [hr] at h0; cases h0), fun j hj => ?_⟩
  rw [hr] at hj
  obtain rfl := List.mem_singleton.1 hj
  exact wpOp_step (by rw [nthO_eq]; exact hi) (fun K' hK => h K' (fun a w h0 hW => hK a w ⟨⟨h0, fun hn => absurd (by simpa using hiq) hn⟩, hW h0⟩))
theorem anyL_done {l : Array Oper} {listed : Array Bool} {a : Act} {w : World} (hr : Region.ready md l listed = []) (h : Q .normal a w) : ∀ fuel, anyL P md l Q S0 S1 q fuel listed a w
  | 0 => ⟨hr, h⟩
  | _ + 1 => ⟨fun _ => h, by rw [hr]; simp⟩
end
end Go.Proofs.Ytmnedjhfibmcnaa.Reg

/-
  The contracts of chapter 6's functions of the specification: l6Item, l6Copy. Conditions: keys' texts of at most 2^40 bytes, at most 2^20 fields and items. (Written by my program gen_l6a.py.)
-/
namespace Go.Proofs.Ytmnedjhfibmcnaa.L6
set_option maxRecDepth 100000
open L4 (K isK cmpK R inR encU)
open L5 (F isR isN cellsF encR eqR Small)
open Go.ChangeShapes Go.WideShapes Go.ChangeAt Go.RowKit Mem Sl Ex L2 Sv Bag
set_option linter.unusedVariables false
set_option linter.unusedSimpArgs false

set_option maxHeartbeats 2000000 in
theorem l6Item_any (kd n : Int) (s : ByteArray) (a : Option Addr) (c : Nat) (l : List F) (hl : l.length ≤ 1048576) (w : World) (hr : Reads w w.heap.size a (cellsF l)) :
    Calls Try.prog 91 #[.agg #[.int .i64 kd, .int .i64 n, .string s, .slice a l.length c]] w (GaveI w ⟨⟨kd, n, s⟩, l⟩) := by
  have HC := Lib.hid (fun w' (h : Below w.heap.size w w') => L5.l5Copy_any a c l (by have := hl; omega) w' ((hr.below h).more h.size))
  obtain ⟨N, hN⟩ : ∃ n, n = l.length := ⟨_, rfl⟩
  rw [← hN] at HC ⊢
  have HN := Lib.hid hN
  clear hN hr hl
  have S1 := Lib.hid (show Sl.Sep w ((w.alloc (.cells #[.int .i64 kd, .int .i64 n, .string s, .slice a N c] 43)).alloc (.cells #[.int .i64 0, .int .i64 0, .string ⟨#[]⟩, .slice none 0 0] 43)) [L4.boxR w.heap.size 43 #[.int .i64 kd, .int .i64 n, .string s, .slice a N c], L4.boxR (w.heap.size + 1) 43 #[.int .i64 0, .int .i64 0, .string ⟨#[]⟩, .slice none 0 0]] from L4.push_box (L4.push_box (Sl.Sep.start w) 43 #[.int .i64 kd, .int .i64 n, .string s, .slice a N c] (w.heap.size) (by simp)) 43 #[.int .i64 0, .int .i64 0, .string ⟨#[]⟩, .slice none 0 0] (w.heap.size + 1) (by simp))
  obtain ⟨wa, hwa⟩ : ∃ u, u = ((w.alloc (.cells #[.int .i64 kd, .int .i64 n, .string s, .slice a N c] 43)).alloc (.cells #[.int .i64 0, .int .i64 0, .string ⟨#[]⟩, .slice none 0 0] 43)) := ⟨_, rfl⟩
  rw [← hwa] at S1
  go_enter Try.func91, Try.ntmps91
  go_upto_region 1 with fail
  rw [← hwa]
  clear hwa
  go_upto_region 1 with fail
  refine wp_region_held_drew (S := (fun w' => (World.cell? w' ⟨w.heap.size, 0, none⟩ = some (.int .i64 kd) ∧ World.cell? w' ⟨w.heap.size, 1, none⟩ = some (.int .i64 n) ∧ World.cell? w' ⟨w.heap.size, 2, none⟩ = some (.string s) ∧ World.cell? w' ⟨w.heap.size, 3, none⟩ = some (.slice a N c)))) (by kernel_rfl) (Bag.cs4 (Bag.drew1 S1.out) 0 rfl) (fun hS => ?_)
  have S2 := Lib.hid (show Sl.Sep w _ [L4.boxR w.heap.size 43 #[.int .i64 kd, .int .i64 n, .string s, .slice a N c], L4.boxR (w.heap.size + 1) 43 #[.int .i64 0, .int .i64 0, .string ⟨#[]⟩, .slice none 0 0]] from Bag.drew1 S1.out)
  clear S1
  generalize World.drew _ = w1 at hS S2 ⊢
  refine tk 0 rfl ?_
  try simp only [zp0, zp1, zp2, zp3, zp4]
  refine tk 1 rfl ?_
  try simp only [zp0, zp1, zp2, zp3, zp4]
  refine tk 2 rfl ?_
  try simp only [zp0, zp1, zp2, zp3, zp4]
  refine tk 3 rfl ?_
  try simp only [zp0, zp1, zp2, zp3, zp4]
  refine Reg.one_op (i := 4) rfl (by kernel_rfl) (fun K hK => ?_)
  go_simp
  go_at_call 128
  refine (HC.out _ S2.out.old).mono ?_
  rintro e w2 ⟨a1, c1, rfl, ho, hb⟩
  have S3 := Lib.hid (show Sl.Sep w _ [L4.boxR w.heap.size 43 #[.int .i64 kd, .int .i64 n, .string s, .slice a N c], L4.boxR (w.heap.size + 1) 43 #[.int .i64 0, .int .i64 0, .string ⟨#[]⟩, .slice none 0 0], Sv.ownV 107 2 a1 c1 N (cellsF l)] from Sv.push_own S2.out hb ho)
  clear S2
  clear hb ho
  go_wp2_with fail
  refine hK.out _ _ (Bag.cs4 S3.out 0 rfl) (fun hS => ?_)
  clear hK K
  try simp only [zp0, zp1, zp2, zp3, zp4]
  refine tk 5 rfl ?_
  try simp only [zp0, zp1, zp2, zp3, zp4]
  refine Reg.one_op (i := 6) rfl (by kernel_rfl) (fun K hK => ?_)
  have hh := Bag.cs4 S3.out 1 rfl
  have f0 := hh.1; have f1 := hh.2.1; have f2 := hh.2.2.1; have f3 := hh.2.2.2; clear hh
  have hh := Bag.fs4 S3.out 1 rfl
  have z0 := hh.1; have z1 := hh.2.1; have z2 := hh.2.2.1; have z3 := hh.2.2.2; clear hh
  go_simp
  clear f0 f1 f2 f3 z0 z1 z2 z3
  have S4 := Lib.hid (show Sl.Sep w _ [L4.boxR w.heap.size 43 #[.int .i64 kd, .int .i64 n, .string s, .slice a N c], L4.boxR (w.heap.size + 1) 43 #[.int .i64 kd, .int .i64 n, .string s, .slice a1 N c1], Sv.ownV 107 2 a1 c1 N (cellsF l)] from L5.put_box5 (L5.put_box5 (L5.put_box5 (L5.put_box5 (S3.out) 1 rfl 0 (.int .i64 kd)) 1 rfl 1 (.int .i64 n)) 1 rfl 2 (.string s)) 1 rfl 3 (.slice a1 N c1))
  clear S3
  refine hK.out _ _ (Bag.cs4 S4.out 0 rfl) (fun hS => ?_)
  clear hK K
  try simp only [zp0, zp1, zp2, zp3, zp4]
  refine wpAnyH_done (by kernel_rfl) ?_ _
  have hh := Bag.cs4 S4.out 0 rfl
  have f0 := hh.1; have f1 := hh.2.1; have f2 := hh.2.2.1; have f3 := hh.2.2.2; clear hh
  have hh := Bag.cs4 S4.out 1 rfl
  have f4 := hh.1; have f5 := hh.2.1; have f6 := hh.2.2.1; have f7 := hh.2.2.2; clear hh
  go_wp2_with fail
  refine bodyPost_ret (v := .agg #[.int .i64 kd, .int .i64 n, .string s, .slice a1 N c1]) (by simp [results, Try.results91, go_sem, *]) rfl ?_
  have hb := Bag.bag_from (Bag.bag_of_one S4.out 2 (r := (LI.mk ⟨kd, n, s⟩ a1 c1 l).row) (by show some _ = some _; rw [HN.out]; rfl)) 2 rfl
  exact ⟨a1, c1, by rw [HN.out], hb, S4.out.old⟩
theorem infoItem : (Try.prog.info? 43).map (fun i => (i.zero, i.size, i.bytes)) = some (some (.agg #[.int .i64 0, .int .i64 0, .string ⟨#[]⟩, .slice none 0 0]), 4, 56) := by kernel_rfl
theorem itemInfo : ∃ i, Try.prog.info? 43 = some i ∧ i.zero = some (.agg #[.int .i64 0, .int .i64 0, .string ⟨#[]⟩, .slice none 0 0]) ∧ i.size = 4 ∧ i.bytes = 56 := by
  have h := infoItem
  rw [Option.map_eq_some_iff] at h
  obtain ⟨i, h1, h2⟩ := h
  simp only [Prod.mk.injEq] at h2
  exact ⟨i, h1, h2⟩
theorem readsI_at {w : World} {B : Nat} {ad : Addr} {xs : List LI} (h : Reads w B (some ad) (cellsI xs)) (j : Nat) (x : LI) (hx : xs[j]? = some x) :
    w.cell? (ad.add (j * 4)) = some (.int .i64 x.k.kind) ∧ w.cell? ⟨(ad.add (j * 4)).block, (ad.add (j * 4)).off + 1, none⟩ = some (.int .i64 x.k.n) ∧ w.cell? ⟨(ad.add (j * 4)).block, (ad.add (j * 4)).off + 2, none⟩ = some (.string x.k.text) ∧ w.cell? ⟨(ad.add (j * 4)).block, (ad.add (j * 4)).off + 3, none⟩ = some (.slice x.a x.l.length x.c) := by
  obtain ⟨hj, rfl⟩ := List.getElem?_eq_some_iff.1 hx
  obtain ⟨ad', e, _, h1⟩ := readsI h j hj
  injection e with e
  subst e
  exact h1
theorem readsI_some {w : World} {B : Nat} {a : Option Addr} {xs : List LI} (h : Reads w B a (cellsI xs)) (j : Nat) (hj : j < xs.length) : ∃ ad x, a = some ad ∧ xs[j]? = some x := by
  obtain ⟨ad, e, _⟩ := readsI h j hj
  exact ⟨ad, _, e, List.getElem?_eq_getElem hj⟩
theorem conI_take {xs : List LI} {j : Nat} {x : LI} (hx : xs[j]? = some x) : (conI xs).take (j + 1) = (conI xs).take j ++ [x.con] := by
  obtain ⟨hj, rfl⟩ := List.getElem?_eq_some_iff.1 hx
  rw [List.take_succ_eq_append_getElem (by simpa using hj), conI_get _ _ hj]
theorem rowsI_mem {xs : List LI} {j : Nat} {x : LI} (hx : xs[j]? = some x) : x.row ∈ rowsI xs := by
  obtain ⟨hj, rfl⟩ := List.getElem?_eq_some_iff.1 hx
  exact rowsI_at xs j hj
theorem fit_at {xs : List LI} {j : Nat} {x : LI} (h : ∀ y ∈ conI xs, FitI y) (hx : xs[j]? = some x) : FitI x.con := by
  obtain ⟨hj, rfl⟩ := List.getElem?_eq_some_iff.1 hx
  exact h _ (List.mem_map.2 ⟨_, List.getElem_mem hj, rfl⟩)
set_option maxHeartbeats 4000000 in
theorem l6Copy_any (y : LS) (hf : FitS y.con) (w : World) (hr : RowsRd w w.heap.size y.rows) :
    Calls Try.prog 139 #[y.v] w (GaveS w y.con) := by
  obtain ⟨i0, hi1, hi2, hi3, hi4⟩ := itemInfo
  have HI := Lib.hid (And.intro hi1 (And.intro hi2 (And.intro hi3 hi4)))
  clear hi1 hi2 hi3 hi4
  obtain ⟨name, a, c, xs, auto⟩ := y
  have HR := Lib.hid (fun w' (h : Below w.heap.size w w') => LS.outer (hr.below h))
  have HX := Lib.hid (fun w' (h : Below w.heap.size w w') => (LS.inner (hr.below h)).more h.size)
  have HF := Lib.hid hf.items
  have hl := hf.len
  simp only [LS.con, conI_length] at hl
  unfold LS.v LS.cells LS.con
  dsimp only at HR HX HF hl ⊢
  obtain ⟨N, hN⟩ : ∃ n, n = xs.length := ⟨_, rfl⟩
  rw [← hN] at hl ⊢
  have hl' : (N : Int) ≤ 1048576 := by omega
  have HN := Lib.hid hN
  clear hN hr hf
  have S1 := Lib.hid (show Sl.Sep w ((w.alloc (.cells #[.string name, .slice a N c, .int .i64 auto] 26)).alloc (.cells #[.string ⟨#[]⟩, .slice none 0 0, .int .i64 0] 26)) [L4.boxR w.heap.size 26 #[.string name, .slice a N c, .int .i64 auto], L4.boxR (w.heap.size + 1) 26 #[.string ⟨#[]⟩, .slice none 0 0, .int .i64 0]] from L4.push_box (L4.push_box (Sl.Sep.start w) 26 #[.string name, .slice a N c, .int .i64 auto] (w.heap.size) (by simp)) 26 #[.string ⟨#[]⟩, .slice none 0 0, .int .i64 0] (w.heap.size + 1) (by simp))
  obtain ⟨wa, hwa⟩ : ∃ u, u = ((w.alloc (.cells #[.string name, .slice a N c, .int .i64 auto] 26)).alloc (.cells #[.string ⟨#[]⟩, .slice none 0 0, .int .i64 0] 26)) := ⟨_, rfl⟩
  rw [← hwa] at S1
  go_enter Try.func139, Try.ntmps139
  go_upto_region 1 with fail
  rw [← hwa]
  clear hwa
  have hh := Bag.cs3 S1.out 0 rfl
  have f0 := hh.1; have f1 := hh.2.1; have f2 := hh.2.2; clear hh
  have hh := Bag.cs3 S1.out 1 rfl
  have f3 := hh.1; have f4 := hh.2.1; have f5 := hh.2.2; clear hh
  go_upto_region 2 with fail
  clear f0 f1 f2 f3 f4 f5
  have S2 := Lib.hid (show Sl.Sep w _ [L4.boxR w.heap.size 26 #[.string name, .slice a N c, .int .i64 auto], L4.boxR (w.heap.size + 1) 26 #[.string ⟨#[]⟩, .slice none 0 0, .int .i64 0], L4.boxR wa.heap.size 26 #[.string name, .slice none 0 0, .int .i64 auto]] from L4.push_box S1.out 26 #[.string name, .slice none 0 0, .int .i64 auto] wa.heap.size rfl)
  clear S1
  obtain ⟨g1, hg⟩ : ∃ g', g' = wa.heap.size := ⟨_, rfl⟩
  rw [← hg] at S2 ⊢
  clear hg
  generalize wa.alloc (.cells #[.string name, .slice none 0 0, .int .i64 auto] 26) = w1 at S2 ⊢
  have S3 := Lib.hid (show Sl.Sep w _ [L4.boxR w.heap.size 26 #[.string name, .slice a N c, .int .i64 auto], L4.boxR (w.heap.size + 1) 26 #[.string ⟨#[]⟩, .slice none 0 0, .int .i64 0], L4.boxR g1 26 #[.string name, .slice none 0 0, .int .i64 auto], Sv.ownV 43 4 none 0 0 (cellsI [])] from Sv.push_own S2.out (Below.refl _ _) (OwnV.nil _ _ _ _))
  clear S2
  have S4 := Lib.hid (show Sl.Sep w _ [L4.boxR w.heap.size 26 #[.string name, .slice a N c, .int .i64 auto], L4.boxR (w.heap.size + 1) 26 #[.string ⟨#[]⟩, .slice none 0 0, .int .i64 0], L4.boxR g1 26 #[.string name, .slice none 0 0, .int .i64 auto], Sv.ownV 43 4 none 0 0 (cellsI []), Bag.bag (rowsI [])] from Bag.push_bag S3.out (Below.refl _ _) (Bag.BagOwn.nil _ _))
  clear S3
  go_wp2_with fail
  go_loopw [4] (fun i wr => ∃ (k : Nat) (A : Option Addr) (C : Nat) (ys : List LI), k ≤ N ∧ i = .int .i64 k ∧ Hid (conI ys = (conI xs).take k ∧ Sl.Sep w wr [L4.boxR w.heap.size 26 #[.string name, .slice a N c, .int .i64 auto], L4.boxR (w.heap.size + 1) 26 #[.string ⟨#[]⟩, .slice none 0 0, .int .i64 0], L4.boxR g1 26 #[.string name, .slice A k C, .int .i64 auto], Sv.ownV 43 4 A C k (cellsI ys), Bag.bag (rowsI ys)])) (fun i _ => N - (intOf i).toNat)
  case atStart => exact ⟨0, none, 0, [], Nat.zero_le _, rfl, rfl, S4.out⟩
  case round =>
    obtain ⟨k, A, C, ys, hk, rfl, hrel⟩ := hrel
    have HC := Lib.hid hrel.out.1
    have S5 := Lib.hid hrel.out.2
    clear hrel S4
    by_cases hlt : (k : Int) < (N : Int)
    · skip
      have hkl : k < xs.length := by have := HN.out; omega
      obtain ⟨ad, x, rfl, hx⟩ := readsI_some (HR.out _ S5.out.old) k hkl
      obtain ⟨⟨kd, n, t⟩, ia, ic, l⟩ := x
      have HK := Lib.hid (fun w' (h : Below w.heap.size w w') => readsI_at (HR.out _ h) k _ hx)
      try dsimp only at HK
      have HCI := Lib.hid (fun w' (h : Below w.heap.size w w') => l6Item_any kd n t ia ic l (fit_at HF.out hx).len w' (((HX.out _ h).at_ (rowsI_mem hx)).reads))
      try dsimp only at HCI
      have HT := Lib.hid (conI_take hx)
      clear hx
      have hh := Bag.cs3 S5.out 0 rfl
      have f0 := hh.1; have f1 := hh.2.1; have f2 := hh.2.2; clear hh
      have hh := Bag.cs3 S5.out 1 rfl
      have f3 := hh.1; have f4 := hh.2.1; have f5 := hh.2.2; clear hh
      have hh := Bag.cs3 S5.out 2 rfl
      have f6 := hh.1; have f7 := hh.2.1; have f8 := hh.2.2; clear hh
      have hh := HK.out _ S5.out.old
      have f9 := hh.1; have f10 := hh.2.1; have f11 := hh.2.2.1; have f12 := hh.2.2.2; clear hh
      go_upto_region 5 with fail
      clear f0 f1 f2 f3 f4 f5 f6 f7 f8 f9 f10 f11 f12
      refine Reg.wp_region_late (fun w' => (World.cell? w' ⟨w.heap.size, 0, none⟩ = some (.string name) ∧ World.cell? w' ⟨w.heap.size, 1, none⟩ = some (.slice (some ad) N c) ∧ World.cell? w' ⟨w.heap.size, 2, none⟩ = some (.int .i64 auto)) ∧ (World.cell? w' (ad.add (k * 4)) = some (.int .i64 kd) ∧ World.cell? w' (⟨(ad.add (k * 4)).block, (ad.add (k * 4)).off + 1, none⟩) = some (.int .i64 n) ∧ World.cell? w' (⟨(ad.add (k * 4)).block, (ad.add (k * 4)).off + 2, none⟩) = some (.string t) ∧ World.cell? w' (⟨(ad.add (k * 4)).block, (ad.add (k * 4)).off + 3, none⟩) = some (.slice ia l.length ic))) (fun w' => (World.cell? w' ⟨g1, 0, none⟩ = some (.string name) ∧ World.cell? w' ⟨g1, 1, none⟩ = some (.slice A k C) ∧ World.cell? w' ⟨g1, 2, none⟩ = some (.int .i64 auto))) 11 (by kernel_rfl) ⟨Bag.cs3 (Bag.drew1 S5.out) 0 rfl, HK.out _ (Bag.drew1 S5.out).old⟩ (Bag.cs3 (Bag.drew1 S5.out) 2 rfl) (fun hS hL => ?_)
      have S6 := Lib.hid (show Sl.Sep w _ [L4.boxR w.heap.size 26 #[.string name, .slice (some ad) N c, .int .i64 auto], L4.boxR (w.heap.size + 1) 26 #[.string ⟨#[]⟩, .slice none 0 0, .int .i64 0], L4.boxR g1 26 #[.string name, .slice A k C, .int .i64 auto], Sv.ownV 43 4 A C k (cellsI ys), Bag.bag (rowsI ys)] from Bag.drew1 S5.out)
      clear S5
      generalize World.drew _ = w2 at hS hL S6 ⊢
      refine Reg.early_op (i := 0) (v := ?_) rfl (by kernel_rfl) (by kernel_rfl) (by kernel_rfl) rfl (by kernel_rfl) (by kernel_rfl) (fun _ _ _ h => h) (by rfl) ?_ hS hL ?_
      rotate_left
      · (intro w hSw hSv; (try dsimp only at hSw); (try dsimp only at hSv); go_simp; try with_reducible rfl)
      try simp only [zp0, zp1, zp2, zp3, zp4]
      refine Reg.early_op (i := 1) (v := ?_) rfl (by kernel_rfl) (by kernel_rfl) (by kernel_rfl) rfl (by kernel_rfl) (by kernel_rfl) (fun _ _ _ h => h) (by rfl) ?_ hS hL ?_
      rotate_left
      · (intro w hSw hSv; (try dsimp only at hSw); (try dsimp only at hSv); go_simp; try with_reducible rfl)
      try simp only [zp0, zp1, zp2, zp3, zp4]
      refine Reg.early_op (i := 2) (v := ?_) rfl (by kernel_rfl) (by kernel_rfl) (by kernel_rfl) rfl (by kernel_rfl) (by kernel_rfl) (fun _ _ _ h => h) (by rfl) ?_ hS hL ?_
      rotate_left
      · (intro w hSw hSv; (try dsimp only at hSw); (try dsimp only at hSv); go_simp; try with_reducible rfl)
      try simp only [zp0, zp1, zp2, zp3, zp4]
      refine Reg.early_op (i := 3) (v := ?_) rfl (by kernel_rfl) (by kernel_rfl) (by kernel_rfl) rfl (by kernel_rfl) (by kernel_rfl) (fun _ _ _ h => h) (by rfl) ?_ hS hL ?_
      rotate_left
      · (intro w hSw hSv; (try dsimp only at hSw); (try dsimp only at hSv); go_simp; try with_reducible rfl)
      try simp only [zp0, zp1, zp2, zp3, zp4]
      refine Reg.early_op (i := 4) (v := ?_) rfl (by kernel_rfl) (by kernel_rfl) (by kernel_rfl) rfl (by kernel_rfl) (by kernel_rfl) (fun _ _ _ h => h) (by rfl) ?_ hS hL ?_
      rotate_left
      · (intro w hSw hSv; (try dsimp only at hSw); (try dsimp only at hSv); go_simp; try with_reducible rfl)
      try simp only [zp0, zp1, zp2, zp3, zp4]
      refine Reg.early_op (i := 5) (v := ?_) rfl (by kernel_rfl) (by kernel_rfl) (by kernel_rfl) rfl (by kernel_rfl) (by kernel_rfl) (fun _ _ _ h => h) (by rfl) ?_ hS hL ?_
      rotate_left
      · (intro w hSw hSv; (try dsimp only at hSw); (try dsimp only at hSv); go_simp; try with_reducible rfl)
      try simp only [zp0, zp1, zp2, zp3, zp4]
      refine Reg.early_op (i := 6) (v := ?_) rfl (by kernel_rfl) (by kernel_rfl) (by kernel_rfl) rfl (by kernel_rfl) (by kernel_rfl) (fun _ _ _ h => h) (by rfl) ?_ hS hL ?_
      rotate_left
      · (intro w hSw hSv; (try dsimp only at hSw); (try dsimp only at hSv); go_simp; try with_reducible rfl)
      try simp only [zp0, zp1, zp2, zp3, zp4]
      refine Reg.only_op (i := 7) rfl (by kernel_rfl) (fun K hK => ?_)
      go_simp
      go_at_call 91
      refine (HCI.out _ S6.out.old).mono ?_
      rintro e w3 ⟨a1, c1, rfl, ho, hb⟩
      have S7 := Lib.hid (show Sl.Sep w _ [L4.boxR w.heap.size 26 #[.string name, .slice (some ad) N c, .int .i64 auto], L4.boxR (w.heap.size + 1) 26 #[.string ⟨#[]⟩, .slice none 0 0, .int .i64 0], L4.boxR g1 26 #[.string name, .slice A k C, .int .i64 auto], Sv.ownV 43 4 A C k (cellsI ys), Bag.bag (rowsI ys), Bag.bag ([(LI.mk ⟨kd, n, t⟩ a1 c1 l).row])] from Bag.push_bag S6.out hb ho)
      clear S6
      clear hb ho
      go_wp2_with fail
      clear hL
      refine hK.out _ _ ⟨Bag.cs3 S7.out 0 rfl, HK.out _ S7.out.old⟩ (Bag.cs3 S7.out 2 rfl) (fun hS hL => ?_)
      clear hK K
      try simp only [zp0, zp1, zp2, zp3, zp4]
      refine Reg.only_op (i := 8) rfl (by kernel_rfl) (fun K hK => ?_)
      go_simp
      have S8 := Lib.hid (show Sl.Sep w _ [L4.boxR w.heap.size 26 #[.string name, .slice (some ad) N c, .int .i64 auto], L4.boxR (w.heap.size + 1) 26 #[.string ⟨#[]⟩, .slice none 0 0, .int .i64 0], L4.boxR g1 26 #[.string name, .slice A k C, .int .i64 auto], Sv.ownV 43 4 A C k (cellsI ys), Bag.bag (rowsI ys), Bag.bag ([(LI.mk ⟨kd, n, t⟩ a1 c1 l).row]), Sv.ownV 43 4 (some ⟨w3.heap.size, 0, none⟩) 1 1 (cellsI [⟨⟨kd, n, t⟩, a1, c1, l⟩])] from Sv.push_own S7.out ((Below.refl _ _).alloc (Nat.le_refl _) _) (OwnV.madeAt w3 43 4 1 w3.heap.size #[.int .i64 kd, .int .i64 n, .string t, .slice a1 l.length c1] rfl (Nat.le_refl _) rfl (by decide)))
      clear S7
      obtain ⟨g2, hg⟩ : ∃ g', g' = w3.heap.size := ⟨_, rfl⟩
      rw [← hg] at S8 ⊢
      clear hg
      generalize w3.alloc (.cells #[.int .i64 kd, .int .i64 n, .string t, .slice a1 l.length c1] 43) = w4 at S8 ⊢
      clear hL
      refine hK.out _ _ ⟨Bag.cs3 S8.out 0 rfl, HK.out _ S8.out.old⟩ (Bag.cs3 S8.out 2 rfl) (fun hS hL => ?_)
      clear hK K
      try simp only [zp0, zp1, zp2, zp3, zp4]
      refine Reg.only_op (i := 9) rfl (by kernel_rfl) (fun K hK => ?_)
      refine Sv.step_append_s S8.out 3 rfl rfl _ _ 24 (by rfl) i0 (.agg #[.int .i64 0, .int .i64 0, .string ⟨#[]⟩, .slice none 0 0]) 56 Try.underlying24 HI.out.1 HI.out.2.1 HI.out.2.2.1 HI.out.2.2.2 rfl (by omega) _ (by rfl) rfl _ _ 1 _ _ (cellsI [⟨⟨kd, n, t⟩, a1, c1, l⟩]) (by rfl) rfl ((Sv.own_at S8.out 6 rfl).reads) rfl (cellsI_one _) (by unfold maxLen; omega) (by omega) ?_
      intro a3' c3' w5 hA
      have S9 := Lib.hid (show Sl.Sep w _ [L4.boxR w.heap.size 26 #[.string name, .slice (some ad) N c, .int .i64 auto], L4.boxR (w.heap.size + 1) 26 #[.string ⟨#[]⟩, .slice none 0 0, .int .i64 0], L4.boxR g1 26 #[.string name, .slice A k C, .int .i64 auto], Sv.ownV 43 4 a3' c3' (k + 1) (cellsI ys ++ (cellsI [⟨⟨kd, n, t⟩, a1, c1, l⟩])), Bag.bag (rowsI ys), Bag.bag ([(LI.mk ⟨kd, n, t⟩ a1 c1 l).row]), Sv.ownV 43 4 (some ⟨g2, 0, none⟩) 1 1 (cellsI [⟨⟨kd, n, t⟩, a1, c1, l⟩])] from hA)
      clear S8
      clear hA
      clear hL
      refine hK.out _ _ ⟨Bag.cs3 S9.out 0 rfl, HK.out _ S9.out.old⟩ (Bag.cs3 S9.out 2 rfl) (fun hS hL => ?_)
      clear hK K
      try simp only [zp0, zp1, zp2, zp3, zp4]
      refine Reg.early_op (i := 10) (v := ?_) rfl (by kernel_rfl) (by kernel_rfl) (by kernel_rfl) rfl (by kernel_rfl) (by kernel_rfl) (fun _ _ _ h => h) (by rfl) ?_ hS hL ?_
      rotate_left
      · (intro w hSw hSv; (try dsimp only at hSw); (try dsimp only at hSv); go_simp; try with_reducible rfl)
      try simp only [zp0, zp1, zp2, zp3, zp4]
      refine Reg.late_op (i := 11) rfl (by kernel_rfl) rfl (fun K hK => ?_)
      have hh := Bag.cs3 S9.out 2 rfl
      have f0 := hh.1; have f1 := hh.2.1; have f2 := hh.2.2; clear hh
      have hh := Bag.fs3 S9.out 2 rfl
      have z0 := hh.1; have z1 := hh.2.1; have z2 := hh.2.2; clear hh
      go_simp
      clear f0 f1 f2 z0 z1 z2
      have S10 := Lib.hid (show Sl.Sep w _ [L4.boxR w.heap.size 26 #[.string name, .slice (some ad) N c, .int .i64 auto], L4.boxR (w.heap.size + 1) 26 #[.string ⟨#[]⟩, .slice none 0 0, .int .i64 0], L4.boxR g1 26 #[.string name, .slice a3' (k + 1) c3', .int .i64 auto], Sv.ownV 43 4 a3' c3' (k + 1) (cellsI ys ++ (cellsI [⟨⟨kd, n, t⟩, a1, c1, l⟩])), Bag.bag (rowsI ys), Bag.bag ([(LI.mk ⟨kd, n, t⟩ a1 c1 l).row]), Sv.ownV 43 4 (some ⟨g2, 0, none⟩) 1 1 (cellsI [⟨⟨kd, n, t⟩, a1, c1, l⟩])] from L5.put_box5 (S9.out) 2 rfl 1 (.slice a3' (k + 1) c3'))
      clear S9
      refine hK.out _ _ ⟨Bag.cs3 S10.out 0 rfl, HK.out _ S10.out.old⟩ (fun hS => ?_)
      clear hL
      clear hK K
      try simp only [zp0, zp1, zp2, zp3, zp4]
      refine Reg.anyL_done (by kernel_rfl) ?_ _
      have hh := Bag.cs3 S10.out 0 rfl
      have f0 := hh.1; have f1 := hh.2.1; have f2 := hh.2.2; clear hh
      have hh := Bag.cs3 S10.out 1 rfl
      have f3 := hh.1; have f4 := hh.2.1; have f5 := hh.2.2; clear hh
      have hh := Bag.cs3 S10.out 2 rfl
      have f6 := hh.1; have f7 := hh.2.1; have f8 := hh.2.2; clear hh
      have hh := HK.out _ S10.out.old
      have f9 := hh.1; have f10 := hh.2.1; have f11 := hh.2.2.1; have f12 := hh.2.2.2; clear hh
      clear f0 f1 f2 f3 f4 f5 f6 f7 f8 f9 f10 f11 f12
      have S11 := Lib.hid (show Sl.Sep w _ [L4.boxR w.heap.size 26 #[.string name, .slice (some ad) N c, .int .i64 auto], L4.boxR (w.heap.size + 1) 26 #[.string ⟨#[]⟩, .slice none 0 0, .int .i64 0], L4.boxR g1 26 #[.string name, .slice a3' (k + 1) c3', .int .i64 auto], Sv.ownV 43 4 a3' c3' (k + 1) (cellsI ys ++ (cellsI [⟨⟨kd, n, t⟩, a1, c1, l⟩])), Bag.bag (rowsI ys ++ ([(LI.mk ⟨kd, n, t⟩ a1 c1 l).row])), Bag.bag ([]), Sv.ownV 43 4 (some ⟨g2, 0, none⟩) 1 1 (cellsI [⟨⟨kd, n, t⟩, a1, c1, l⟩])] from Bag.bag_join S10.out 4 5 (by decide) rfl rfl)
      clear S10
      have S12 := Lib.hid (show Sl.Sep w _ [L4.boxR w.heap.size 26 #[.string name, .slice (some ad) N c, .int .i64 auto], L4.boxR (w.heap.size + 1) 26 #[.string ⟨#[]⟩, .slice none 0 0, .int .i64 0], L4.boxR g1 26 #[.string name, .slice a3' (k + 1) c3', .int .i64 auto], Sv.ownV 43 4 a3' c3' (k + 1) (cellsI ys ++ (cellsI [⟨⟨kd, n, t⟩, a1, c1, l⟩])), Bag.bag (rowsI ys ++ ([(LI.mk ⟨kd, n, t⟩ a1 c1 l).row]))] from Bag.take S11.out [0, 1, 2, 3, 4] (by rfl) (by decide))
      clear S11
      have hh := Bag.cs3 S12.out 0 rfl
      have f0 := hh.1; have f1 := hh.2.1; have f2 := hh.2.2; clear hh
      have hh := Bag.cs3 S12.out 1 rfl
      have f3 := hh.1; have f4 := hh.2.1; have f5 := hh.2.2; clear hh
      have hh := Bag.cs3 S12.out 2 rfl
      have f6 := hh.1; have f7 := hh.2.1; have f8 := hh.2.2; clear hh
      have hh := HK.out _ S12.out.old
      have f9 := hh.1; have f10 := hh.2.1; have f11 := hh.2.2.1; have f12 := hh.2.2.2; clear hh
      go_wp2_with fail
      go_roundw
      case rel =>
        refine ⟨k + 1, a3', c3', ys ++ [⟨⟨kd, n, t⟩, a1, c1, l⟩], by omega, by go_num, And.intro ?_ ?_⟩
        · rw [HT.out, ← HC.out]; exact List.map_append
        · rw [cellsI_append, rowsI_append]; exact S12.out
      case measure => simp [intOf]; omega
    · skip
      have hh := Bag.cs3 S5.out 0 rfl
      have f0 := hh.1; have f1 := hh.2.1; have f2 := hh.2.2; clear hh
      have hh := Bag.cs3 S5.out 1 rfl
      have f3 := hh.1; have f4 := hh.2.1; have f5 := hh.2.2; clear hh
      have hh := Bag.cs3 S5.out 2 rfl
      have f6 := hh.1; have f7 := hh.2.1; have f8 := hh.2.2; clear hh
      have hh := Bag.fs3 S5.out 1 rfl
      have z0 := hh.1; have z1 := hh.2.1; have z2 := hh.2.2; clear hh
      go_wp2_with fail
      clear f0 f1 f2 f3 f4 f5 f6 f7 f8 z0 z1 z2
      have S6 := Lib.hid (show Sl.Sep w _ [L4.boxR w.heap.size 26 #[.string name, .slice a N c, .int .i64 auto], L4.boxR (w.heap.size + 1) 26 #[.string name, .slice A k C, .int .i64 auto], L4.boxR g1 26 #[.string name, .slice A k C, .int .i64 auto], Sv.ownV 43 4 A C k (cellsI ys), Bag.bag (rowsI ys)] from L5.put_box5 (L5.put_box5 (L5.put_box5 (S5.out) 1 rfl 0 (.string name)) 1 rfl 1 (.slice A k C)) 1 rfl 2 (.int .i64 auto))
      clear S5
      have hh := Bag.cs3 S6.out 1 rfl
      have f0 := hh.1; have f1 := hh.2.1; have f2 := hh.2.2; clear hh
      obtain rfl : k = N := by omega
      refine bodyPost_ret (v := .agg #[.string name, .slice A k C, .int .i64 auto]) (by simp [results, Try.results139, go_sem, *]) rfl ?_
      have hlen : k = ys.length := by have h1 := congrArg List.length HC.out; have := HN.out; simp at h1; omega
      have hcon : conI ys = conI xs := by rw [HC.out, List.take_of_length_le (by have := HN.out; simp; omega)]
      subst hlen
      have S90 := Lib.hid (Bag.bag_of_one S6.out 3 (r := rowI A C ys) rfl)
      have S91 := Lib.hid (Bag.bag_join S90.out 3 4 (by decide) rfl rfl)
      exact ⟨⟨name, A, C, ys, auto⟩, rfl, by unfold LS.con; rw [hcon], Bag.bag_from S91.out 3 rfl, S91.out.old⟩
end Go.Proofs.Ytmnedjhfibmcnaa.L6

/-
  The contracts of chapter 6's functions of the specification that only read: FindItem, IsStore, EqualStores, SizeStore. Conditions: keys' texts of at most 2^40 bytes, at most 2^20 fields and items. (Written by my program gen_l6b.py.)
-/
namespace Go.Proofs.Ytmnedjhfibmcnaa.L6
set_option maxRecDepth 100000
open L4 (K isK cmpK R inR encU)
open L5 (F isR isN cellsF encR eqR Small)
open Go.ChangeShapes Go.WideShapes Go.ChangeAt Go.RowKit Mem Sl Ex L2 Sv Bag
set_option linter.unusedVariables false
set_option linter.unusedSimpArgs false

theorem key_eq (kd n : Int) (s : ByteArray) (kd2 n2 : Int) (s2 : ByteArray) (w : World) :
    (Op.equalIn 10000 28 (.agg #[.int .i64 kd, .int .i64 n, .string s]) (.agg #[.int .i64 kd2, .int .i64 n2, .string s2])).run Try.prog w = .ok (eqK ⟨kd, n, s⟩ ⟨kd2, n2, s2⟩) w := by
  unfold eqK K.t
  rw [← ByteArray.toList_eq, ← ByteArray.toList_eq]
  cases h1 : kd == kd2 <;> cases h2 : n == n2 <;> cases h3 : s.toList == s2.toList <;> simp [go_sem, h1, h2, h3]
set_option maxHeartbeats 2000000 in
theorem specFindItem_any (y : LS) (k0 : K) (hf : FitS y.con) (w : World) (hr : RowsRd w w.heap.size y.rows) :
    Calls Try.prog 152 #[y.v, k0.v] w fun e w' => e = .returned (.int .i64 (fndI y.con.items k0)) ∧ Below w.heap.size w w' := by
  obtain ⟨name, a, c, xs, auto⟩ := y
  have HR := Lib.hid (fun w' (h : Below w.heap.size w w') => LS.outer (hr.below h))
  have HX := Lib.hid (fun w' (h : Below w.heap.size w w') => (LS.inner (hr.below h)).more h.size)
  have HF := Lib.hid hf.items
  have HNM := Lib.hid hf.name
  have hl := hf.len
  simp only [LS.con, conI_length] at hl
  dsimp only [LS.con] at HR HX HF HNM
  try unfold LS.v LS.cells LS.con
  try dsimp only
  obtain ⟨N, hN⟩ : ∃ n, n = xs.length := ⟨_, rfl⟩
  rw [← hN] at hl ⊢
  have hl' : (N : Int) ≤ 1048576 := by omega
  have HN := Lib.hid hN
  clear hN hr hf
  obtain ⟨kd2, n2, t2⟩ := k0
  unfold L4.K.v
  have S1 := Lib.hid (show Sl.Sep w ((w.alloc (.cells #[.string name, .slice a N c, .int .i64 auto] 26)).alloc (.cells #[.int .i64 kd2, .int .i64 n2, .string t2] 28)) [L4.boxR w.heap.size 26 #[.string name, .slice a N c, .int .i64 auto], L4.boxR (w.heap.size + 1) 28 #[.int .i64 kd2, .int .i64 n2, .string t2]] from L4.push_box (L4.push_box (Sl.Sep.start w) 26 #[.string name, .slice a N c, .int .i64 auto] (w.heap.size) (by simp)) 28 #[.int .i64 kd2, .int .i64 n2, .string t2] (w.heap.size + 1) (by simp))
  obtain ⟨wa, hwa⟩ : ∃ u, u = ((w.alloc (.cells #[.string name, .slice a N c, .int .i64 auto] 26)).alloc (.cells #[.int .i64 kd2, .int .i64 n2, .string t2] 28)) := ⟨_, rfl⟩
  rw [← hwa] at S1
  go_enter Try.func152, Try.ntmps152
  go_upto_region 1 with fail
  rw [← hwa]
  clear hwa
  go_wp2_with fail
  go_loopw [5] (fun i wr => ∃ k : Nat, k ≤ N ∧ i = .int .i64 k ∧ Hid ((∀ j (hj : j < (conI xs).length), j < k → eqK (conI xs)[j].k ⟨kd2, n2, t2⟩ = false) ∧ Sl.Sep w wr [L4.boxR w.heap.size 26 #[.string name, .slice a N c, .int .i64 auto], L4.boxR (w.heap.size + 1) 28 #[.int .i64 kd2, .int .i64 n2, .string t2]])) (fun i _ => N - (intOf i).toNat)
  case atStart => exact ⟨0, Nat.zero_le _, rfl, And.intro (fun j hj h => absurd h (by omega)) S1.out⟩
  case round =>
    obtain ⟨k, hk, rfl, hrel⟩ := hrel
    have HA := Lib.hid hrel.out.1
    have S2 := Lib.hid hrel.out.2
    clear hrel S1
    by_cases hlt : (k : Int) < (N : Int)
    · skip
      have hkl : k < xs.length := by have := HN.out; omega
      obtain ⟨ad, x, rfl, hx⟩ := readsI_some (HR.out _ S2.out.old) k hkl
      obtain ⟨⟨kd, n, t⟩, ia, ic, l⟩ := x
      have HK := Lib.hid (fun w' (h : Below w.heap.size w w') => readsI_at (HR.out _ h) k _ hx)
      try dsimp only at HK
      have HFI := Lib.hid (fit_at HF.out hx)
      try dsimp only [LI.con] at HFI
      have hci : k < (conI xs).length := by rw [conI_length]; exact hkl
      have HC := Lib.hid (show (conI xs)[k] = ⟨⟨kd, n, t⟩, l⟩ by rw [conI_get xs k hkl]; rw [List.getElem?_eq_getElem hkl] at hx; rw [Option.some.inj hx]; rfl)
      clear hx
      obtain ⟨b, hb⟩ : ∃ b, eqK ⟨kd, n, t⟩ ⟨kd2, n2, t2⟩ = b := ⟨_, rfl⟩
      have HE := fun w => key_eq kd n t kd2 n2 t2 w
      rw [hb] at HE
      have HB := Lib.hid hb
      clear hb
      have hh := Bag.cs3 S2.out 0 rfl
      have f0 := hh.1; have f1 := hh.2.1; have f2 := hh.2.2; clear hh
      have hh := Bag.cs3 S2.out 1 rfl
      have f3 := hh.1; have f4 := hh.2.1; have f5 := hh.2.2; clear hh
      have hh := HK.out _ S2.out.old
      have f6 := hh.1; have f7 := hh.2.1; have f8 := hh.2.2.1; have f9 := hh.2.2.2; clear hh
      cases b with
      | true =>
        go_upto_region 4 with fail
        clear f0 f1 f2 f3 f4 f5 f6 f7 f8 f9
        refine wp_region_held_drew (S := (fun w' => (World.cell? w' ⟨w.heap.size, 0, none⟩ = some (.string name) ∧ World.cell? w' ⟨w.heap.size, 1, none⟩ = some (.slice (some ad) N c) ∧ World.cell? w' ⟨w.heap.size, 2, none⟩ = some (.int .i64 auto)) ∧ (World.cell? w' ⟨w.heap.size + 1, 0, none⟩ = some (.int .i64 kd2) ∧ World.cell? w' ⟨w.heap.size + 1, 1, none⟩ = some (.int .i64 n2) ∧ World.cell? w' ⟨w.heap.size + 1, 2, none⟩ = some (.string t2)) ∧ (World.cell? w' (ad.add (k * 4)) = some (.int .i64 kd) ∧ World.cell? w' (⟨(ad.add (k * 4)).block, (ad.add (k * 4)).off + 1, none⟩) = some (.int .i64 n) ∧ World.cell? w' (⟨(ad.add (k * 4)).block, (ad.add (k * 4)).off + 2, none⟩) = some (.string t) ∧ World.cell? w' (⟨(ad.add (k * 4)).block, (ad.add (k * 4)).off + 3, none⟩) = some (.slice ia l.length ic)))) (by kernel_rfl) ⟨Bag.cs3 (Bag.drew1 S2.out) 0 rfl, Bag.cs3 (Bag.drew1 S2.out) 1 rfl, HK.out _ (Bag.drew1 S2.out).old⟩ (fun hS => ?_)
        have S3 := Lib.hid (show Sl.Sep w _ [L4.boxR w.heap.size 26 #[.string name, .slice (some ad) N c, .int .i64 auto], L4.boxR (w.heap.size + 1) 28 #[.int .i64 kd2, .int .i64 n2, .string t2]] from Bag.drew1 S2.out)
        clear S2
        generalize World.drew _ = w1 at hS S3 ⊢
        refine tk 0 rfl ?_
        try simp only [zp0, zp1, zp2, zp3, zp4]
        refine tk 1 rfl ?_
        try simp only [zp0, zp1, zp2, zp3, zp4]
        refine tk 2 rfl ?_
        try simp only [zp0, zp1, zp2, zp3, zp4]
        refine tk 3 rfl ?_
        try simp only [zp0, zp1, zp2, zp3, zp4]
        refine tk 4 rfl ?_
        try simp only [zp0, zp1, zp2, zp3, zp4]
        refine tk 5 rfl ?_
        try simp only [zp0, zp1, zp2, zp3, zp4]
        refine tk 6 rfl ?_
        try simp only [zp0, zp1, zp2, zp3, zp4]
        refine tk 7 rfl ?_
        try simp only [zp0, zp1, zp2, zp3, zp4]
        refine wpAnyH_done (by kernel_rfl) ?_ _
        have hh := Bag.cs3 S3.out 0 rfl
        have f0 := hh.1; have f1 := hh.2.1; have f2 := hh.2.2; clear hh
        have hh := Bag.cs3 S3.out 1 rfl
        have f3 := hh.1; have f4 := hh.2.1; have f5 := hh.2.2; clear hh
        have hh := HK.out _ S3.out.old
        have f6 := hh.1; have f7 := hh.2.1; have f8 := hh.2.2.1; have f9 := hh.2.2.2; clear hh
        go_wp2_with fail
        go_ret
        exact ⟨by unfold fndI; rw [fndO_at k hci (by rw [HC.out]; exact HB.out) HA.out]; rfl, S3.out.old⟩
      | false =>
        go_upto_region 4 with fail
        clear f0 f1 f2 f3 f4 f5 f6 f7 f8 f9
        refine wp_region_held_drew (S := (fun w' => (World.cell? w' ⟨w.heap.size, 0, none⟩ = some (.string name) ∧ World.cell? w' ⟨w.heap.size, 1, none⟩ = some (.slice (some ad) N c) ∧ World.cell? w' ⟨w.heap.size, 2, none⟩ = some (.int .i64 auto)) ∧ (World.cell? w' ⟨w.heap.size + 1, 0, none⟩ = some (.int .i64 kd2) ∧ World.cell? w' ⟨w.heap.size + 1, 1, none⟩ = some (.int .i64 n2) ∧ World.cell? w' ⟨w.heap.size + 1, 2, none⟩ = some (.string t2)) ∧ (World.cell? w' (ad.add (k * 4)) = some (.int .i64 kd) ∧ World.cell? w' (⟨(ad.add (k * 4)).block, (ad.add (k * 4)).off + 1, none⟩) = some (.int .i64 n) ∧ World.cell? w' (⟨(ad.add (k * 4)).block, (ad.add (k * 4)).off + 2, none⟩) = some (.string t) ∧ World.cell? w' (⟨(ad.add (k * 4)).block, (ad.add (k * 4)).off + 3, none⟩) = some (.slice ia l.length ic)))) (by kernel_rfl) ⟨Bag.cs3 (Bag.drew1 S2.out) 0 rfl, Bag.cs3 (Bag.drew1 S2.out) 1 rfl, HK.out _ (Bag.drew1 S2.out).old⟩ (fun hS => ?_)
        have S3 := Lib.hid (show Sl.Sep w _ [L4.boxR w.heap.size 26 #[.string name, .slice (some ad) N c, .int .i64 auto], L4.boxR (w.heap.size + 1) 28 #[.int .i64 kd2, .int .i64 n2, .string t2]] from Bag.drew1 S2.out)
        clear S2
        generalize World.drew _ = w1 at hS S3 ⊢
        refine tk 0 rfl ?_
        try simp only [zp0, zp1, zp2, zp3, zp4]
        refine tk 1 rfl ?_
        try simp only [zp0, zp1, zp2, zp3, zp4]
        refine tk 2 rfl ?_
        try simp only [zp0, zp1, zp2, zp3, zp4]
        refine tk 3 rfl ?_
        try simp only [zp0, zp1, zp2, zp3, zp4]
        refine tk 4 rfl ?_
        try simp only [zp0, zp1, zp2, zp3, zp4]
        refine tk 5 rfl ?_
        try simp only [zp0, zp1, zp2, zp3, zp4]
        refine tk 6 rfl ?_
        try simp only [zp0, zp1, zp2, zp3, zp4]
        refine tk 7 rfl ?_
        try simp only [zp0, zp1, zp2, zp3, zp4]
        refine wpAnyH_done (by kernel_rfl) ?_ _
        have hh := Bag.cs3 S3.out 0 rfl
        have f0 := hh.1; have f1 := hh.2.1; have f2 := hh.2.2; clear hh
        have hh := Bag.cs3 S3.out 1 rfl
        have f3 := hh.1; have f4 := hh.2.1; have f5 := hh.2.2; clear hh
        have hh := HK.out _ S3.out.old
        have f6 := hh.1; have f7 := hh.2.1; have f8 := hh.2.2.1; have f9 := hh.2.2.2; clear hh
        go_wp2_with fail
        go_roundw
        case rel => exact ⟨k + 1, by omega, by go_num, And.intro (fun j hj h => by
          by_cases e : j < k
          · exact HA.out j hj e
          · obtain rfl : j = k := by omega
            rw [HC.out]; exact HB.out) S3.out⟩
        case measure => simp [intOf]; omega
    · skip
      have hh := Bag.cs3 S2.out 0 rfl
      have f0 := hh.1; have f1 := hh.2.1; have f2 := hh.2.2; clear hh
      have hh := Bag.cs3 S2.out 1 rfl
      have f3 := hh.1; have f4 := hh.2.1; have f5 := hh.2.2; clear hh
      go_wp2_with fail
      go_ret
      obtain rfl : k = N := by omega
      exact ⟨by unfold fndI; rw [fndO_none (fun j hj => HA.out j hj (by have := HN.out; rw [conI_length] at hj; omega))]; rfl, S2.out.old⟩
theorem con_of {xs : List LI} {k : Nat} {x : LI} (hx : xs[k]? = some x) : (conI xs)[k]? = some x.con := by unfold conI; rw [List.getElem?_map, hx]; rfl
set_option maxHeartbeats 8000000 in
theorem specIsStore_any (y : LS) (hf : FitS y.con) (w : World) (hr : RowsRd w w.heap.size y.rows) :
    Calls Try.prog 17 #[y.v] w fun e w' => e = .returned (.bool (isS y.con)) ∧ Below w.heap.size w w' := by
  obtain ⟨name, a, c, xs, auto⟩ := y
  have HR := Lib.hid (fun w' (h : Below w.heap.size w w') => LS.outer (hr.below h))
  have HX := Lib.hid (fun w' (h : Below w.heap.size w w') => (LS.inner (hr.below h)).more h.size)
  have HF := Lib.hid hf.items
  have HNM := Lib.hid hf.name
  have hl := hf.len
  simp only [LS.con, conI_length] at hl
  dsimp only [LS.con] at HR HX HF HNM
  try unfold LS.v LS.cells LS.con
  try dsimp only
  obtain ⟨N, hN⟩ : ∃ n, n = xs.length := ⟨_, rfl⟩
  rw [← hN] at hl ⊢
  have hl' : (N : Int) ≤ 1048576 := by omega
  have HN := Lib.hid hN
  clear hN hr hf
  have S1 := Lib.hid (show Sl.Sep w (w.alloc (.cells #[.string name, .slice a N c, .int .i64 auto] 26)) [L4.boxR w.heap.size 26 #[.string name, .slice a N c, .int .i64 auto]] from L4.push_box (Sl.Sep.start w) 26 #[.string name, .slice a N c, .int .i64 auto] (w.heap.size) (by simp))
  obtain ⟨wa, hwa⟩ : ∃ u, u = (w.alloc (.cells #[.string name, .slice a N c, .int .i64 auto] 26)) := ⟨_, rfl⟩
  rw [← hwa] at S1
  go_enter Try.func17, Try.ntmps17
  go_upto_region 1 with fail
  rw [← hwa]
  clear hwa
  go_wp2_with fail
  go_loopw [3] (fun i wr => ∃ k : Nat, k ≤ N ∧ i = .int .i64 k ∧ Hid ((∀ j, j < k → okIx (conI xs) j = true) ∧ Sl.Sep w wr [L4.boxR w.heap.size 26 #[.string name, .slice a N c, .int .i64 auto]])) (fun i _ => N - (intOf i).toNat)
  case atStart => exact ⟨0, Nat.zero_le _, rfl, And.intro (fun j h => absurd h (by omega)) S1.out⟩
  case round =>
    obtain ⟨k, hk, rfl, hrel⟩ := hrel
    have HA := Lib.hid hrel.out.1
    have S2 := Lib.hid hrel.out.2
    clear hrel S1
    by_cases hlt : (k : Int) < (N : Int)
    · skip
      have hkl : k < xs.length := by have := HN.out; omega
      obtain ⟨ad, x, rfl, hx⟩ := readsI_some (HR.out _ S2.out.old) k hkl
      obtain ⟨⟨kd, n, t⟩, ia, ic, l⟩ := x
      have HK := Lib.hid (fun w' (h : Below w.heap.size w w') => readsI_at (HR.out _ h) k _ hx)
      try dsimp only at HK
      have HFI := Lib.hid (fit_at HF.out hx)
      try dsimp only [LI.con] at HFI
      have hci : k < (conI xs).length := by rw [conI_length]; exact hkl
      have HC := Lib.hid (show (conI xs)[k]? = some (⟨⟨kd, n, t⟩, l⟩ : It) from con_of hx)
      obtain ⟨bk, hbk⟩ : ∃ b, isK ⟨kd, n, t⟩ = b := ⟨_, rfl⟩
      have HIK := fun w => L4.specIsKey_any ⟨kd, n, t⟩ (by have : t.size ≤ 1099511627776 := HFI.out.text; show t.size ≤ _; omega) w
      rw [hbk] at HIK
      replace HIK := Lib.hid HIK
      have HBK := Lib.hid hbk
      obtain ⟨br, hbr⟩ : ∃ b, isR l = b := ⟨_, rfl⟩
      have HIR := fun w' (h : Below w.heap.size w w') => L5.specIsRecord_any ia ic l (by have : l.length ≤ 1048576 := HFI.out.len; omega) HFI.out.small w' (((HX.out _ h).at_ (rowsI_mem hx)).reads)
      rw [hbr] at HIR
      replace HIR := Lib.hid HIR
      have HBR := Lib.hid hbr
      clear hbk hbr
      have hh := Bag.cs3 S2.out 0 rfl
      have f0 := hh.1; have f1 := hh.2.1; have f2 := hh.2.2; clear hh
      have hh := HK.out _ S2.out.old
      have f3 := hh.1; have f4 := hh.2.1; have f5 := hh.2.2.1; have f6 := hh.2.2.2; clear hh
      cases bk with
      | false =>
        go_upto_region 4 with fail
        clear f0 f1 f2 f3 f4 f5 f6
        refine wp_region_held_drew (S := (fun w' => (World.cell? w' ⟨w.heap.size, 0, none⟩ = some (.string name) ∧ World.cell? w' ⟨w.heap.size, 1, none⟩ = some (.slice (some ad) N c) ∧ World.cell? w' ⟨w.heap.size, 2, none⟩ = some (.int .i64 auto)) ∧ (World.cell? w' (ad.add (k * 4)) = some (.int .i64 kd) ∧ World.cell? w' (⟨(ad.add (k * 4)).block, (ad.add (k * 4)).off + 1, none⟩) = some (.int .i64 n) ∧ World.cell? w' (⟨(ad.add (k * 4)).block, (ad.add (k * 4)).off + 2, none⟩) = some (.string t) ∧ World.cell? w' (⟨(ad.add (k * 4)).block, (ad.add (k * 4)).off + 3, none⟩) = some (.slice ia l.length ic)))) (by kernel_rfl) ⟨Bag.cs3 (Bag.drew1 S2.out) 0 rfl, HK.out _ (Bag.drew1 S2.out).old⟩ (fun hS => ?_)
        have S3 := Lib.hid (show Sl.Sep w _ [L4.boxR w.heap.size 26 #[.string name, .slice (some ad) N c, .int .i64 auto]] from Bag.drew1 S2.out)
        clear S2
        generalize World.drew _ = w1 at hS S3 ⊢
        refine tk 0 rfl ?_
        try simp only [zp0, zp1, zp2, zp3, zp4]
        refine tk 1 rfl ?_
        try simp only [zp0, zp1, zp2, zp3, zp4]
        refine tk 2 rfl ?_
        try simp only [zp0, zp1, zp2, zp3, zp4]
        refine tk 3 rfl ?_
        try simp only [zp0, zp1, zp2, zp3, zp4]
        refine tk 4 rfl ?_
        try simp only [zp0, zp1, zp2, zp3, zp4]
        refine tk 5 rfl ?_
        try simp only [zp0, zp1, zp2, zp3, zp4]
        refine Reg.one_op (i := 6) rfl (by kernel_rfl) (fun K hK => ?_)
        go_simp
        go_at_call 68
        refine (HIK.out _).mono ?_
        rintro e w2 ⟨rfl, hb⟩
        have S4 := Lib.hid (S3.out.keep hb)
        clear S3
        clear hb
        go_wp2_with fail
        refine hK.out _ _ ⟨Bag.cs3 S4.out 0 rfl, HK.out _ S4.out.old⟩ (fun hS => ?_)
        clear hK K
        try simp only [zp0, zp1, zp2, zp3, zp4]
        refine tk 7 rfl ?_
        try simp only [zp0, zp1, zp2, zp3, zp4]
        refine tk 8 rfl ?_
        try simp only [zp0, zp1, zp2, zp3, zp4]
        refine sk 9 rfl ?_
        try simp only [zp0, zp1, zp2, zp3, zp4]
        refine sk 10 rfl ?_
        try simp only [zp0, zp1, zp2, zp3, zp4]
        refine sk 11 rfl ?_
        try simp only [zp0, zp1, zp2, zp3, zp4]
        refine sk 12 rfl ?_
        try simp only [zp0, zp1, zp2, zp3, zp4]
        refine sk 13 rfl ?_
        try simp only [zp0, zp1, zp2, zp3, zp4]
        refine sk 14 rfl ?_
        try simp only [zp0, zp1, zp2, zp3, zp4]
        refine Reg.skip_one (i := 15) rfl (by kernel_rfl) (by rfl) (by assumption) ?_
        try simp only [zp0, zp1, zp2, zp3, zp4]
        refine sk 16 rfl ?_
        try simp only [zp0, zp1, zp2, zp3, zp4]
        refine tk 17 rfl ?_
        try simp only [zp0, zp1, zp2, zp3, zp4]
        refine tk 18 rfl ?_
        try simp only [zp0, zp1, zp2, zp3, zp4]
        refine sk 19 rfl ?_
        try simp only [zp0, zp1, zp2, zp3, zp4]
        refine sk 20 rfl ?_
        try simp only [zp0, zp1, zp2, zp3, zp4]
        refine sk 21 rfl ?_
        try simp only [zp0, zp1, zp2, zp3, zp4]
        refine sk 22 rfl ?_
        try simp only [zp0, zp1, zp2, zp3, zp4]
        refine sk 23 rfl ?_
        try simp only [zp0, zp1, zp2, zp3, zp4]
        refine sk 24 rfl ?_
        try simp only [zp0, zp1, zp2, zp3, zp4]
        refine sk 25 rfl ?_
        try simp only [zp0, zp1, zp2, zp3, zp4]
        refine sk 26 rfl ?_
        try simp only [zp0, zp1, zp2, zp3, zp4]
        refine sk 27 rfl ?_
        try simp only [zp0, zp1, zp2, zp3, zp4]
        refine sk 28 rfl ?_
        try simp only [zp0, zp1, zp2, zp3, zp4]
        refine sk 29 rfl ?_
        try simp only [zp0, zp1, zp2, zp3, zp4]
        refine sk 30 rfl ?_
        try simp only [zp0, zp1, zp2, zp3, zp4]
        refine sk 31 rfl ?_
        try simp only [zp0, zp1, zp2, zp3, zp4]
        refine sk 32 rfl ?_
        try simp only [zp0, zp1, zp2, zp3, zp4]
        refine sk 33 rfl ?_
        try simp only [zp0, zp1, zp2, zp3, zp4]
        refine sk 34 rfl ?_
        try simp only [zp0, zp1, zp2, zp3, zp4]
        refine Reg.skip_one (i := 35) rfl (by kernel_rfl) (by rfl) (by assumption) ?_
        try simp only [zp0, zp1, zp2, zp3, zp4]
        refine sk 36 rfl ?_
        try simp only [zp0, zp1, zp2, zp3, zp4]
        refine sk 37 rfl ?_
        try simp only [zp0, zp1, zp2, zp3, zp4]
        refine tk 38 rfl ?_
        try simp only [zp0, zp1, zp2, zp3, zp4]
        refine wpAnyH_done (by kernel_rfl) ?_ _
        have hh := Bag.cs3 S4.out 0 rfl
        have f0 := hh.1; have f1 := hh.2.1; have f2 := hh.2.2; clear hh
        have hh := HK.out _ S4.out.old
        have f3 := hh.1; have f4 := hh.2.1; have f5 := hh.2.2.1; have f6 := hh.2.2.2; clear hh
        have HNO := Lib.hid (show isI (conI xs) = false from isI_no k hci (by rw [okIx_at HC.out]; dsimp only; rw [HBK.out]; rfl))
        go_wp2_with fail
        go_ret
        exact ⟨by unfold isS; rw [HNO.out]; rfl, S4.out.old⟩
      | true =>
        cases br with
        | false =>
          go_upto_region 4 with fail
          clear f0 f1 f2 f3 f4 f5 f6
          refine wp_region_held_drew (S := (fun w' => (World.cell? w' ⟨w.heap.size, 0, none⟩ = some (.string name) ∧ World.cell? w' ⟨w.heap.size, 1, none⟩ = some (.slice (some ad) N c) ∧ World.cell? w' ⟨w.heap.size, 2, none⟩ = some (.int .i64 auto)) ∧ (World.cell? w' (ad.add (k * 4)) = some (.int .i64 kd) ∧ World.cell? w' (⟨(ad.add (k * 4)).block, (ad.add (k * 4)).off + 1, none⟩) = some (.int .i64 n) ∧ World.cell? w' (⟨(ad.add (k * 4)).block, (ad.add (k * 4)).off + 2, none⟩) = some (.string t) ∧ World.cell? w' (⟨(ad.add (k * 4)).block, (ad.add (k * 4)).off + 3, none⟩) = some (.slice ia l.length ic)))) (by kernel_rfl) ⟨Bag.cs3 (Bag.drew1 S2.out) 0 rfl, HK.out _ (Bag.drew1 S2.out).old⟩ (fun hS => ?_)
          have S3 := Lib.hid (show Sl.Sep w _ [L4.boxR w.heap.size 26 #[.string name, .slice (some ad) N c, .int .i64 auto]] from Bag.drew1 S2.out)
          clear S2
          generalize World.drew _ = w1 at hS S3 ⊢
          refine tk 0 rfl ?_
          try simp only [zp0, zp1, zp2, zp3, zp4]
          refine tk 1 rfl ?_
          try simp only [zp0, zp1, zp2, zp3, zp4]
          refine tk 2 rfl ?_
          try simp only [zp0, zp1, zp2, zp3, zp4]
          refine tk 3 rfl ?_
          try simp only [zp0, zp1, zp2, zp3, zp4]
          refine tk 4 rfl ?_
          try simp only [zp0, zp1, zp2, zp3, zp4]
          refine tk 5 rfl ?_
          try simp only [zp0, zp1, zp2, zp3, zp4]
          refine Reg.one_op (i := 6) rfl (by kernel_rfl) (fun K hK => ?_)
          go_simp
          go_at_call 68
          refine (HIK.out _).mono ?_
          rintro e w2 ⟨rfl, hb⟩
          have S4 := Lib.hid (S3.out.keep hb)
          clear S3
          clear hb
          go_wp2_with fail
          refine hK.out _ _ ⟨Bag.cs3 S4.out 0 rfl, HK.out _ S4.out.old⟩ (fun hS => ?_)
          clear hK K
          try simp only [zp0, zp1, zp2, zp3, zp4]
          refine tk 7 rfl ?_
          try simp only [zp0, zp1, zp2, zp3, zp4]
          refine tk 8 rfl ?_
          try simp only [zp0, zp1, zp2, zp3, zp4]
          refine tk 9 rfl ?_
          try simp only [zp0, zp1, zp2, zp3, zp4]
          refine tk 10 rfl ?_
          try simp only [zp0, zp1, zp2, zp3, zp4]
          refine tk 11 rfl ?_
          try simp only [zp0, zp1, zp2, zp3, zp4]
          refine tk 12 rfl ?_
          try simp only [zp0, zp1, zp2, zp3, zp4]
          refine tk 13 rfl ?_
          try simp only [zp0, zp1, zp2, zp3, zp4]
          refine tk 14 rfl ?_
          try simp only [zp0, zp1, zp2, zp3, zp4]
          refine Reg.one_op (i := 15) rfl (by kernel_rfl) (fun K hK => ?_)
          go_simp
          go_at_call 69
          refine (HIR.out _ S4.out.old).mono ?_
          rintro e w3 ⟨rfl, hb⟩
          have S5 := Lib.hid (S4.out.keep hb)
          clear S4
          clear hb
          go_wp2_with fail
          refine hK.out _ _ ⟨Bag.cs3 S5.out 0 rfl, HK.out _ S5.out.old⟩ (fun hS => ?_)
          clear hK K
          try simp only [zp0, zp1, zp2, zp3, zp4]
          refine tk 16 rfl ?_
          try simp only [zp0, zp1, zp2, zp3, zp4]
          refine tk 17 rfl ?_
          try simp only [zp0, zp1, zp2, zp3, zp4]
          refine tk 18 rfl ?_
          try simp only [zp0, zp1, zp2, zp3, zp4]
          refine sk 19 rfl ?_
          try simp only [zp0, zp1, zp2, zp3, zp4]
          refine sk 20 rfl ?_
          try simp only [zp0, zp1, zp2, zp3, zp4]
          refine sk 21 rfl ?_
          try simp only [zp0, zp1, zp2, zp3, zp4]
          refine sk 22 rfl ?_
          try simp only [zp0, zp1, zp2, zp3, zp4]
          refine sk 23 rfl ?_
          try simp only [zp0, zp1, zp2, zp3, zp4]
          refine sk 24 rfl ?_
          try simp only [zp0, zp1, zp2, zp3, zp4]
          refine sk 25 rfl ?_
          try simp only [zp0, zp1, zp2, zp3, zp4]
          refine sk 26 rfl ?_
          try simp only [zp0, zp1, zp2, zp3, zp4]
          refine sk 27 rfl ?_
          try simp only [zp0, zp1, zp2, zp3, zp4]
          refine sk 28 rfl ?_
          try simp only [zp0, zp1, zp2, zp3, zp4]
          refine sk 29 rfl ?_
          try simp only [zp0, zp1, zp2, zp3, zp4]
          refine sk 30 rfl ?_
          try simp only [zp0, zp1, zp2, zp3, zp4]
          refine sk 31 rfl ?_
          try simp only [zp0, zp1, zp2, zp3, zp4]
          refine sk 32 rfl ?_
          try simp only [zp0, zp1, zp2, zp3, zp4]
          refine sk 33 rfl ?_
          try simp only [zp0, zp1, zp2, zp3, zp4]
          refine sk 34 rfl ?_
          try simp only [zp0, zp1, zp2, zp3, zp4]
          refine Reg.skip_one (i := 35) rfl (by kernel_rfl) (by rfl) (by assumption) ?_
          try simp only [zp0, zp1, zp2, zp3, zp4]
          refine sk 36 rfl ?_
          try simp only [zp0, zp1, zp2, zp3, zp4]
          refine sk 37 rfl ?_
          try simp only [zp0, zp1, zp2, zp3, zp4]
          refine tk 38 rfl ?_
          try simp only [zp0, zp1, zp2, zp3, zp4]
          refine wpAnyH_done (by kernel_rfl) ?_ _
          have hh := Bag.cs3 S5.out 0 rfl
          have f0 := hh.1; have f1 := hh.2.1; have f2 := hh.2.2; clear hh
          have hh := HK.out _ S5.out.old
          have f3 := hh.1; have f4 := hh.2.1; have f5 := hh.2.2.1; have f6 := hh.2.2.2; clear hh
          have HNO := Lib.hid (show isI (conI xs) = false from isI_no k hci (by rw [okIx_at HC.out]; dsimp only; rw [HBK.out, HBR.out]; rfl))
          go_wp2_with fail
          go_ret
          exact ⟨by unfold isS; rw [HNO.out]; rfl, S5.out.old⟩
        | true =>
          rcases Nat.eq_zero_or_pos k with hk0 | hk0
          · have hk1 : (0 < k) = False := by simp; omega
            have HZ := Lib.hid hk0
            clear hk0
            go_upto_region 4 with fail
            clear f0 f1 f2 f3 f4 f5 f6
            refine wp_region_held_drew (S := (fun w' => (World.cell? w' ⟨w.heap.size, 0, none⟩ = some (.string name) ∧ World.cell? w' ⟨w.heap.size, 1, none⟩ = some (.slice (some ad) N c) ∧ World.cell? w' ⟨w.heap.size, 2, none⟩ = some (.int .i64 auto)) ∧ (World.cell? w' (ad.add (k * 4)) = some (.int .i64 kd) ∧ World.cell? w' (⟨(ad.add (k * 4)).block, (ad.add (k * 4)).off + 1, none⟩) = some (.int .i64 n) ∧ World.cell? w' (⟨(ad.add (k * 4)).block, (ad.add (k * 4)).off + 2, none⟩) = some (.string t) ∧ World.cell? w' (⟨(ad.add (k * 4)).block, (ad.add (k * 4)).off + 3, none⟩) = some (.slice ia l.length ic)))) (by kernel_rfl) ⟨Bag.cs3 (Bag.drew1 S2.out) 0 rfl, HK.out _ (Bag.drew1 S2.out).old⟩ (fun hS => ?_)
            have S3 := Lib.hid (show Sl.Sep w _ [L4.boxR w.heap.size 26 #[.string name, .slice (some ad) N c, .int .i64 auto]] from Bag.drew1 S2.out)
            clear S2
            generalize World.drew _ = w1 at hS S3 ⊢
            refine tk 0 rfl ?_
            try simp only [zp0, zp1, zp2, zp3, zp4]
            refine tk 1 rfl ?_
            try simp only [zp0, zp1, zp2, zp3, zp4]
            refine tk 2 rfl ?_
            try simp only [zp0, zp1, zp2, zp3, zp4]
            refine tk 3 rfl ?_
            try simp only [zp0, zp1, zp2, zp3, zp4]
            refine tk 4 rfl ?_
            try simp only [zp0, zp1, zp2, zp3, zp4]
            refine tk 5 rfl ?_
            try simp only [zp0, zp1, zp2, zp3, zp4]
            refine Reg.one_op (i := 6) rfl (by kernel_rfl) (fun K hK => ?_)
            go_simp
            go_at_call 68
            refine (HIK.out _).mono ?_
            rintro e w2 ⟨rfl, hb⟩
            have S4 := Lib.hid (S3.out.keep hb)
            clear S3
            clear hb
            go_wp2_with fail
            refine hK.out _ _ ⟨Bag.cs3 S4.out 0 rfl, HK.out _ S4.out.old⟩ (fun hS => ?_)
            clear hK K
            try simp only [zp0, zp1, zp2, zp3, zp4]
            refine tk 7 rfl ?_
            try simp only [zp0, zp1, zp2, zp3, zp4]
            refine tk 8 rfl ?_
            try simp only [zp0, zp1, zp2, zp3, zp4]
            refine tk 9 rfl ?_
            try simp only [zp0, zp1, zp2, zp3, zp4]
            refine tk 10 rfl ?_
            try simp only [zp0, zp1, zp2, zp3, zp4]
            refine tk 11 rfl ?_
            try simp only [zp0, zp1, zp2, zp3, zp4]
            refine tk 12 rfl ?_
            try simp only [zp0, zp1, zp2, zp3, zp4]
            refine tk 13 rfl ?_
            try simp only [zp0, zp1, zp2, zp3, zp4]
            refine tk 14 rfl ?_
            try simp only [zp0, zp1, zp2, zp3, zp4]
            refine Reg.one_op (i := 15) rfl (by kernel_rfl) (fun K hK => ?_)
            go_simp
            go_at_call 69
            refine (HIR.out _ S4.out.old).mono ?_
            rintro e w3 ⟨rfl, hb⟩
            have S5 := Lib.hid (S4.out.keep hb)
            clear S4
            clear hb
            go_wp2_with fail
            refine hK.out _ _ ⟨Bag.cs3 S5.out 0 rfl, HK.out _ S5.out.old⟩ (fun hS => ?_)
            clear hK K
            try simp only [zp0, zp1, zp2, zp3, zp4]
            refine tk 16 rfl ?_
            try simp only [zp0, zp1, zp2, zp3, zp4]
            refine tk 17 rfl ?_
            try simp only [zp0, zp1, zp2, zp3, zp4]
            refine tk 18 rfl ?_
            try simp only [zp0, zp1, zp2, zp3, zp4]
            refine tk 19 rfl ?_
            try simp only [zp0, zp1, zp2, zp3, zp4]
            refine tk 20 rfl ?_
            try simp only [zp0, zp1, zp2, zp3, zp4]
            refine tk 21 rfl ?_
            try simp only [zp0, zp1, zp2, zp3, zp4]
            refine sk 22 rfl ?_
            try simp only [zp0, zp1, zp2, zp3, zp4]
            refine sk 23 rfl ?_
            try simp only [zp0, zp1, zp2, zp3, zp4]
            refine sk 24 rfl ?_
            try simp only [zp0, zp1, zp2, zp3, zp4]
            refine sk 25 rfl ?_
            try simp only [zp0, zp1, zp2, zp3, zp4]
            refine sk 26 rfl ?_
            try simp only [zp0, zp1, zp2, zp3, zp4]
            refine sk 27 rfl ?_
            try simp only [zp0, zp1, zp2, zp3, zp4]
            refine sk 28 rfl ?_
            try simp only [zp0, zp1, zp2, zp3, zp4]
            refine sk 29 rfl ?_
            try simp only [zp0, zp1, zp2, zp3, zp4]
            refine sk 30 rfl ?_
            try simp only [zp0, zp1, zp2, zp3, zp4]
            refine sk 31 rfl ?_
            try simp only [zp0, zp1, zp2, zp3, zp4]
            refine sk 32 rfl ?_
            try simp only [zp0, zp1, zp2, zp3, zp4]
            refine sk 33 rfl ?_
            try simp only [zp0, zp1, zp2, zp3, zp4]
            refine sk 34 rfl ?_
            try simp only [zp0, zp1, zp2, zp3, zp4]
            refine Reg.skip_one (i := 35) rfl (by kernel_rfl) (by rfl) (by assumption) ?_
            try simp only [zp0, zp1, zp2, zp3, zp4]
            refine sk 36 rfl ?_
            try simp only [zp0, zp1, zp2, zp3, zp4]
            refine tk 37 rfl ?_
            try simp only [zp0, zp1, zp2, zp3, zp4]
            refine tk 38 rfl ?_
            try simp only [zp0, zp1, zp2, zp3, zp4]
            refine wpAnyH_done (by kernel_rfl) ?_ _
            have hh := Bag.cs3 S5.out 0 rfl
            have f0 := hh.1; have f1 := hh.2.1; have f2 := hh.2.2; clear hh
            have hh := HK.out _ S5.out.old
            have f3 := hh.1; have f4 := hh.2.1; have f5 := hh.2.2.1; have f6 := hh.2.2.2; clear hh
            go_wp2_with fail
            go_roundw
            case rel => exact ⟨k + 1, by omega, by go_num, And.intro (fun j h => by
              by_cases e : j < k
              · exact HA.out j e
              · obtain rfl : j = k := by omega
                exact by rw [okIx_at HC.out]; dsimp only; rw [HBK.out, HBR.out, HZ.out]; rfl) S5.out⟩
            case measure => simp [intOf]; omega
          · obtain ⟨m, hkm⟩ : ∃ m, k = m + 1 := ⟨k - 1, by omega⟩
            have hki : (k : Int) - 1 = (m : Int) := by omega
            have HKM := Lib.hid hkm
            have hm0 : m < xs.length := by omega
            have hmi : (m : Int) < (N : Int) := by omega
            have hmw : IntKind.i64.wrap (m : Int) = (m : Int) := IntWalk.i64_in _ ⟨by omega, by omega⟩
            clear hkm
            clear f0 f1 f2 f3 f4 f5 f6
            obtain ⟨ad_, x2, e_, hx2⟩ := readsI_some (HR.out _ S2.out.old) m hm0
            clear e_ ad_
            obtain ⟨⟨kd2, n2, t2⟩, ia2, ic2, l2⟩ := x2
            have HK2 := Lib.hid (fun w' (h : Below w.heap.size w w') => readsI_at (HR.out _ h) m _ hx2)
            try dsimp only at HK2
            have HC2 := Lib.hid (show (conI xs)[m]? = some (⟨⟨kd2, n2, t2⟩, l2⟩ : It) from con_of hx2)
            have HFI2 := Lib.hid (fit_at HF.out hx2)
            clear hx2
            obtain ⟨cv, hcv⟩ : ∃ b, cmpK ⟨kd2, n2, t2⟩ ⟨kd, n, t⟩ = b := ⟨_, rfl⟩
            have HCMP := fun w => L4.specCompareKeys_any ⟨kd2, n2, t2⟩ ⟨kd, n, t⟩ (by have : t2.size ≤ 1099511627776 := HFI2.out.text; show t2.size ≤ _; omega) (by have : t.size ≤ 1099511627776 := HFI.out.text; show t.size ≤ _; omega) w
            rw [hcv] at HCMP
            replace HCMP := Lib.hid HCMP
            have HCV := Lib.hid hcv
            clear hcv
            have hh := Bag.cs3 S2.out 0 rfl
            have f0 := hh.1; have f1 := hh.2.1; have f2 := hh.2.2; clear hh
            have hh := HK.out _ S2.out.old
            have f3 := hh.1; have f4 := hh.2.1; have f5 := hh.2.2.1; have f6 := hh.2.2.2; clear hh
            have hh := HK2.out _ S2.out.old
            have f7 := hh.1; have f8 := hh.2.1; have f9 := hh.2.2.1; have f10 := hh.2.2.2; clear hh
            by_cases hc : cv < 0
            · have hc2 : ¬ 0 ≤ cv := by omega
              go_upto_region 4 with fail
              clear f0 f1 f2 f3 f4 f5 f6 f7 f8 f9 f10
              refine wp_region_held_drew (S := (fun w' => (World.cell? w' ⟨w.heap.size, 0, none⟩ = some (.string name) ∧ World.cell? w' ⟨w.heap.size, 1, none⟩ = some (.slice (some ad) N c) ∧ World.cell? w' ⟨w.heap.size, 2, none⟩ = some (.int .i64 auto)) ∧ (World.cell? w' (ad.add (k * 4)) = some (.int .i64 kd) ∧ World.cell? w' (⟨(ad.add (k * 4)).block, (ad.add (k * 4)).off + 1, none⟩) = some (.int .i64 n) ∧ World.cell? w' (⟨(ad.add (k * 4)).block, (ad.add (k * 4)).off + 2, none⟩) = some (.string t) ∧ World.cell? w' (⟨(ad.add (k * 4)).block, (ad.add (k * 4)).off + 3, none⟩) = some (.slice ia l.length ic)) ∧ (World.cell? w' (ad.add (m * 4)) = some (.int .i64 kd2) ∧ World.cell? w' (⟨(ad.add (m * 4)).block, (ad.add (m * 4)).off + 1, none⟩) = some (.int .i64 n2) ∧ World.cell? w' (⟨(ad.add (m * 4)).block, (ad.add (m * 4)).off + 2, none⟩) = some (.string t2) ∧ World.cell? w' (⟨(ad.add (m * 4)).block, (ad.add (m * 4)).off + 3, none⟩) = some (.slice ia2 l2.length ic2)))) (by kernel_rfl) ⟨Bag.cs3 (Bag.drew1 S2.out) 0 rfl, HK.out _ (Bag.drew1 S2.out).old, HK2.out _ (Bag.drew1 S2.out).old⟩ (fun hS => ?_)
              have S3 := Lib.hid (show Sl.Sep w _ [L4.boxR w.heap.size 26 #[.string name, .slice (some ad) N c, .int .i64 auto]] from Bag.drew1 S2.out)
              clear S2
              generalize World.drew _ = w1 at hS S3 ⊢
              refine tk 0 rfl ?_
              try simp only [zp0, zp1, zp2, zp3, zp4]
              refine tk 1 rfl ?_
              try simp only [zp0, zp1, zp2, zp3, zp4]
              refine tk 2 rfl ?_
              try simp only [zp0, zp1, zp2, zp3, zp4]
              refine tk 3 rfl ?_
              try simp only [zp0, zp1, zp2, zp3, zp4]
              refine tk 4 rfl ?_
              try simp only [zp0, zp1, zp2, zp3, zp4]
              refine tk 5 rfl ?_
              try simp only [zp0, zp1, zp2, zp3, zp4]
              refine Reg.one_op (i := 6) rfl (by kernel_rfl) (fun K hK => ?_)
              go_simp
              go_at_call 68
              refine (HIK.out _).mono ?_
              rintro e w2 ⟨rfl, hb⟩
              have S4 := Lib.hid (S3.out.keep hb)
              clear S3
              clear hb
              go_wp2_with fail
              refine hK.out _ _ ⟨Bag.cs3 S4.out 0 rfl, HK.out _ S4.out.old, HK2.out _ S4.out.old⟩ (fun hS => ?_)
              clear hK K
              try simp only [zp0, zp1, zp2, zp3, zp4]
              refine tk 7 rfl ?_
              try simp only [zp0, zp1, zp2, zp3, zp4]
              refine tk 8 rfl ?_
              try simp only [zp0, zp1, zp2, zp3, zp4]
              refine tk 9 rfl ?_
              try simp only [zp0, zp1, zp2, zp3, zp4]
              refine tk 10 rfl ?_
              try simp only [zp0, zp1, zp2, zp3, zp4]
              refine tk 11 rfl ?_
              try simp only [zp0, zp1, zp2, zp3, zp4]
              refine tk 12 rfl ?_
              try simp only [zp0, zp1, zp2, zp3, zp4]
              refine tk 13 rfl ?_
              try simp only [zp0, zp1, zp2, zp3, zp4]
              refine tk 14 rfl ?_
              try simp only [zp0, zp1, zp2, zp3, zp4]
              refine Reg.one_op (i := 15) rfl (by kernel_rfl) (fun K hK => ?_)
              go_simp
              go_at_call 69
              refine (HIR.out _ S4.out.old).mono ?_
              rintro e w3 ⟨rfl, hb⟩
              have S5 := Lib.hid (S4.out.keep hb)
              clear S4
              clear hb
              go_wp2_with fail
              refine hK.out _ _ ⟨Bag.cs3 S5.out 0 rfl, HK.out _ S5.out.old, HK2.out _ S5.out.old⟩ (fun hS => ?_)
              clear hK K
              try simp only [zp0, zp1, zp2, zp3, zp4]
              refine tk 16 rfl ?_
              try simp only [zp0, zp1, zp2, zp3, zp4]
              refine tk 17 rfl ?_
              try simp only [zp0, zp1, zp2, zp3, zp4]
              refine tk 18 rfl ?_
              try simp only [zp0, zp1, zp2, zp3, zp4]
              refine tk 19 rfl ?_
              try simp only [zp0, zp1, zp2, zp3, zp4]
              refine tk 20 rfl ?_
              try simp only [zp0, zp1, zp2, zp3, zp4]
              refine tk 21 rfl ?_
              try simp only [zp0, zp1, zp2, zp3, zp4]
              refine tk 22 rfl ?_
              try simp only [zp0, zp1, zp2, zp3, zp4]
              refine tk 23 rfl ?_
              try simp only [zp0, zp1, zp2, zp3, zp4]
              refine tk 24 rfl ?_
              try simp only [zp0, zp1, zp2, zp3, zp4]
              refine tk 25 rfl ?_
              try simp only [zp0, zp1, zp2, zp3, zp4]
              refine tk 26 rfl ?_
              try simp only [zp0, zp1, zp2, zp3, zp4]
              refine tk 27 rfl ?_
              try simp only [zp0, zp1, zp2, zp3, zp4]
              refine tk 28 rfl ?_
              try simp only [zp0, zp1, zp2, zp3, zp4]
              refine tk 29 rfl ?_
              try simp only [zp0, zp1, zp2, zp3, zp4]
              refine tk 30 rfl ?_
              try simp only [zp0, zp1, zp2, zp3, zp4]
              refine tk 31 rfl ?_
              try simp only [zp0, zp1, zp2, zp3, zp4]
              refine tk 32 rfl ?_
              try simp only [zp0, zp1, zp2, zp3, zp4]
              refine tk 33 rfl ?_
              try simp only [zp0, zp1, zp2, zp3, zp4]
              refine tk 34 rfl ?_
              try simp only [zp0, zp1, zp2, zp3, zp4]
              refine Reg.one_op (i := 35) rfl (by kernel_rfl) (fun K hK => ?_)
              go_simp
              go_at_call 27
              refine (HCMP.out _).mono ?_
              rintro e w4 ⟨rfl, hb⟩
              have S6 := Lib.hid (S5.out.keep hb)
              clear S5
              clear hb
              go_wp2_with fail
              refine hK.out _ _ ⟨Bag.cs3 S6.out 0 rfl, HK.out _ S6.out.old, HK2.out _ S6.out.old⟩ (fun hS => ?_)
              clear hK K
              try simp only [zp0, zp1, zp2, zp3, zp4]
              refine tk 36 rfl ?_
              try simp only [zp0, zp1, zp2, zp3, zp4]
              refine tk 37 rfl ?_
              try simp only [zp0, zp1, zp2, zp3, zp4]
              refine tk 38 rfl ?_
              try simp only [zp0, zp1, zp2, zp3, zp4]
              refine wpAnyH_done (by kernel_rfl) ?_ _
              have hh := Bag.cs3 S6.out 0 rfl
              have f0 := hh.1; have f1 := hh.2.1; have f2 := hh.2.2; clear hh
              have hh := HK.out _ S6.out.old
              have f3 := hh.1; have f4 := hh.2.1; have f5 := hh.2.2.1; have f6 := hh.2.2.2; clear hh
              have hh := HK2.out _ S6.out.old
              have f7 := hh.1; have f8 := hh.2.1; have f9 := hh.2.2.1; have f10 := hh.2.2.2; clear hh
              go_wp2_with fail
              go_roundw
              case rel => exact ⟨k + 1, by omega, by go_num, And.intro (fun j h => by
                by_cases e : j < k
                · exact HA.out j e
                · obtain rfl : j = k := by omega
                  rw [okIx_at HC.out, HKM.out, behind_at HC2.out]; dsimp only; rw [HBK.out, HBR.out, HCV.out]; simpa using hc) S6.out⟩
              case measure => simp [intOf]; omega
            · have hc2 : 0 ≤ cv := by omega
              go_upto_region 4 with fail
              clear f0 f1 f2 f3 f4 f5 f6 f7 f8 f9 f10
              refine wp_region_held_drew (S := (fun w' => (World.cell? w' ⟨w.heap.size, 0, none⟩ = some (.string name) ∧ World.cell? w' ⟨w.heap.size, 1, none⟩ = some (.slice (some ad) N c) ∧ World.cell? w' ⟨w.heap.size, 2, none⟩ = some (.int .i64 auto)) ∧ (World.cell? w' (ad.add (k * 4)) = some (.int .i64 kd) ∧ World.cell? w' (⟨(ad.add (k * 4)).block, (ad.add (k * 4)).off + 1, none⟩) = some (.int .i64 n) ∧ World.cell? w' (⟨(ad.add (k * 4)).block, (ad.add (k * 4)).off + 2, none⟩) = some (.string t) ∧ World.cell? w' (⟨(ad.add (k * 4)).block, (ad.add (k * 4)).off + 3, none⟩) = some (.slice ia l.length ic)) ∧ (World.cell? w' (ad.add (m * 4)) = some (.int .i64 kd2) ∧ World.cell? w' (⟨(ad.add (m * 4)).block, (ad.add (m * 4)).off + 1, none⟩) = some (.int .i64 n2) ∧ World.cell? w' (⟨(ad.add (m * 4)).block, (ad.add (m * 4)).off + 2, none⟩) = some (.string t2) ∧ World.cell? w' (⟨(ad.add (m * 4)).block, (ad.add (m * 4)).off + 3, none⟩) = some (.slice ia2 l2.length ic2)))) (by kernel_rfl) ⟨Bag.cs3 (Bag.drew1 S2.out) 0 rfl, HK.out _ (Bag.drew1 S2.out).old, HK2.out _ (Bag.drew1 S2.out).old⟩ (fun hS => ?_)
              have S3 := Lib.hid (show Sl.Sep w _ [L4.boxR w.heap.size 26 #[.string name, .slice (some ad) N c, .int .i64 auto]] from Bag.drew1 S2.out)
              clear S2
              generalize World.drew _ = w1 at hS S3 ⊢
              refine tk 0 rfl ?_
              try simp only [zp0, zp1, zp2, zp3, zp4]
              refine tk 1 rfl ?_
              try simp only [zp0, zp1, zp2, zp3, zp4]
              refine tk 2 rfl ?_
              try simp only [zp0, zp1, zp2, zp3, zp4]
              refine tk 3 rfl ?_
              try simp only [zp0, zp1, zp2, zp3, zp4]
              refine tk 4 rfl ?_
              try simp only [zp0, zp1, zp2, zp3, zp4]
              refine tk 5 rfl ?_
              try simp only [zp0, zp1, zp2, zp3, zp4]
              refine Reg.one_op (i := 6) rfl (by kernel_rfl) (fun K hK => ?_)
              go_simp
              go_at_call 68
              refine (HIK.out _).mono ?_
              rintro e w2 ⟨rfl, hb⟩
              have S4 := Lib.hid (S3.out.keep hb)
              clear S3
              clear hb
              go_wp2_with fail
              refine hK.out _ _ ⟨Bag.cs3 S4.out 0 rfl, HK.out _ S4.out.old, HK2.out _ S4.out.old⟩ (fun hS => ?_)
              clear hK K
              try simp only [zp0, zp1, zp2, zp3, zp4]
              refine tk 7 rfl ?_
              try simp only [zp0, zp1, zp2, zp3, zp4]
              refine tk 8 rfl ?_
              try simp only [zp0, zp1, zp2, zp3, zp4]
              refine tk 9 rfl ?_
              try simp only [zp0, zp1, zp2, zp3, zp4]
              refine tk 10 rfl ?_
              try simp only [zp0, zp1, zp2, zp3, zp4]
              refine tk 11 rfl ?_
              try simp only [zp0, zp1, zp2, zp3, zp4]
              refine tk 12 rfl ?_
              try simp only [zp0, zp1, zp2, zp3, zp4]
              refine tk 13 rfl ?_
              try simp only [zp0, zp1, zp2, zp3, zp4]
              refine tk 14 rfl ?_
              try simp only [zp0, zp1, zp2, zp3, zp4]
              refine Reg.one_op (i := 15) rfl (by kernel_rfl) (fun K hK => ?_)
              go_simp
              go_at_call 69
              refine (HIR.out _ S4.out.old).mono ?_
              rintro e w3 ⟨rfl, hb⟩
              have S5 := Lib.hid (S4.out.keep hb)
              clear S4
              clear hb
              go_wp2_with fail
              refine hK.out _ _ ⟨Bag.cs3 S5.out 0 rfl, HK.out _ S5.out.old, HK2.out _ S5.out.old⟩ (fun hS => ?_)
              clear hK K
              try simp only [zp0, zp1, zp2, zp3, zp4]
              refine tk 16 rfl ?_
              try simp only [zp0, zp1, zp2, zp3, zp4]
              refine tk 17 rfl ?_
              try simp only [zp0, zp1, zp2, zp3, zp4]
              refine tk 18 rfl ?_
              try simp only [zp0, zp1, zp2, zp3, zp4]
              refine tk 19 rfl ?_
              try simp only [zp0, zp1, zp2, zp3, zp4]
              refine tk 20 rfl ?_
              try simp only [zp0, zp1, zp2, zp3, zp4]
              refine tk 21 rfl ?_
              try simp only [zp0, zp1, zp2, zp3, zp4]
              refine tk 22 rfl ?_
              try simp only [zp0, zp1, zp2, zp3, zp4]
              refine tk 23 rfl ?_
              try simp only [zp0, zp1, zp2, zp3, zp4]
              refine tk 24 rfl ?_
              try simp only [zp0, zp1, zp2, zp3, zp4]
              refine tk 25 rfl ?_
              try simp only [zp0, zp1, zp2, zp3, zp4]
              refine tk 26 rfl ?_
              try simp only [zp0, zp1, zp2, zp3, zp4]
              refine tk 27 rfl ?_
              try simp only [zp0, zp1, zp2, zp3, zp4]
              refine tk 28 rfl ?_
              try simp only [zp0, zp1, zp2, zp3, zp4]
              refine tk 29 rfl ?_
              try simp only [zp0, zp1, zp2, zp3, zp4]
              refine tk 30 rfl ?_
              try simp only [zp0, zp1, zp2, zp3, zp4]
              refine tk 31 rfl ?_
              try simp only [zp0, zp1, zp2, zp3, zp4]
              refine tk 32 rfl ?_
              try simp only [zp0, zp1, zp2, zp3, zp4]
              refine tk 33 rfl ?_
              try simp only [zp0, zp1, zp2, zp3, zp4]
              refine tk 34 rfl ?_
              try simp only [zp0, zp1, zp2, zp3, zp4]
              refine Reg.one_op (i := 35) rfl (by kernel_rfl) (fun K hK => ?_)
              go_simp
              go_at_call 27
              refine (HCMP.out _).mono ?_
              rintro e w4 ⟨rfl, hb⟩
              have S6 := Lib.hid (S5.out.keep hb)
              clear S5
              clear hb
              go_wp2_with fail
              refine hK.out _ _ ⟨Bag.cs3 S6.out 0 rfl, HK.out _ S6.out.old, HK2.out _ S6.out.old⟩ (fun hS => ?_)
              clear hK K
              try simp only [zp0, zp1, zp2, zp3, zp4]
              refine tk 36 rfl ?_
              try simp only [zp0, zp1, zp2, zp3, zp4]
              refine tk 37 rfl ?_
              try simp only [zp0, zp1, zp2, zp3, zp4]
              refine tk 38 rfl ?_
              try simp only [zp0, zp1, zp2, zp3, zp4]
              refine wpAnyH_done (by kernel_rfl) ?_ _
              have hh := Bag.cs3 S6.out 0 rfl
              have f0 := hh.1; have f1 := hh.2.1; have f2 := hh.2.2; clear hh
              have hh := HK.out _ S6.out.old
              have f3 := hh.1; have f4 := hh.2.1; have f5 := hh.2.2.1; have f6 := hh.2.2.2; clear hh
              have hh := HK2.out _ S6.out.old
              have f7 := hh.1; have f8 := hh.2.1; have f9 := hh.2.2.1; have f10 := hh.2.2.2; clear hh
              have HNO := Lib.hid (show isI (conI xs) = false from isI_no k hci (by rw [okIx_at HC.out, HKM.out, behind_at HC2.out]; dsimp only; rw [HBK.out, HBR.out, HCV.out]; simpa using hc2))
              go_wp2_with fail
              go_ret
              exact ⟨by unfold isS; rw [HNO.out]; rfl, S6.out.old⟩
    · skip
      obtain rfl : k = N := by omega
      have HI := Lib.hid (isI_all (xs := conI xs) (fun i hi => HA.out i (by rw [conI_length] at hi; have := HN.out; omega)))
      obtain ⟨bn, hbn⟩ : ∃ b, isN name.data.toList = b := ⟨_, rfl⟩
      have HIN := fun w => L5.specIsName_any name HNM.out w
      rw [hbn] at HIN
      replace HIN := Lib.hid HIN
      obtain ⟨ba, hba⟩ : ∃ b, L1.inB auto 0 1000000 = b := ⟨_, rfl⟩
      have HIA := fun w => L1.l1In_any auto 0 1000000 w
      rw [hba] at HIA
      replace HIA := Lib.hid HIA
      have HE := Lib.hid (show isS ⟨name, conI xs, auto⟩ = (bn && (decide (k ≤ 16) && ba)) from by unfold isS; rw [HI.out, hbn, hba, conI_length, ← HN.out]; rfl)
      clear hbn hba
      have hh := Bag.cs3 S2.out 0 rfl
      have f0 := hh.1; have f1 := hh.2.1; have f2 := hh.2.2; clear hh
      cases bn with
      | false =>
        go_wp2_with fail
        go_at_call 70
        refine (HIN.out _).mono ?_
        rintro e w1 ⟨rfl, rfl⟩
        go_wp2_with fail
        go_ret
        exact ⟨by rw [HE.out]; rfl, S2.out.old⟩
      | true =>
        go_wp2_with fail
        go_at_call 70
        refine (HIN.out _).mono ?_
        rintro e w1 ⟨rfl, rfl⟩
        by_cases h16 : (k : Int) ≤ 16
        · have h16' : k ≤ 16 := by omega
          go_wp2_with fail
          go_at_call 71
          refine (HIA.out _).mono ?_
          rintro e w2 ⟨rfl, rfl⟩
          go_wp2_with fail
          go_ret
          exact ⟨by rw [HE.out, decide_eq_true h16']; rfl, S2.out.old⟩
        · have h16' : ¬ k ≤ 16 := by omega
          go_wp2_with fail
          go_ret
          exact ⟨by rw [HE.out, decide_eq_false h16']; rfl, S2.out.old⟩
end Go.Proofs.Ytmnedjhfibmcnaa.L6

/-
  Plain mathematics of chapter 5's DecodeRecord: a field, some fields and a record read from bytes; what was read is what would be written. No condition.
-/
namespace Go.Proofs.Ytmnedjhfibmcnaa.L5
set_option maxRecDepth 100000
open L2
open L4 (toU toI toI_toU)

def rdF (l : List Int) (off : Int) : Option (F × Int) :=
  if rbB l off 8 && rdB l (rbE l off 8) then some (⟨⟨(toU (rbL l off 8)).toArray⟩, rdN l (rbE l off 8)⟩, rdE l (rbE l off 8)) else none
def rdFs (l : List Int) : Int → Nat → Option (List F × Int)
  | off, 0 => some ([], off)
  | off, k + 1 => match rdF l off with
    | none => none
    | some (f, e) => match rdFs l e k with
      | none => none
      | some (fs, e2) => some (f :: fs, e2)
def decR (l : List Int) : Option (List F) :=
  if rdB l 0 && decide (rdN l 0 ≤ 6) then
    match rdFs l (rdE l 0) (rdN l 0).toNat with
    | none => none
    | some (fs, e) => if isR fs && decide (e = l.length) then some fs else none
  else none
def RfMid (l : List Int) (off : Int) (n k : Nat) (acc : List F) (o : Int) : Prop := acc.length = k ∧ rdFs l off n = (rdFs l o (n - k)).map fun p => (acc ++ p.1, p.2)
theorem RfMid.start (l : List Int) (off : Int) (n : Nat) : RfMid l off n 0 [] off := ⟨rfl, by simp⟩
theorem RfMid.none {l : List Int} {off : Int} {n k : Nat} {acc : List F} {o : Int} (h : RfMid l off n k acc o) (hk : k < n) (hr : rdF l o = Option.none) : rdFs l off n = Option.none := by
  rw [h.2, show n - k = (n - (k + 1)) + 1 by omega, rdFs, hr]
  rfl
theorem RfMid.next {l : List Int} {off : Int} {n k : Nat} {acc : List F} {o e : Int} {f : F} (h : RfMid l off n k acc o) (hk : k < n) (hr : rdF l o = some (f, e)) : RfMid l off n (k + 1) (acc ++ [f]) e := by
  refine ⟨by simp [h.1], ?_⟩
  rw [h.2, show n - k = (n - (k + 1)) + 1 by omega, rdFs, hr]
  simp only
  cases rdFs l e (n - (k + 1)) with
  | none => rfl
  | some p => simp
end Go.Proofs.Ytmnedjhfibmcnaa.L5

/-
  Begun: what l5Read and DecodeRecord (chapter 5) need: an append onto one of several owned things outside a drawn region; three of several things; strings made of bytes. No condition.
-/
namespace Go.Proofs.Ytmnedjhfibmcnaa.L5
set_option maxRecDepth 100000
open L4 (boxR push_box box_at)
open Go.ChangeShapes Go.WideShapes Go.ChangeAt Go.RowKit Mem Sl Ex L2 Sv
set_option linter.unusedVariables false
set_option linter.unusedSimpArgs false

theorem wpList_append_v {P : Program} {W w : World} {rs : List Res} {e : TypeId} {k : Nat} {a : Option Addr} {c n : Nat} {xs : List Value} (S : Sep W w rs) (j : Nat) (hj : rs[j]? = some (ownV e k a c n xs))
    {ops : Array Oper} {rest : List Oper} {o : Oper} {act : Act} {Q : Exit → Act → World → Prop} (hgd : o.guard = none) (s x : Operand) (t : TypeId)
    (ho : o.op = .call { callee := .builtin .append, args := #[s, x], argTypes := #[t, t] })
    (i : TypeInfo) (z : Value) (bytes : Nat) (ht : P.underlying t = some (.slice e)) (hi : P.info? e = some i) (hz : i.zero = some z)
    (hsize : i.size = k) (hby : i.bytes = bytes) (hzs : z.cells.size = k) (hk : 0 < k) (n1 : Nat) (hs : act.eval s = .slice a n1 c) (hn : n1 = n)
    (B' : Nat) (A : Option Addr) (m m1 c' : Nat) (ys : List Value) (hx : act.eval x = .slice A m1 c') (hm : m1 = m) (hr : Reads w B' A ys) (hy : ys.length = m * k) (hone : ∀ u ∈ ys, u.oneCell' = true)
    (h63 : n + m ≤ maxLen) (hbytes : (n + m) * bytes ≤ 140737488355328)
    (h : ∀ a1 c1 w', Sep W w' (rs.set j (ownV e k a1 c1 (n + m) (xs ++ ys))) → wpList P ops Q rest (act.put o.dst (.slice a1 (n + m) c1)) w') : wpList P ops Q (o :: rest) act w := by
  subst hn
  subst hm
  refine wpList_plain hgd fun K hK => ?_
  obtain ⟨a1, c1, w', hrun, h2, h3, h4⟩ := run_append_rows (P := P) w 0 t o.type e i z k bytes ht hi hz hsize hby hzs hk a c n1 xs (own_at S j hj) B' A c' m1 ys hr hy hone h63 hbytes (Nat.zero_le _)
  unfold Oper.wp execOp
  simp only [ho, resolve, invoke, builtin, Sem.run_bind, Sem.run_pure, Result.andThen_ok, List.map_toArray, List.map_cons, List.map_nil, hs, hx, hrun]
  refine hK _ _ (h a1 c1 w' (Sd.put_new S j hj (Turned.of_grown h3) h2 fun b hb => ?_))
  have hb' : (Value.slice a1 (n1 + m1) c1).ownBlock = some b := by simpa [ownV] using hb
  rcases h4 b hb' with h5 | rfl
  · exact .inl (by simp [ownV, h5])
  · have := World.ownsRow.lt h2 _ hb'
    exact .inr ⟨Nat.le_refl _, this.2⟩
end Go.Proofs.Ytmnedjhfibmcnaa.L5

