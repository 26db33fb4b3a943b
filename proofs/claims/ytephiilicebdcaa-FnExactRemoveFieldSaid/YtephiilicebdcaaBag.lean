/-
  Words for values that hold slices within slices, of no function: such a value is a list of rows; a bag owns them all, each apart from the others. No condition.
-/
import Derived.Test.YtephiilicebdcaaPc
import Derived.Test.YtephiilicebdcaaPb
namespace Go.Proofs.Ytephiilicebdcaa.Bag
set_option maxRecDepth 100000
open Go.ChangeShapes Go.WideShapes Go.ChangeAt Go.RowKit Mem Sl Sv
set_option linter.unusedVariables false

/-- One slice: its elements' type, the cells of an element, where it lies, its room, its elements, its cells. -/
structure RowS where
  e : TypeId
  k : Nat
  a : Option Addr
  c : Nat
  n : Nat
  xs : List Value
def RowS.fp (r : RowS) : List Nat := (Value.slice r.a r.n r.c).ownBlock.toList
def RowS.Own (w : World) (B : Nat) (r : RowS) : Prop := OwnV w B r.e r.k r.a r.c r.n r.xs
def RowS.res (r : RowS) : Res := ownV r.e r.k r.a r.c r.n r.xs
/-- What a reader may know of a slice. -/
structure RowS.Rd (w : World) (B : Nat) (r : RowS) : Prop where
  reads : Reads w B r.a r.xs
  cap : r.n ≤ r.c
  zero : r.a = none → r.c = 0
def Apart (r s : RowS) : Prop := ∀ b ∈ r.fp, b ∉ s.fp
theorem Apart.symm {r s : RowS} (h : Apart r s) : Apart s r := fun b hs hr => h b hr hs
structure BagOwn (w : World) (B : Nat) (rows : List RowS) : Prop where
  own : ∀ r ∈ rows, r.Own w B
  apart : rows.Pairwise Apart
def RowsRd (w : World) (B : Nat) (rows : List RowS) : Prop := ∀ r ∈ rows, r.Rd w B

section
variable {w w' : World} {B B' : Nat} {rows ys : List RowS} {r : RowS}
theorem RowS.Own.lt (h : r.Own w B) : ∀ b ∈ r.fp, B ≤ b ∧ b < w.heap.size := fun b hb => by
  rcases h.form with ⟨e, _⟩ | ⟨g, e, h1, h2, _⟩
  · simp [RowS.fp, e, Value.ownBlock] at hb
  · simp [RowS.fp, e, Value.ownBlock] at hb
    subst hb
    exact ⟨h1, h2⟩
theorem RowS.Own.rd (h : r.Own w B) : r.Rd w w.heap.size := ⟨h.reads, h.cap, fun e => by
  rcases h.form with ⟨_, _, _, h1⟩ | ⟨g, e2, _⟩
  · exact h1
  · rw [e] at e2; cases e2⟩
theorem RowS.Rd.below (h : r.Rd w B) (hb : Below B w w') : r.Rd w' B := ⟨h.reads.below hb, h.cap, h.zero⟩
theorem RowS.Rd.more (h : r.Rd w B) (hB : B ≤ B') : r.Rd w B' := ⟨h.reads.more hB, h.cap, h.zero⟩
theorem RowsRd.below (h : RowsRd w B rows) (hb : Below B w w') : RowsRd w' B rows := fun r hr => (h r hr).below hb
theorem RowsRd.more (h : RowsRd w B rows) (hB : B ≤ B') : RowsRd w B' rows := fun r hr => (h r hr).more hB
theorem RowsRd.sub (h : RowsRd w B rows) (hs : ∀ r ∈ ys, r ∈ rows) : RowsRd w B ys := fun r hr => h r (hs r hr)
theorem RowsRd.at_ (h : RowsRd w B rows) (hr : r ∈ rows) : r.Rd w B := h r hr
theorem BagOwn.rd (h : BagOwn w B rows) : RowsRd w w.heap.size rows := fun r hr => (h.own r hr).rd
theorem BagOwn.nil (w : World) (B : Nat) : BagOwn w B [] := ⟨fun r hr => (by cases hr), List.Pairwise.nil⟩
theorem BagOwn.base (h : BagOwn w B rows) (hB : B' ≤ B) : BagOwn w B' rows := ⟨fun r hr => OwnV.base (h.own r hr) hB, h.apart⟩
theorem BagOwn.lt (h : BagOwn w B rows) : ∀ b ∈ rows.flatMap RowS.fp, B ≤ b ∧ b < w.heap.size := fun b hb => by
  obtain ⟨r, hr, hm⟩ := List.mem_flatMap.1 hb
  exact (h.own r hr).lt b hm
theorem BagOwn.one (h : r.Own w B) : BagOwn w B [r] := ⟨fun s hs => by rw [List.mem_singleton] at hs; rw [hs]; exact h, List.pairwise_singleton ..⟩
theorem BagOwn.lift (h : BagOwn w B rows) (hB : ∀ b ∈ rows.flatMap RowS.fp, B' ≤ b) : BagOwn w B' rows := ⟨fun r hr => OwnV.lift (h.own r hr) fun b hb => hB b (List.mem_flatMap.2 ⟨r, hr, hb⟩), h.apart⟩
theorem BagOwn.app (h : BagOwn w B rows) (k : BagOwn w B ys) (ha : ∀ b ∈ rows.flatMap RowS.fp, b ∉ ys.flatMap RowS.fp) : BagOwn w B (rows ++ ys) :=
  ⟨fun r hr => by
    rcases List.mem_append.1 hr with h1 | h1
    · exact h.own r h1
    · exact k.own r h1, List.pairwise_append.2 ⟨h.apart, k.apart, fun r hr s hs b hb hb2 => ha b (List.mem_flatMap.2 ⟨r, hr, hb⟩) (List.mem_flatMap.2 ⟨s, hs, hb2⟩)⟩⟩
theorem BagOwn.perm (h : BagOwn w B rows) (hp : rows.Perm ys) : BagOwn w B ys := ⟨fun r hr => h.own r (hp.mem_iff.2 hr), (hp.pairwise_iff (fun h => Apart.symm h)).1 h.apart⟩
theorem BagOwn.sub (h : BagOwn w B rows) (hs : ys.Sublist rows) : BagOwn w B ys := ⟨fun r hr => h.own r (hs.subset hr), h.apart.sublist hs⟩
end

/-- Several rows as one thing. -/
def bag (rows : List RowS) : Res where
  fp := rows.flatMap RowS.fp
  is w := BagOwn w 0 rows
  loc := fun hs h => ⟨fun r hr => r.res.loc (fun b hb => hs b (List.mem_flatMap.2 ⟨r, hr, hb⟩)) (h.own r hr), h.apart⟩

section
variable {W w w' : World} {rs : List Res} {rows xs ys : List RowS} {r : RowS}
/-- A thing seen otherwise. -/
theorem turn {r r' : Res} (h : Sep W w rs) (i : Nat) (hi : rs[i]? = some r) (hr : r.is w → r'.is w) (hf : ∀ b ∈ r'.fp, b ∈ r.fp) : Sep W w (rs.set i r') := h.put i hi (Turned.refl _ _) (hr (h.is i r hi)) hf
theorem bag_at (h : Sep W w rs) (i : Nat) (hi : rs[i]? = some (bag rows)) : BagOwn w 0 rows := h.is i _ hi
theorem bag_rd (h : Sep W w rs) (i : Nat) (hi : rs[i]? = some (bag rows)) : RowsRd w w.heap.size rows := (bag_at h i hi).rd
theorem bag_from (h : Sep W w rs) (i : Nat) (hi : rs[i]? = some (bag rows)) : BagOwn w W.heap.size rows := (bag_at h i hi).lift fun b hb => (h.lies i _ hi b hb).1
theorem push_bag (h : Sep W w rs) (hb : Below w.heap.size w w') (ho : BagOwn w' w.heap.size rows) : Sep W w' (rs ++ [bag rows]) :=
  h.push hb (ho.base (Nat.zero_le _)) fun b hm => ho.lt b hm
theorem push_none (h : Sep W w rs) : Sep W w (rs ++ [bag []]) := push_bag h (Below.refl _ _) (BagOwn.nil _ _)
theorem bag_of_one (h : Sep W w rs) (i : Nat) (hi : rs[i]? = some r.res) : Sep W w (rs.set i (bag [r])) :=
  turn h i hi (fun ho => BagOwn.one ho) (fun b hb => by simpa [bag, RowS.res, RowS.fp, ownV] using hb)
theorem one_of_bag (h : Sep W w rs) (i : Nat) (hi : rs[i]? = some (bag [r])) : Sep W w (rs.set i r.res) :=
  turn h i hi (fun ho => ho.own r (List.mem_singleton_self r)) (fun b hb => by simpa [bag, RowS.res, RowS.fp, ownV] using hb)
theorem bag_perm (h : Sep W w rs) (i : Nat) (hi : rs[i]? = some (bag xs)) (hp : xs.Perm ys) : Sep W w (rs.set i (bag ys)) :=
  turn h i hi (fun ho => BagOwn.perm ho hp) (fun b hb => by
    obtain ⟨r, hr, hm⟩ := List.mem_flatMap.1 hb
    exact List.mem_flatMap.2 ⟨r, hp.mem_iff.2 hr, hm⟩)
theorem bag_sub (h : Sep W w rs) (i : Nat) (hi : rs[i]? = some (bag xs)) (hs : ys.Sublist xs) : Sep W w (rs.set i (bag ys)) :=
  turn h i hi (fun ho => BagOwn.sub ho hs) (fun b hb => by
    obtain ⟨r, hr, hm⟩ := List.mem_flatMap.1 hb
    exact List.mem_flatMap.2 ⟨r, hs.subset hr, hm⟩)
/-- Two bags as one; the second is left empty. -/
theorem bag_join (h : Sep W w rs) (i j : Nat) (hij : i ≠ j) (hi : rs[i]? = some (bag xs)) (hj : rs[j]? = some (bag ys)) : Sep W w ((rs.set j (bag [])).set i (bag (xs ++ ys))) := by
  have hli : i < rs.length := (List.getElem?_eq_some_iff.1 hi).1
  have hlj : j < rs.length := (List.getElem?_eq_some_iff.1 hj).1
  have key : ∀ (q : Nat) (s : Res), ((rs.set j (bag [])).set i (bag (xs ++ ys)))[q]? = some s → (q = i ∧ s = bag (xs ++ ys)) ∨ (q = j ∧ s = bag []) ∨ (q ≠ i ∧ q ≠ j ∧ rs[q]? = some s) := fun q s hq => by
    by_cases e : i = q
    · subst e
      rw [List.getElem?_set_self (by simpa using hli)] at hq
      exact .inl ⟨rfl, (Option.some.inj hq).symm⟩
    · rw [List.getElem?_set_ne e] at hq
      by_cases e2 : j = q
      · subst e2
        rw [List.getElem?_set_self hlj] at hq
        exact .inr (.inl ⟨rfl, (Option.some.inj hq).symm⟩)
      · rw [List.getElem?_set_ne e2] at hq
        exact .inr (.inr ⟨fun h => e h.symm, fun h => e2 h.symm, hq⟩)
  have hfp : ∀ b, b ∈ (bag (xs ++ ys)).fp → b ∈ (bag xs).fp ∨ b ∈ (bag ys).fp := fun b hb => by
    have : b ∈ (xs ++ ys).flatMap RowS.fp := hb
    rw [List.flatMap_append] at this
    exact List.mem_append.1 this
  refine ⟨h.old, fun q s hq => ?_, fun q s hq b hb => ?_, fun p q s t hp hq hne b hb hb2 => ?_⟩
  · rcases key q s hq with ⟨_, rfl⟩ | ⟨_, rfl⟩ | ⟨_, _, h1⟩
    · exact BagOwn.app (h.is i _ hi) (h.is j _ hj) (fun b hb => h.apart i j _ _ hi hj hij b hb)
    · exact BagOwn.nil _ _
    · exact h.is q s h1
  · rcases key q s hq with ⟨_, rfl⟩ | ⟨_, rfl⟩ | ⟨_, _, h1⟩
    · rcases hfp b hb with h2 | h2
      · exact h.lies i _ hi b h2
      · exact h.lies j _ hj b h2
    · simp [bag] at hb
    · exact h.lies q s h1 b hb
  · rcases key p s hp with ⟨e1, rfl⟩ | ⟨e1, rfl⟩ | ⟨n1, n2, h1⟩ <;> rcases key q t hq with ⟨e2, rfl⟩ | ⟨e2, rfl⟩ | ⟨n3, n4, h2⟩
    · exact hne (e1.trans e2.symm)
    · simp [bag] at hb2
    · rcases hfp b hb with h3 | h3
      · exact h.apart i q _ t hi h2 (fun e => n3 e.symm) b h3 hb2
      · exact h.apart j q _ t hj h2 (fun e => n4 e.symm) b h3 hb2
    · simp [bag] at hb
    · simp [bag] at hb
    · simp [bag] at hb
    · rcases hfp b hb2 with h3 | h3
      · exact h.apart p i s _ h1 hi n1 b hb h3
      · exact h.apart p j s _ h1 hj n2 b hb h3
    · simp [bag] at hb2
    · exact h.apart p q s t h1 h2 hne b hb hb2
/-- A bag as two, the second at the end. -/
theorem bag_split (h : Sep W w rs) (i : Nat) (hi : rs[i]? = some (bag (xs ++ ys))) : Sep W w (rs.set i (bag xs) ++ [bag ys]) := by
  have hli : i < rs.length := (List.getElem?_eq_some_iff.1 hi).1
  have ho : BagOwn w 0 (xs ++ ys) := h.is i _ hi
  have hap := List.pairwise_append.1 ho.apart
  have hfp : ∀ b, b ∈ (bag xs).fp ∨ b ∈ (bag ys).fp → b ∈ (bag (xs ++ ys)).fp := fun b hb => by
    show b ∈ (xs ++ ys).flatMap RowS.fp
    rw [List.flatMap_append]
    exact List.mem_append.2 hb
  have hno : ∀ b, b ∈ (bag xs).fp → b ∉ (bag ys).fp := fun b hb hb2 => by
    obtain ⟨r, hr, hm⟩ := List.mem_flatMap.1 (show b ∈ xs.flatMap RowS.fp from hb)
    obtain ⟨s, hs, hm2⟩ := List.mem_flatMap.1 (show b ∈ ys.flatMap RowS.fp from hb2)
    exact hap.2.2 r hr s hs b hm hm2
  have key : ∀ (q : Nat) (s : Res), (rs.set i (bag xs) ++ [bag ys])[q]? = some s → (q = i ∧ s = bag xs) ∨ (q = rs.length ∧ s = bag ys) ∨ (q ≠ i ∧ q ≠ rs.length ∧ rs[q]? = some s) := fun q s hq => by
    rcases Nat.lt_trichotomy q rs.length with hl | hl | hl
    · rw [List.getElem?_append_left (by simpa using hl)] at hq
      by_cases e : i = q
      · subst e
        rw [List.getElem?_set_self hli] at hq
        exact .inl ⟨rfl, (Option.some.inj hq).symm⟩
      · rw [List.getElem?_set_ne e] at hq
        exact .inr (.inr ⟨fun h => e h.symm, by omega, hq⟩)
    · subst hl
      rw [List.getElem?_append_right (by simp)] at hq
      simp at hq
      exact .inr (.inl ⟨rfl, hq.symm⟩)
    · rw [List.getElem?_eq_none (by simp; omega)] at hq
      cases hq
  refine ⟨h.old, fun q s hq => ?_, fun q s hq b hb => ?_, fun p q s t hp hq hne b hb hb2 => ?_⟩
  · rcases key q s hq with ⟨_, rfl⟩ | ⟨_, rfl⟩ | ⟨_, _, h1⟩
    · exact ho.sub (List.sublist_append_left ..)
    · exact ho.sub (List.sublist_append_right ..)
    · exact h.is q s h1
  · rcases key q s hq with ⟨_, rfl⟩ | ⟨_, rfl⟩ | ⟨_, _, h1⟩
    · exact h.lies i _ hi b (hfp b (.inl hb))
    · exact h.lies i _ hi b (hfp b (.inr hb))
    · exact h.lies q s h1 b hb
  · rcases key p s hp with ⟨e1, rfl⟩ | ⟨e1, rfl⟩ | ⟨n1, n2, h1⟩ <;> rcases key q t hq with ⟨e2, rfl⟩ | ⟨e2, rfl⟩ | ⟨n3, n4, h2⟩
    · exact hne (e1.trans e2.symm)
    · exact hno b hb hb2
    · exact h.apart i q _ t hi h2 (fun e => n3 e.symm) b (hfp b (.inl hb)) hb2
    · exact hno b hb2 hb
    · exact hne (e1.trans e2.symm)
    · exact h.apart i q _ t hi h2 (fun e => n3 e.symm) b (hfp b (.inr hb)) hb2
    · exact h.apart p i s _ h1 hi n1 b hb (hfp b (.inl hb2))
    · exact h.apart p i s _ h1 hi n1 b hb (hfp b (.inr hb2))
    · exact h.apart p q s t h1 h2 hne b hb hb2
end
section
variable {W w : World} {rs ts : List Res} {g : Nat} {t : TypeId} {cs : Array Value} {v : Value}
theorem cell_at (h : Sep W w rs) (i : Nat) (hi : rs[i]? = some (L4.boxR g t cs)) (j : Nat) (hj : cs[j]? = some v) : w.cell? ⟨g, j, none⟩ = some v := by rw [(L4.box_at h i hi).cell, hj]
theorem free_at (h : Sep W w rs) (i : Nat) (hi : rs[i]? = some (L4.boxR g t cs)) (j : Nat) : w.frozen? ⟨g, j, none⟩ = false := (L4.box_at h i hi).free j
theorem drew1 (h : Sep W w rs) : Sep W w.drew rs := h.drews 1
/-- Some of the things, in whatever order. -/
theorem take (h : Sep W w rs) (is : List Nat) (he : is.map (fun i => rs[i]?) = ts.map some) (hd : is.Nodup) : Sep W w ts := by
  have hl : is.length = ts.length := by simpa using congrArg List.length he
  refine sep_sub h (fun i => is.getD i 0) (fun i r hr => ?_) (fun i j hi hj e => ?_)
  · have hi : i < ts.length := (List.getElem?_eq_some_iff.1 hr).1
    have h2 := congrArg (fun l => l[i]?) he
    simp only [List.getElem?_map, List.getElem?_eq_getElem (show i < is.length by omega), hr, Option.map_some] at h2
    rw [List.getD_eq_getElem?_getD, List.getElem?_eq_getElem (show i < is.length by omega)]
    simpa using h2
  · simp only [List.getD_eq_getElem?_getD, List.getElem?_eq_getElem (show i < is.length by omega), List.getElem?_eq_getElem (show j < is.length by omega), Option.getD_some] at e
    exact (List.getElem_inj hd).1 e
end
end Go.Proofs.Ytephiilicebdcaa.Bag
