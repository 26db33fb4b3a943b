/-
  Words for slices whose elements take k cells each (structs of one-cell fields), of no function: such a slice owned by the call, one cell of it read and written, appended to; and a whole element at a place. No condition.
-/
import Derived.Test.YtpapncecfleejaaL2App
import Derived.Test.YtpapncecfleejaaSd
import Derived.RegionTactic
namespace Go.Proofs.Ytpapncecfleejaa.Sv
set_option maxRecDepth 100000
open Go.ChangeShapes Go.WideShapes Go.ChangeAt Go.RowKit Mem Sl
set_option linter.unusedVariables false

/-- A slice of n elements of k cells that the call owns: its row lies from block B on, its cells are xs. -/
def OwnV (w : World) (B : Nat) (e : TypeId) (k : Nat) (a : Option Addr) (c n : Nat) (xs : List Value) : Prop := w.ownsRow B e k (.slice a n c) n xs

section
variable {w w' : World} {B B' : Nat} {e : TypeId} {k : Nat} {a : Option Addr} {c n : Nat} {xs : List Value}
theorem OwnV.len (h : OwnV w B e k a c n xs) : xs.length = n * k := h.1
theorem OwnV.form (h : OwnV w B e k a c n xs) : (a = none ∧ n = 0 ∧ xs = [] ∧ c = 0) ∨ ∃ g, a = some ⟨g, 0, none⟩ ∧ B ≤ g ∧ g < w.heap.size ∧ n ≤ c ∧ c ≤ maxLen := by
  rcases h.2 with ⟨hv, hn⟩ | ⟨g, cap, cur, hv, hb, hg, h1, h2, _⟩
  · injection hv with h1 h2 h3
    exact .inl ⟨h1, hn, List.eq_nil_of_length_eq_zero (by rw [h.1, hn, Nat.zero_mul]), h3⟩
  · injection hv with h3 h4 h5
    exact .inr ⟨g, h3, hb, (Array.getElem?_eq_some_iff.1 hg).1, by omega, by omega⟩
theorem OwnV.cap (h : OwnV w B e k a c n xs) : n ≤ c := by
  rcases h.form with ⟨_, rfl, _⟩ | ⟨g, rfl, hb, hg, h1, _⟩
  · simp
  · exact h1
theorem OwnV.reads (h : OwnV w B e k a c n xs) : Reads w w.heap.size a xs := fun j hj => by
  rcases h.form with ⟨_, _, rfl, _⟩ | ⟨g, rfl, hb, hg, _⟩
  · simp at hj
  · exact ⟨_, rfl, hg, World.ownsRow.cells (g := g) h rfl j _ (List.getElem?_eq_getElem hj)⟩
theorem OwnV.base (h : OwnV w B e k a c n xs) (hB : B' ≤ B) : OwnV w B' e k a c n xs := by
  refine ⟨h.1, ?_⟩
  rcases h.2 with hv | ⟨g, cap, cur, hv, hb, r⟩
  · exact .inl hv
  · exact .inr ⟨g, cap, cur, hv, by omega, r⟩
theorem OwnV.lift (h : OwnV w B e k a c n xs) (hB : ∀ b ∈ (Value.slice a n c).ownBlock.toList, B' ≤ b) : OwnV w B' e k a c n xs := by
  refine ⟨h.1, ?_⟩
  rcases h.2 with hv | ⟨g, cap, cur, hv, hb, r⟩
  · exact .inl hv
  · exact .inr ⟨g, cap, cur, hv, hB g (by rw [hv]; simp [Value.ownBlock]), r⟩
theorem OwnV.below (h : OwnV w B e k a c n xs) (hb : Below w.heap.size w w') : OwnV w' B e k a c n xs := by
  refine ⟨h.1, ?_⟩
  rcases h.2 with hv | ⟨g, cap, cur, hv, hB, hg, r⟩
  · exact .inl hv
  · exact .inr ⟨g, cap, cur, hv, hB, (hb.block g (Array.getElem?_eq_some_iff.1 hg).1).trans hg, r⟩
theorem OwnV.alloc (h : OwnV w B e k a c n xs) (o : Obj) : OwnV (w.alloc o) B e k a c n xs := h.below ((Below.refl _ _).alloc (Nat.le_refl _) o)
theorem OwnV.nil (w : World) (B : Nat) (e : TypeId) (k : Nat) : OwnV w B e k none 0 0 [] := ⟨(Nat.zero_mul k).symm, .inl ⟨rfl, rfl⟩⟩
theorem OwnV.empty (w : World) (e : TypeId) (k : Nat) (hB : B ≤ w.heap.size) : OwnV (w.alloc (.cells #[] e)) B e k (some ⟨w.heap.size, 0, none⟩) 0 0 [] := by
  have := World.ownsRow_made (base := B) (e := e) (size := k) w #[] 0 hB (Nat.zero_le _) (Nat.zero_mul k).symm
  exact this
theorem OwnV.emptyAt (w : World) (e : TypeId) (k g : Nat) (hg : g = w.heap.size) (hB : B ≤ w.heap.size) : OwnV (w.alloc (.cells #[] e)) B e k (some ⟨g, 0, none⟩) 0 0 [] := by
  subst hg
  exact OwnV.empty w e k hB
theorem OwnV.madeAt (w : World) (e : TypeId) (k n g : Nat) (cs : Array Value) (hg : g = w.heap.size) (hB : B ≤ w.heap.size) (hn : cs.size = n * k) (hm : n ≤ maxLen) : OwnV (w.alloc (.cells cs e)) B e k (some ⟨g, 0, none⟩) n n cs.toList := by
  subst hg
  exact ⟨by simpa using hn, .inr ⟨w.heap.size, n, cs, rfl, hB, heap_alloc_new w _, Nat.le_refl _, hm, hn, by rw [← hn, ← Array.length_toList, List.take_length]⟩⟩
/-- A row that was just laid, all of it. -/
theorem OwnV.made (w : World) (e : TypeId) (k n : Nat) (cs : Array Value) (hB : B ≤ w.heap.size) (hn : cs.size = n * k) (hm : n ≤ maxLen) : OwnV (w.alloc (.cells cs e)) B e k (some ⟨w.heap.size, 0, none⟩) n n cs.toList :=
  ⟨by simpa using hn, .inr ⟨w.heap.size, n, cs, rfl, hB, heap_alloc_new w _, Nat.le_refl _, hm, hn, by rw [← hn, ← Array.length_toList, List.take_length]⟩⟩
/-- A store ahead of it. -/
theorem OwnV.far (h : OwnV w B e k a c n xs) (g j : Nat) (v : Value) (hg : g < B) : OwnV (w.setCell ⟨g, j, none⟩ v) B e k a c n xs := by
  refine ⟨h.1, ?_⟩
  rcases h.2 with hv | ⟨g', cap, cur, hv, hB, hg', r⟩
  · exact .inl hv
  · exact .inr ⟨g', cap, cur, hv, hB, (Below.heap_setCell w ⟨g, j, none⟩ v g' (by show g' ≠ g; omega)).trans hg', r⟩
/-- One cell of it. -/
theorem OwnV.cell {g : Nat} (h : OwnV w B e k (some ⟨g, 0, none⟩) c n xs) (j : Nat) (hj : j < xs.length) : w.cell? ⟨g, j, none⟩ = some xs[j] := by
  have := World.ownsRow.cells (g := g) h rfl j _ (List.getElem?_eq_getElem hj)
  rwa [Addr.add_lit, Nat.zero_add] at this
theorem OwnV.free {g : Nat} (h : OwnV w B e k (some ⟨g, 0, none⟩) c n xs) (j : Nat) : w.frozen? ⟨g, j, none⟩ = false := by
  rcases h.2 with ⟨hv, hn⟩ | ⟨g', cap, cur, hv, hb, hg, _⟩
  · injection hv with h1; cases h1
  · injection hv with h1
    injection h1 with h1
    injection h1 with h1
    subst h1
    simp [World.frozen?, hg]
theorem OwnV.set {g : Nat} (h : OwnV w B e k (some ⟨g, 0, none⟩) c n xs) (j : Nat) (hj : j < xs.length) (v : Value) : OwnV (w.setCell ⟨g, j, none⟩ v) B e k (some ⟨g, 0, none⟩) c n (xs.set j v) := by
  refine ⟨by simpa using h.1, ?_⟩
  rcases h.2 with ⟨hv, hn⟩ | ⟨g', cap, cur, hv, hb, hg, h1, h2, h3, h4⟩
  · injection hv with h1; cases h1
  · injection hv with e1 e2 e3
    injection e1 with e1
    injection e1 with e1
    subst e1
    refine .inr ⟨g, cap, cur.setIfInBounds j v, by rw [e3], hb, Row.put (w := w) (t := e) (cs := cur) hg j v, h1, h2, by simpa using h3, ?_⟩
    rw [Array.toList_setIfInBounds, List.take_set, h4]
end

/-- Such a slice as a thing. -/
def ownV (e : TypeId) (k : Nat) (a : Option Addr) (c n : Nat) (xs : List Value) : Res where
  fp := (Value.slice a n c).ownBlock.toList
  is w := OwnV w 0 e k a c n xs
  loc := fun hs h => ⟨h.1, by
    rcases h.2 with hv | ⟨g, cap, cur, hv, hB, hg, r⟩
    · exact .inl hv
    · exact .inr ⟨g, cap, cur, hv, hB, (hs g (by rw [hv]; simp [Value.ownBlock])).trans hg, r⟩⟩
section
variable {W w w' : World} {rs : List Res} {e : TypeId} {k : Nat} {a : Option Addr} {c n : Nat} {xs : List Value}
theorem own_at (h : Sep W w rs) (i : Nat) (hi : rs[i]? = some (ownV e k a c n xs)) : OwnV w 0 e k a c n xs := h.is i _ hi
theorem own_from (h : Sep W w rs) (i : Nat) (hi : rs[i]? = some (ownV e k a c n xs)) : OwnV w W.heap.size e k a c n xs :=
  (own_at h i hi).lift fun b hm => (h.lies i _ hi b hm).1
theorem push_own (h : Sep W w rs) (hb : Below w.heap.size w w') (ho : OwnV w' w.heap.size e k a c n xs) : Sep W w' (rs ++ [ownV e k a c n xs]) :=
  h.push hb (ho.base (Nat.zero_le _)) fun b hm => by
    rcases ho.form with ⟨rfl, _⟩ | ⟨g, rfl, h1, h2, _⟩
    · simp [ownV, Value.ownBlock] at hm
    · simp [ownV, Value.ownBlock] at hm
      subst hm
      exact ⟨h1, h2⟩
theorem set_own {g : Nat} (h : Sep W w rs) (i : Nat) (hi : rs[i]? = some (ownV e k (some ⟨g, 0, none⟩) c n xs)) (j : Nat) (hj : j < xs.length) (v : Value) : Sep W (w.setCell ⟨g, j, none⟩ v) (rs.set i (ownV e k (some ⟨g, 0, none⟩) c n (xs.set j v))) :=
  h.put i hi (Turned.of_grown (grownBy_put w g j v)) ((own_at h i hi).set j hj v) (fun b hb => hb)
end

theorem sep_sub {W w : World} {rs ts : List Res} (h : Sep W w rs) (f : Nat → Nat) (hf : ∀ i r, ts[i]? = some r → rs[f i]? = some r) (hi : ∀ i j, i < ts.length → j < ts.length → f i = f j → i = j) : Sep W w ts :=
  ⟨h.old, fun i r hr => h.is (f i) r (hf i r hr), fun i r hr => h.lies (f i) r (hf i r hr), fun i j r s hr hs hne => h.apart (f i) (f j) r s (hf i r hr) (hf j s hs) (fun e => hne (hi i j (List.getElem?_eq_some_iff.1 hr).1 (List.getElem?_eq_some_iff.1 hs).1 e))⟩
/-- Four of several things, in whatever order. -/
theorem sep_pick {W w : World} {rs : List Res} {r0 r1 r2 r3 : Res} (h : Sep W w rs) (is : List Nat) (hl : is.length = 4) (hd : is.Nodup) (h0 : rs[is.getD 0 0]? = some r0) (h1 : rs[is.getD 1 0]? = some r1) (h2 : rs[is.getD 2 0]? = some r2) (h3 : rs[is.getD 3 0]? = some r3) : Sep W w [r0, r1, r2, r3] := by
  refine sep_sub h (fun i => is.getD i 0) (fun i r hr => ?_) (fun i j hi hj e => ?_)
  · match i, hr with
    | 0, hr => simp at hr; subst hr; exact h0
    | 1, hr => simp at hr; subst hr; exact h1
    | 2, hr => simp at hr; subst hr; exact h2
    | 3, hr => simp at hr; subst hr; exact h3
    | i + 4, hr => simp at hr
  · simp only [List.length_cons, List.length_nil] at hi hj
    have ei : i < is.length := by omega
    have ej : j < is.length := by omega
    simp only [List.getD_eq_getElem?_getD, List.getElem?_eq_getElem ei, List.getElem?_eq_getElem ej, Option.getD_some] at e
    have hp := List.pairwise_iff_getElem.1 hd
    rcases Nat.lt_trichotomy i j with h | h | h
    · exact absurd e (hp i j ei ej h)
    · exact h
    · exact absurd e.symm (hp j i ej ei h)

/-! ### append -/
section
variable {P : Program} (w : World)
theorem run_append_rows (B : Nat) (t ty e : TypeId) (i : TypeInfo) (z : Value) (k bytes : Nat) (ht : P.underlying t = some (.slice e)) (hi : P.info? e = some i) (hz : i.zero = some z)
    (hsize : i.size = k) (hby : i.bytes = bytes) (hzs : z.cells.size = k) (hk : 0 < k) (a : Option Addr) (c n : Nat) (xs : List Value) (hown : OwnV w B e k a c n xs)
    (B' : Nat) (A : Option Addr) (c' m : Nat) (ys : List Value) (hr : Reads w B' A ys) (hy : ys.length = m * k) (hone : ∀ u ∈ ys, u.oneCell' = true)
    (h63 : n + m ≤ maxLen) (hbytes : (n + m) * bytes ≤ 140737488355328) (hbase : B ≤ w.heap.size) :
    ∃ a1 c1 w', (Builtin.append_ #[t, t] ty #[.slice a n c, .slice A m c']).run P w = .ok (.slice a1 (n + m) c1) w' ∧ OwnV w' B e k a1 c1 (n + m) (xs ++ ys) ∧ w.grownBy w' (Value.slice a n c).ownBlock ∧ ∀ b, (Value.slice a1 (n + m) c1).ownBlock = some b → (Value.slice a n c).ownBlock = some b ∨ b = w.heap.size := by
  have fin : ∀ {v' : Value} {w' : World}, w'.ownsRow B e k v' (n + m) (xs ++ ys) → ∃ a1 c1, v' = .slice a1 (n + m) c1 ∧ OwnV w' B e k a1 c1 (n + m) (xs ++ ys) := by
    intro v' w' h
    rcases h.2 with ⟨rfl, hn⟩ | ⟨g, cap, cur, rfl, _⟩
    · refine ⟨none, 0, by rw [hn], ?_⟩
      unfold OwnV
      rw [hn]
      rw [hn] at h
      exact h
    · exact ⟨_, cap, rfl, h⟩
  rcases A with _ | ad
  · have hm : ys = [] := by
      rcases ys with _ | ⟨x, ys⟩
      · rfl
      · obtain ⟨ad, h, _⟩ := hr 0 (by simp)
        cases h
    subst hm
    have hm0 : m = 0 := by
      rcases Nat.eq_zero_or_pos m with h | h
      · exact h
      · have := Nat.mul_pos h hk
        simp at hy
        omega
    subst hm0
    have hrun : (Builtin.append_ #[t, t] ty #[.slice a n c, .slice none 0 c']).run P w = .ok (.slice a n c) w := by
      rcases hown.form with ⟨rfl, rfl, _, rfl⟩ | ⟨g, rfl, _, _, h1, _⟩
      · simp [Builtin.append_, run_underlying ht, sizeOf, typeInfo, hi, Builtin.lenOf, Builtin.firstCells]
      · simp [Builtin.append_, run_underlying ht, sizeOf, typeInfo, hi, Builtin.lenOf, Builtin.firstCells, h1, storeCells]
    exact ⟨a, c, w, by simpa using hrun, by simpa using hown, grownBy_refl w _, fun b hb => .inl (by
      cases a with
      | none => simp [Value.ownBlock] at hb
      | some ad => simpa [Value.ownBlock] using hb)⟩
  · have hcells : ∀ j u, ys[j]? = some u → w.cell? (ad.add j) = some u := by
      intro j u hu
      have hj := (List.getElem?_eq_some_iff.1 hu).1
      obtain ⟨ad', h, _, hc⟩ := hr j hj
      injection h with h
      subst h
      rw [hc, ← hu, List.getElem?_eq_getElem hj]
    obtain ⟨v', w', hrun, h2, h3, -, h5⟩ := run_append_own_at (P := P) w B t ty e i z k bytes ht hi hz hsize hby hzs hk _ n xs hown ad m c' ys hy hcells hone h63 hbytes hbase
    obtain ⟨a1, c1, rfl, ho⟩ := fin h2
    refine ⟨a1, c1, w', hrun, ho, h3, fun b hb => ?_⟩
    rcases h5 with h5 | h5
    · exact .inl (by rw [← h5]; exact hb)
    · rw [h5] at hb
      exact .inr (Option.some.inj hb).symm
theorem wpList_append_rows {ops : Array Oper} {rest : List Oper} {o : Oper} {act : Act} {Q : Exit → Act → World → Prop} (hgd : o.guard = none) (s x : Operand) (t : TypeId)
    (ho : o.op = .call { callee := .builtin .append, args := #[s, x], argTypes := #[t, t] })
    (B : Nat) (e : TypeId) (i : TypeInfo) (z : Value) (k bytes : Nat) (ht : P.underlying t = some (.slice e)) (hi : P.info? e = some i) (hz : i.zero = some z)
    (hsize : i.size = k) (hby : i.bytes = bytes) (hzs : z.cells.size = k) (hk : 0 < k) (a : Option Addr) (n n1 c : Nat) (xs : List Value) (hs : act.eval s = .slice a n1 c) (hn : n1 = n) (hown : OwnV w B e k a c n xs)
    (B' : Nat) (A : Option Addr) (m m1 c' : Nat) (ys : List Value) (hx : act.eval x = .slice A m1 c') (hm : m1 = m) (hr : Reads w B' A ys) (hy : ys.length = m * k) (hone : ∀ u ∈ ys, u.oneCell' = true)
    (h63 : n + m ≤ maxLen) (hbytes : (n + m) * bytes ≤ 140737488355328) (hbase : B ≤ w.heap.size)
    (h : ∀ a1 c1 w', OwnV w' B e k a1 c1 (n + m) (xs ++ ys) → w.grownBy w' (Value.slice a n c).ownBlock → wpList P ops Q rest (act.put o.dst (.slice a1 (n + m) c1)) w') : wpList P ops Q (o :: rest) act w := by
  subst hn
  subst hm
  refine wpList_plain hgd fun K hK => ?_
  obtain ⟨a1, c1, w', hrun, h2, h3, -⟩ := run_append_rows (P := P) w B t o.type e i z k bytes ht hi hz hsize hby hzs hk a c n1 xs hown B' A c' m1 ys hr hy hone h63 hbytes hbase
  unfold Oper.wp execOp
  simp only [ho, resolve, invoke, builtin, Sem.run_bind, Sem.run_pure, Result.andThen_ok, List.map_toArray, List.map_cons, List.map_nil, hs, hx, hrun]
  exact hK _ _ (h a1 c1 w' h2 h3)
/-- The same at a step of a region that draws its order. -/
theorem step_append_rows {ops : Array Oper} {o : Oper} {act : Act} {K : Act → World → Prop} {Q : Exit → Act → World → Prop} {E : Prop} (hgd : o.guard = none) (s x : Operand) (t : TypeId)
    (ho : o.op = .call { callee := .builtin .append, args := #[s, x], argTypes := #[t, t] })
    (B : Nat) (e : TypeId) (i : TypeInfo) (z : Value) (k bytes : Nat) (ht : P.underlying t = some (.slice e)) (hi : P.info? e = some i) (hz : i.zero = some z)
    (hsize : i.size = k) (hby : i.bytes = bytes) (hzs : z.cells.size = k) (hk : 0 < k) (a : Option Addr) (n n1 c : Nat) (xs : List Value) (hs : act.eval s = .slice a n1 c) (hn : n1 = n) (hown : OwnV w B e k a c n xs)
    (B' : Nat) (A : Option Addr) (m m1 c' : Nat) (ys : List Value) (hx : act.eval x = .slice A m1 c') (hm : m1 = m) (hr : Reads w B' A ys) (hy : ys.length = m * k) (hone : ∀ u ∈ ys, u.oneCell' = true)
    (h63 : n + m ≤ maxLen) (hbytes : (n + m) * bytes ≤ 140737488355328) (hbase : B ≤ w.heap.size)
    (h : ∀ a1 c1 w', OwnV w' B e k a1 c1 (n + m) (xs ++ ys) → w.grownBy w' (Value.slice a n c).ownBlock → K (act.put o.dst (.slice a1 (n + m) c1)) w') : if Region.wanted o (yielded ops act.tmps) = true then Oper.wp P o act w K Q else E := by
  have hw : Region.wanted o (yielded ops act.tmps) = true := by simp [Region.wanted, hgd]
  rw [if_pos hw]
  subst hn
  subst hm
  obtain ⟨a1, c1, w', hrun, h2, h3, -⟩ := run_append_rows (P := P) w B t o.type e i z k bytes ht hi hz hsize hby hzs hk a c n1 xs hown B' A c' m1 ys hr hy hone h63 hbytes hbase
  unfold Oper.wp execOp
  simp only [ho, resolve, invoke, builtin, Sem.run_bind, Sem.run_pure, Result.andThen_ok, List.map_toArray, List.map_cons, List.map_nil, hs, hx, hrun]
  exact h a1 c1 w' h2 h3
end
/-- The same over several owned things. -/
theorem step_append_s {P : Program} {W w : World} {rs : List Res} {e : TypeId} {k : Nat} {a : Option Addr} {c n : Nat} {xs : List Value} (S : Sep W w rs) (j : Nat) (hj : rs[j]? = some (ownV e k a c n xs))
    {ops : Array Oper} {o : Oper} {act : Act} {K : Act → World → Prop} {Q : Exit → Act → World → Prop} {E : Prop} (hgd : o.guard = none) (s x : Operand) (t : TypeId)
    (ho : o.op = .call { callee := .builtin .append, args := #[s, x], argTypes := #[t, t] })
    (i : TypeInfo) (z : Value) (bytes : Nat) (ht : P.underlying t = some (.slice e)) (hi : P.info? e = some i) (hz : i.zero = some z)
    (hsize : i.size = k) (hby : i.bytes = bytes) (hzs : z.cells.size = k) (hk : 0 < k) (n1 : Nat) (hs : act.eval s = .slice a n1 c) (hn : n1 = n)
    (B' : Nat) (A : Option Addr) (m m1 c' : Nat) (ys : List Value) (hx : act.eval x = .slice A m1 c') (hm : m1 = m) (hr : Reads w B' A ys) (hy : ys.length = m * k) (hone : ∀ u ∈ ys, u.oneCell' = true)
    (h63 : n + m ≤ maxLen) (hbytes : (n + m) * bytes ≤ 140737488355328)
    (h : ∀ a1 c1 w', Sep W w' (rs.set j (ownV e k a1 c1 (n + m) (xs ++ ys))) → K (act.put o.dst (.slice a1 (n + m) c1)) w') : if Region.wanted o (yielded ops act.tmps) = true then Oper.wp P o act w K Q else E := by
  have hw : Region.wanted o (yielded ops act.tmps) = true := by simp [Region.wanted, hgd]
  rw [if_pos hw]
  subst hn
  subst hm
  obtain ⟨a1, c1, w', hrun, h2, h3, h4⟩ := run_append_rows (P := P) w 0 t o.type e i z k bytes ht hi hz hsize hby hzs hk a c n1 xs (own_at S j hj) B' A c' m1 ys hr hy hone h63 hbytes (Nat.zero_le _)
  unfold Oper.wp execOp
  simp only [ho, resolve, invoke, builtin, Sem.run_bind, Sem.run_pure, Result.andThen_ok, List.map_toArray, List.map_cons, List.map_nil, hs, hx, hrun]
  refine h a1 c1 w' (Sd.put_new S j hj (Turned.of_grown h3) h2 fun b hb => ?_)
  have hb' : (Value.slice a1 (n1 + m1) c1).ownBlock = some b := by simpa [ownV] using hb
  rcases h4 b hb' with h5 | rfl
  · exact .inl (by simp [ownV, h5])
  · have := World.ownsRow.lt h2 _ hb'
    exact .inr ⟨Nat.le_refl _, this.2⟩
end Go.Proofs.Ytpapncecfleejaa.Sv
