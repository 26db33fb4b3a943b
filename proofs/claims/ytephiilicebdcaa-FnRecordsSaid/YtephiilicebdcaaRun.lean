/-
  Words for runs of cells in a row of one's own, of no function: copy, clear, append of zeros that finds no room, make, a row shortened. No condition.
-/
import Derived.Test.YtephiilicebdcaaBag
import Derived.Lib.AppendZerosOnto
import Derived.Laws.IdiomCopy
import Derived.OwnWalk
import Derived.Deep.AppendSrc
namespace Go.Proofs.Ytephiilicebdcaa.Run
set_option maxRecDepth 100000
open Go.ChangeShapes Go.WideShapes Go.ChangeAt Go.RowKit Mem Sl Sv Bag
set_option linter.unusedVariables false

/-- A run of cells laid over a list from place o on. -/
def over (xs : List Value) (o : Nat) (vs : List Value) : List Value := xs.take o ++ (vs ++ xs.drop (o + vs.length))
theorem over_nil (xs : List Value) (o : Nat) : over xs o [] = xs := by simp [over]
theorem over_all (xs vs : List Value) (h : xs.length = vs.length) : over xs 0 vs = vs := by simp [over, ← h]
theorem over_at (A Z : List Value) (o : Nat) (vs : List Value) (ho : A.length = o) (hv : vs.length ≤ Z.length) : over (A ++ Z) o vs = A ++ (vs ++ Z.drop vs.length) := by
  subst ho
  simp [over, List.take_left', List.drop_append]
theorem over_length (xs : List Value) (o : Nat) (vs : List Value) (h : o + vs.length ≤ xs.length) : (over xs o vs).length = xs.length := by
  simp [over]
  omega
theorem over_cons (xs : List Value) (o : Nat) (v : Value) (vs : List Value) (h : o < xs.length) : over (xs.set o v) (o + 1) vs = over xs o (v :: vs) := by
  unfold over
  rw [List.drop_set_of_lt (by omega), List.take_add_one, List.take_set_of_le (Nat.le_refl o)]
  simp [h, Nat.add_comm]
  congr 1
  omega
section
variable {w w' : World} {B : Nat} {e : TypeId} {k c n g : Nat} {a : Option Addr} {xs : List Value}
theorem own_run (vs : List Value) : ∀ {w : World} {xs : List Value} (o : Nat), OwnV w B e k (some ⟨g, 0, none⟩) c n xs → o + vs.length ≤ xs.length → OwnV (w.setCells g o vs) B e k (some ⟨g, 0, none⟩) c n (over xs o vs) := by
  induction vs with
  | nil => intro w xs o h _; rw [over_nil]; exact h
  | cons v vs ih =>
    intro w xs o h hl
    simp only [List.length_cons] at hl
    have h1 := ih (o + 1) (h.set o (by omega) v) (by rw [List.length_set]; omega)
    rw [over_cons xs o v vs (by omega)] at h1
    exact h1
theorem turned_run (vs : List Value) : ∀ (w : World) (o : Nat), Turned [g] w (w.setCells g o vs) := by
  induction vs with
  | nil => intro w o; exact Turned.refl _ _
  | cons v vs ih => intro w o; exact (Turned.of_grown (grownBy_put w g o v)).trans (ih _ _)
theorem own_shorter (h : OwnV w B e k a c n xs) (m : Nat) (hm : m ≤ n) : OwnV w B e k a c m (xs.take (m * k)) := by
  have hmk : m * k ≤ n * k := Nat.mul_le_mul_right _ hm
  refine ⟨by rw [List.length_take, h.1]; omega, ?_⟩
  rcases h.2 with ⟨hv, hn⟩ | ⟨g, cap, cur, hv, hB, hg, h1, h2, h3, h4⟩
  · injection hv with e1 e2 e3
    subst e1
    subst e3
    exact .inl ⟨by rw [show m = 0 by omega], by omega⟩
  · injection hv with e1 e2 e3
    subst e1
    subst e3
    exact .inr ⟨g, c, cur, rfl, hB, hg, by omega, h2, h3, by rw [← h4, List.take_take, Nat.min_eq_left hmk]⟩
end
section
variable {W w w' : World} {rs : List Res} {e : TypeId} {k c n g : Nat} {a : Option Addr} {xs : List Value}
theorem put_run (h : Sep W w rs) (i : Nat) (hi : rs[i]? = some (ownV e k (some ⟨g, 0, none⟩) c n xs)) (o : Nat) (vs : List Value) (ho : o + vs.length ≤ xs.length) : Sep W (w.setCells g o vs) (rs.set i (ownV e k (some ⟨g, 0, none⟩) c n (over xs o vs))) :=
  h.put i hi (turned_run vs w o) (own_run vs o (own_at h i hi) ho) (fun b hb => hb)
theorem shorter (h : Sep W w rs) (i : Nat) (hi : rs[i]? = some (ownV e k a c n xs)) (m : Nat) (hm : m ≤ n) : Sep W w (rs.set i (ownV e k a c m (xs.take (m * k)))) :=
  turn h i hi (fun ho => own_shorter (w := w) (B := 0) ho m hm) (fun b hb => by
    cases a with
    | none => simp [ownV, Value.ownBlock] at hb
    | some ad => simpa [ownV, Value.ownBlock] using hb)
end
section
variable {P : Program}
theorem run_copy_src (w : World) (dT sT ty e : TypeId) (i : TypeInfo) (k g q dl dc sl sc : Nat) (A : Option Addr) (cs : List Value) (hu : P.underlying dT = some (.slice e)) (hi : P.info? e = some i) (hs : i.size = k) (hn : cs.length = Nat.min sl dl * k)
    (B : Nat) (hr : Reads w B A cs) (hc : ∀ j, j < cs.length → (w.cell? ⟨g, q + j, none⟩).isSome = true) (hf : ∀ j, j < cs.length → w.frozen? ⟨g, q + j, none⟩ = false) (h1 : ∀ v ∈ cs, v.oneCell' = true) :
    (Builtin.copy_ #[dT, sT] ty #[.slice (some ⟨g, q, none⟩) dl dc, .slice A sl sc]).run P w = .ok (goInt (Nat.min sl dl)) (w.setCells g q cs) := by
  have hst := run_storeCells_cells (P := P) g q cs 0 w (by simpa using hc) (by simpa using hf) h1
  cases A with
  | none =>
    have hcs : cs = [] := by
      rcases cs with _ | ⟨x, xs⟩
      · rfl
      · obtain ⟨ad, h, _⟩ := hr 0 (by simp)
        cases h
    subst hcs
    simp [Builtin.copy_, run_underlying hu, Builtin.lenOf, Builtin.firstCells, sizeOf, typeInfo, hi, storeCells, World.setCells]
  | some ad =>
    have hl := run_loadCells_list (P := P) w ad cs (fun j v hj => by
      obtain ⟨hjl, rfl⟩ := List.getElem?_eq_some_iff.1 hj
      obtain ⟨ad', h, _, h2⟩ := hr j hjl
      injection h with h
      subst h
      exact h2)
    simp [Builtin.copy_, run_underlying hu, Builtin.lenOf, Builtin.firstCells, sizeOf, typeInfo, hi, hs, ← hn, hl, hst]
theorem run_clear_rows (w : World) (t e ty : TypeId) (i : TypeInfo) (z : Value) (g o n c : Nat) (ht : P.underlying t = some (.slice e)) (hi : P.info? e = some i) (hz : i.zero = some z)
    (hc : ∀ j, j < n * z.cells.size → (w.cell? ⟨g, o + j, none⟩).isSome = true) (hf : ∀ j, j < n * z.cells.size → w.frozen? ⟨g, o + j, none⟩ = false) (h1 : ∀ v ∈ (Builtin.zeroCells z.cells n).toList, v.oneCell' = true) :
    (Builtin.clear_ #[t] ty #[.slice (some ⟨g, o, none⟩) n c]).run P w = .ok (.tuple #[]) (w.setCells g o (Builtin.zeroCells z.cells n).toList) := by
  have hlen : (Builtin.zeroCells z.cells n).toList.length = n * z.cells.size := by rw [Array.length_toList, size_zeroCells]
  have hst := run_storeCells_cells (P := P) g o (Builtin.zeroCells z.cells n).toList 0 w (by rw [hlen]; simpa using hc) (by rw [hlen]; simpa using hf) h1
  simp only [Nat.add_zero] at hst
  rcases n with _ | m
  · simp [Builtin.clear_, run_underlying ht, Builtin.zeroCells, World.setCells]
  · simp [Builtin.clear_, run_underlying ht, zeroValue, typeInfo, hi, hz, hst]
end
section
variable {P : Program} {W w : World} {rs : List Res} {e : TypeId} {k g c n : Nat} {xs : List Value}
theorem run_copy_s (S : Sep W w rs) (j : Nat) (hj : rs[j]? = some (ownV e k (some ⟨g, 0, none⟩) c n xs)) (dT sT ty : TypeId) (i : TypeInfo) (hu : P.underlying dT = some (.slice e)) (hi : P.info? e = some i) (hs : i.size = k)
    (q dl dc sl sc : Nat) (A : Option Addr) (cs : List Value) (hn : cs.length = Nat.min sl dl * k) (B : Nat) (hr : Reads w B A cs) (hq : q + cs.length ≤ xs.length) (h1 : ∀ v ∈ cs, v.oneCell' = true) :
    (Builtin.copy_ #[dT, sT] ty #[.slice (some ⟨g, q, none⟩) dl dc, .slice A sl sc]).run P w = .ok (goInt (Nat.min sl dl)) (w.setCells g q cs) :=
  run_copy_src w dT sT ty e i k g q dl dc sl sc A cs hu hi hs hn B hr (fun m hm => by rw [(own_at S j hj).cell (q + m) (by omega)]; rfl) (fun m hm => (own_at S j hj).free (q + m)) h1
/-- copy into a row of one's own, from place q on (of cells). -/
theorem wpList_copy_s (S : Sep W w rs) (j : Nat) (hj : rs[j]? = some (ownV e k (some ⟨g, 0, none⟩) c n xs)) {ops : Array Oper} {rest : List Oper} {o : Oper} {act : Act} {Q : Exit → Act → World → Prop} (hgd : o.guard = none) (d s : Operand) (t t' : TypeId)
    (ho : o.op = .call { callee := .builtin .copy, args := #[d, s], argTypes := #[t, t'] }) (i : TypeInfo) (hu : P.underlying t = some (.slice e)) (hi : P.info? e = some i) (hs : i.size = k)
    (q dl dc : Nat) (hd : act.eval d = .slice (some ⟨g, q, none⟩) dl dc) (A : Option Addr) (sl sc : Nat) (hx : act.eval s = .slice A sl sc) (B : Nat) (cs : List Value) (hr : Reads w B A cs) (hn : cs.length = Nat.min sl dl * k) (hq : q + cs.length ≤ xs.length) (h1 : ∀ v ∈ cs, v.oneCell' = true)
    (h : ∀ w', Sep W w' (rs.set j (ownV e k (some ⟨g, 0, none⟩) c n (over xs q cs))) → wpList P ops Q rest (act.put o.dst (goInt (Nat.min sl dl))) w') : wpList P ops Q (o :: rest) act w := by
  refine wpList_plain hgd fun K hK => ?_
  have hrun := run_copy_s (P := P) S j hj t t' o.type i hu hi hs q dl dc sl sc A cs hn B hr hq h1
  unfold Oper.wp execOp
  simp only [ho, resolve, invoke, builtin, Sem.run_bind, Sem.run_pure, Result.andThen_ok, List.map_toArray, List.map_cons, List.map_nil, hd, hx, hrun]
  exact hK _ _ (h _ (put_run S j hj q cs hq))
/-- The same at a step of a region that draws its order. -/
theorem step_copy_s (S : Sep W w rs) (j : Nat) (hj : rs[j]? = some (ownV e k (some ⟨g, 0, none⟩) c n xs)) {ops : Array Oper} {o : Oper} {act : Act} {K : Act → World → Prop} {Q : Exit → Act → World → Prop} {E : Prop} (hgd : o.guard = none) (d s : Operand) (t t' : TypeId)
    (ho : o.op = .call { callee := .builtin .copy, args := #[d, s], argTypes := #[t, t'] }) (i : TypeInfo) (hu : P.underlying t = some (.slice e)) (hi : P.info? e = some i) (hs : i.size = k)
    (q dl dc : Nat) (hd : act.eval d = .slice (some ⟨g, q, none⟩) dl dc) (A : Option Addr) (sl sc : Nat) (hx : act.eval s = .slice A sl sc) (B : Nat) (cs : List Value) (hr : Reads w B A cs) (hn : cs.length = Nat.min sl dl * k) (hq : q + cs.length ≤ xs.length) (h1 : ∀ v ∈ cs, v.oneCell' = true)
    (h : ∀ w', Sep W w' (rs.set j (ownV e k (some ⟨g, 0, none⟩) c n (over xs q cs))) → K (act.put o.dst (goInt (Nat.min sl dl))) w') : if Region.wanted o (yielded ops act.tmps) = true then Oper.wp P o act w K Q else E := by
  have hw : Region.wanted o (yielded ops act.tmps) = true := by simp [Region.wanted, hgd]
  rw [if_pos hw]
  have hrun := run_copy_s (P := P) S j hj t t' o.type i hu hi hs q dl dc sl sc A cs hn B hr hq h1
  unfold Oper.wp execOp
  simp only [ho, resolve, invoke, builtin, Sem.run_bind, Sem.run_pure, Result.andThen_ok, List.map_toArray, List.map_cons, List.map_nil, hd, hx, hrun]
  exact h _ (put_run S j hj q cs hq)
/-- make([]T, n): n zero elements of one's own. -/
theorem wpList_make_s (S : Sep W w rs) {ops : Array Oper} {rest : List Oper} {o : Oper} {act : Act} {Q : Exit → Act → World → Prop} (hg : o.guard = none) (l cc : Operand) (t : TypeId) (hop : o.op = Op.makeSlice t l cc)
    (e : TypeId) (i : TypeInfo) (z : Value) (k : Nat) (h1 : P.underlying t = some (.slice e)) (h2 : P.info? e = some i) (h3 : i.zero = some z) (h4 : i.size = k)
    (kl kc : IntKind) (n : Nat) (hl : act.eval l = .int kl n) (hc : act.eval cc = .int kc n) (b2 : i.bytes * n ≤ 281474976710656) (b3 : n ≤ maxLen)
    (hK : ∀ w', Sep W w' (rs ++ [ownV e k (some ⟨w.heap.size, 0, none⟩) n n (madeCells z.cells (n * k)).toList]) → wpList P ops Q rest (act.put o.dst (.slice (some ⟨w.heap.size, 0, none⟩) n n)) w') : wpList P ops Q (o :: rest) act w :=
  wpList_make_full w hg l cc t hop w.heap.size e i z k h1 h2 h3 h4 kl kc n n n hl hc rfl rfl b2 b3 (Nat.le_refl _) fun w' h5 h6 =>
    hK w' (push_own S (by
      have := Turned.of_grown h6
      exact this.below (Nat.le_refl _) (fun b hb => by simp at hb)) h5)
/-- clear(s), s a row of one's own from place q on (of cells). -/
theorem wpList_clear_s (S : Sep W w rs) (j : Nat) (hj : rs[j]? = some (ownV e k (some ⟨g, 0, none⟩) c n xs)) {ops : Array Oper} {rest : List Oper} {o : Oper} {act : Act} {Q : Exit → Act → World → Prop} (hgd : o.guard = none) (s : Operand) (t : TypeId)
    (ho : o.op = .call { callee := .builtin .clear, args := #[s], argTypes := #[t] }) (i : TypeInfo) (z : Value) (hu : P.underlying t = some (.slice e)) (hi : P.info? e = some i) (hz : i.zero = some z) (hs : z.cells.size = k)
    (q m mc : Nat) (hx : act.eval s = .slice (some ⟨g, q, none⟩) m mc) (hq : q + m * k ≤ xs.length) (h1 : ∀ v ∈ (Builtin.zeroCells z.cells m).toList, v.oneCell' = true)
    (h : ∀ w', Sep W w' (rs.set j (ownV e k (some ⟨g, 0, none⟩) c n (over xs q (Builtin.zeroCells z.cells m).toList))) → wpList P ops Q rest (act.put o.dst (.tuple #[])) w') : wpList P ops Q (o :: rest) act w := by
  refine wpList_plain hgd fun K hK => ?_
  have hrun := run_clear_rows (P := P) w t e o.type i z g q m mc hu hi hz (fun m' hm => by rw [(own_at S j hj).cell (q + m') (by rw [hs] at hm; omega)]; rfl) (fun m' hm => (own_at S j hj).free (q + m')) h1
  unfold Oper.wp execOp
  simp only [ho, resolve, invoke, builtin, Sem.run_bind, Sem.run_pure, Result.andThen_ok, List.map_toArray, List.map_cons, List.map_nil, hx, hrun]
  exact hK _ _ (h _ (put_run S j hj q _ (by rw [Array.length_toList, size_zeroCells, hs]; exact hq)))
/-- append(s, make([]T, m)...) where there is no room: a new row. -/
theorem wpList_zeros_s (S : Sep W w rs) {ops : Array Oper} {rest : List Oper} {o : Oper} {act : Act} {Q : Exit → Act → World → Prop} (hgd : o.guard = none) (s x : Operand) (t tn : TypeId)
    (ho : o.op = .call { callee := .builtin .append, args := #[s, x], argTypes := #[t, tn] }) (e : TypeId) (i : TypeInfo) (z : Value) (k bytes : Nat) (kq kn : IntKind) (ht : P.underlying t = some (.slice e)) (htn : P.underlying tn = some (.int kn)) (hi : P.info? e = some i) (hz : i.zero = some z)
    (hs : i.size = k) (hby : i.bytes = bytes) (hzs : z.cells.size = k) (hk : 0 < k) (ad : Addr) (l c m : Nat) (hsv : act.eval s = .slice (some ad) l c) (hxv : act.eval x = .int kq m) (B : Nat) (ys : List Value) (hr : Reads w B (some ad) ys) (hl : ys.length = l * k)
    (h0 : 0 < m) (hg : c < l + m) (h63 : l + m ≤ maxLen) (hbytes : (l + m) * bytes ≤ 140737488355328)
    (h : ∀ w' C, l + m ≤ C → Sep W w' (rs ++ [ownV e k (some ⟨w.heap.size, 0, none⟩) C (l + m) (ys ++ (Builtin.zeroCells z.cells m).toList)]) → wpList P ops Q rest (act.put o.dst (.slice (some ⟨w.heap.size, 0, none⟩) (l + m) C)) w') : wpList P ops Q (o :: rest) act w := by
  refine wpList_plain hgd fun K hK => ?_
  have hold : (Builtin.firstCells i.size l (.slice (some ad) l c)).run P w.drew = .ok ys.toArray w.drew := by
    rw [hs]
    exact run_firstCells_some w.drew k l ad l c ys hl (fun j v hj => by
      obtain ⟨hjl, rfl⟩ := List.getElem?_eq_some_iff.1 hj
      obtain ⟨ad', h, _, h2⟩ := hr j hjl
      injection h with h
      subst h
      exact h2)
  have hm : ((l + m : Nat) : Int) ≤ 9223372036854775807 := by
    have := h63
    unfold maxLen at this
    omega
  have hrun := Lib.run_append_grow_zeros (P := P) w t tn o.type e i z kq kn ht htn hi hz (some ad) l c ys hold m h0 (by omega) hg hm (by rw [hby]; have := Nat.mul_le_mul_right bytes (show m ≤ l + m by omega); omega) (by rw [hby]; exact growslice_fits hg hbytes)
  have hge := grownCap_ge w (l + m) c e
  have hle := grownCap_le_maxLen w (l + m) c e h63
  obtain ⟨G, hG⟩ : ∃ G, G = grownCap w (l + m) c e := ⟨_, rfl⟩
  rw [← hG] at hrun hge hle
  unfold Oper.wp execOp
  simp only [ho, resolve, invoke, builtin, Sem.run_bind, Sem.run_pure, Result.andThen_ok, List.map_toArray, List.map_cons, List.map_nil, hsv, hxv, hrun]
  refine hK _ _ (h _ G hge (push_own S ((Below.refl _ _).drew.alloc (Nat.le_refl _) _) ?_))
  refine ⟨by simp only [List.length_append, Array.length_toList, size_zeroCells, hl, hzs, Nat.add_mul], .inr ⟨w.heap.size, G, _, rfl, Nat.le_refl _, heap_alloc_new w.drew _, hge, hle, ?_, ?_⟩⟩
  · simp only [Array.size_append, size_zeroCells, hzs, List.size_toArray, hl]
    rw [← Nat.add_mul, ← Nat.add_mul]
    congr 1
    omega
  · simp only [Array.toList_append, List.append_assoc]
    rw [← List.append_assoc, List.take_left' (by simp only [List.length_append, Array.length_toList, size_zeroCells, hl, hzs, Nat.add_mul])]
/-- append(s, v...) where there is no room: a new row. -/
theorem wpList_grow_s (S : Sep W w rs) {ops : Array Oper} {rest : List Oper} {o : Oper} {act : Act} {Q : Exit → Act → World → Prop} (hgd : o.guard = none) (s x : Operand) (t : TypeId)
    (ho : o.op = .call { callee := .builtin .append, args := #[s, x], argTypes := #[t, t] }) (e : TypeId) (i : TypeInfo) (z : Value) (k bytes : Nat) (ht : P.underlying t = some (.slice e)) (hi : P.info? e = some i) (hz : i.zero = some z)
    (hs : i.size = k) (hby : i.bytes = bytes) (hzs : z.cells.size = k) (ad : Addr) (l c : Nat) (hsv : act.eval s = .slice (some ad) l c) (B : Nat) (ys : List Value) (hr : Reads w B (some ad) ys) (hl : ys.length = l * k)
    (ad2 : Addr) (m c2 : Nat) (hxv : act.eval x = .slice (some ad2) m c2) (B2 : Nat) (vs : List Value) (hv : Reads w B2 (some ad2) vs) (hvl : vs.length = m * k) (h1 : ∀ u ∈ vs, u.oneCell' = true)
    (hg : c < l + m) (h63 : l + m ≤ maxLen) (hbytes : (l + m) * bytes ≤ 140737488355328)
    (h : ∀ w' C, l + m ≤ C → Sep W w' (rs ++ [ownV e k (some ⟨w.heap.size, 0, none⟩) C (l + m) (ys ++ vs)]) → wpList P ops Q rest (act.put o.dst (.slice (some ⟨w.heap.size, 0, none⟩) (l + m) C)) w') : wpList P ops Q (o :: rest) act w := by
  refine wpList_plain hgd fun K hK => ?_
  have rd : ∀ {w' : World} {B : Nat} {ad : Addr} {ys : List Value}, Reads w' B (some ad) ys → ∀ j v, ys[j]? = some v → w'.cell? (ad.add j) = some v := fun hr j v hj => by
    obtain ⟨hjl, rfl⟩ := List.getElem?_eq_some_iff.1 hj
    obtain ⟨ad', h, _, h2⟩ := hr j hjl
    injection h with h
    subst h
    exact h2
  have hold : (Builtin.firstCells i.size l (.slice (some ad) l c)).run P w.drew = .ok ys.toArray w.drew := by
    rw [hs]
    exact run_firstCells_some w.drew k l ad l c ys hl (rd (w' := w) hr)
  have hsrc : Src P i.size t (.slice (some ad2) m c2) m vs w := Src.ofSlice w ht ad2 m c2 vs (by rw [hs]; exact hvl) (rd hv) h1
  have hm : ((l + m : Nat) : Int) ≤ 9223372036854775807 := by
    have := h63
    unfold maxLen at this
    omega
  have hrun := run_append_grow_src (P := P) w t t o.type e i z ht hi hz (some ad) l c ys hold _ m vs hsrc hg hm (by rw [hby]; exact growslice_fits hg hbytes)
  have hge := grownCap_ge w (l + m) c e
  have hle := grownCap_le_maxLen w (l + m) c e h63
  obtain ⟨G, hG⟩ : ∃ G, G = grownCap w (l + m) c e := ⟨_, rfl⟩
  rw [← hG] at hrun hge hle
  unfold Oper.wp execOp
  simp only [ho, resolve, invoke, builtin, Sem.run_bind, Sem.run_pure, Result.andThen_ok, List.map_toArray, List.map_cons, List.map_nil, hsv, hxv, hrun]
  refine hK _ _ (h _ G hge (push_own S ((Below.refl _ _).drew.alloc (Nat.le_refl _) _) ?_))
  refine ⟨by rw [List.length_append, hl, hvl, Nat.add_mul], .inr ⟨w.heap.size, G, _, rfl, Nat.le_refl _, heap_alloc_new w.drew _, hge, hle, ?_, ?_⟩⟩
  · simp only [Array.size_append, size_zeroCells, hzs, List.size_toArray, List.length_append, hl, hvl]
    rw [← Nat.add_mul, ← Nat.add_mul]
    congr 1
    omega
  · simp only [Array.toList_append]
    rw [List.take_left' (by rw [List.length_append, hl, hvl, Nat.add_mul])]
end
end Go.Proofs.Ytephiilicebdcaa.Run
