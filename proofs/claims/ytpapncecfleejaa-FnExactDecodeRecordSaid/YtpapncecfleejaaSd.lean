/-
  The draws' cursor as one of several things that lie apart; a draw of a number, an append and a made slice on this level; l1Bytes and the draws' start. No condition but that the code is a slice of bytes of at most 2^62 places.
-/
import Derived.Test.YtpapncecfleejaaLaw
import Derived.Test.YtpapncecfleejaaDraw1
import Derived.Test.YtpapncecfleejaaL2Num
namespace Go.Proofs.Ytpapncecfleejaa.Sd
set_option maxRecDepth 100000
open Go.ChangeShapes Go.WideShapes Go.ChangeAt Go.RowKit Mem Sl Ex Draw

theorem set_same {α : Type} : ∀ {l : List α} {i : Nat} {x : α}, l[i]? = some x → l.set i x = l
  | [], _, _, h => by simp at h
  | y :: l, 0, x, h => by simp at h; simp [h]
  | y :: l, i + 1, x, h => by simp at h; simp [set_same h]
theorem at_left {α : Type} {l m : List α} {i : Nat} {x : α} (h : l[i]? = some x) : (l ++ m)[i]? = some x := by
  rw [List.getElem?_append_left (List.getElem?_eq_some_iff.1 h).1]; exact h
theorem at_last {α : Type} (l : List α) (x : α) : (l ++ [x])[l.length]? = some x := by simp
theorem set_last {α : Type} (l : List α) (x y : α) : (l ++ [x]).set l.length y = l ++ [y] := by simp

section
variable {W w w' : World} {rs : List Res} {r r' : Res}
/-- A thing is put in another's place; it may lie in new blocks. -/
theorem put_new (h : Sep W w rs) (i : Nat) (hi : rs[i]? = some r) (ht : Turned r.fp w w') (hr : r'.is w') (hf : ∀ b ∈ r'.fp, b ∈ r.fp ∨ (w.heap.size ≤ b ∧ b < w'.heap.size)) : Sep W w' (rs.set i r') := by
  have hlt : i < rs.length := (List.getElem?_eq_some_iff.1 hi).1
  have hsz := h.old.size
  have hcase : ∀ (j : Nat) (s : Res), (rs.set i r')[j]? = some s → (j ≠ i ∧ rs[j]? = some s) ∨ (j = i ∧ s = r') := fun j s hj => by
    rw [List.getElem?_set] at hj
    by_cases e : i = j
    · subst e
      rw [if_pos rfl, if_pos hlt] at hj
      exact .inr ⟨rfl, (Option.some.inj hj).symm⟩
    · rw [if_neg e] at hj
      exact .inl ⟨fun e' => e e'.symm, hj⟩
  refine ⟨h.old.trans (ht.below h.old.size (fun b hm => (h.lies i r hi b hm).1)), fun j s hj => ?_, fun j s hj b hm => ?_, fun j k s t hj hk hne b hm hm2 => ?_⟩
  · rcases hcase j s hj with ⟨hne, h1⟩ | ⟨rfl, rfl⟩
    · exact s.loc (fun b hm => ht.block b (h.lies j s h1 b hm).2 (h.apart j i s r h1 hi hne b hm)) (h.is j s h1)
    · exact hr
  · rcases hcase j s hj with ⟨hne, h1⟩ | ⟨rfl, rfl⟩
    · exact ⟨(h.lies j s h1 b hm).1, Nat.lt_of_lt_of_le (h.lies j s h1 b hm).2 ht.size⟩
    · rcases hf b hm with h2 | h2
      · exact ⟨(h.lies _ r hi b h2).1, Nat.lt_of_lt_of_le (h.lies _ r hi b h2).2 ht.size⟩
      · exact ⟨by omega, h2.2⟩
  · rcases hcase j s hj with ⟨hne1, h1⟩ | ⟨rfl, rfl⟩ <;> rcases hcase k t hk with ⟨hne2, h2⟩ | ⟨rfl, rfl⟩
    · exact h.apart j k s t h1 h2 hne b hm hm2
    · rcases hf b hm2 with h3 | h3
      · exact h.apart j _ s r h1 hi hne1 b hm h3
      · have := (h.lies j s h1 b hm).2; omega
    · rcases hf b hm with h3 | h3
      · exact h.apart k _ t r h2 hi hne2 b hm2 h3
      · have := (h.lies k t h2 b hm2).2; omega
    · exact hne rfl
end

/-- The cursor: its block; the code that it reads lies in the memory of the start. -/
def curR (W : World) (c : Nat) : Res where
  fp := [c]
  is w := ∃ (a : Option Addr) (len cap i : Nat) (h : Int), Row w c 94 #[.slice a len cap, .int .i64 i, .int .i64 h] ∧ i ≤ len ∧ len ≤ 4611686018427387904 ∧ Bytes W W.heap.size a len
  loc := fun hs ⟨a, len, cap, i, h, hr, r⟩ => ⟨a, len, cap, i, h, (hs c (by simp)).trans hr, r⟩

section
variable {W w w' : World} {rs : List Res} {c : Nat}
theorem cur_of (h : Sep W w rs) (i : Nat) (hi : rs[i]? = some (curR W c)) : Cur W.heap.size w c := by
  obtain ⟨a, len, cap, j, x, hr, h1, h2, h3⟩ := h.is i _ hi
  exact ⟨(h.lies i _ hi c (by simp [curR])).1, a, len, cap, j, x, hr, h1, h2, h3.below h.old⟩
theorem cur_on (h : Sep W w rs) (i : Nat) (hi : rs[i]? = some (curR W c)) : On W.heap.size c w w := On.start (cur_of h i hi)
theorem bytes_back {B : Nat} {a : Option Addr} {len : Nat} (h : Bytes w' B a len) (hb : Below B w w') : Bytes w B a len := fun j hj => by
  obtain ⟨ad, n, e, hB, hc, h0, h1⟩ := h j hj
  exact ⟨ad, n, e, hB, by rw [← hb.cell (by rw [add_block]; exact hB)]; exact hc, h0, h1⟩
theorem cur_is (hc : Cur W.heap.size w c) (hb : Below W.heap.size W w) : (curR W c).is w := by
  obtain ⟨_, a, len, cap, j, x, hr, h1, h2, h3⟩ := hc
  exact ⟨a, len, cap, j, x, hr, h1, h2, bytes_back h3 hb⟩
theorem moved (h : Sep W w rs) (i : Nat) (hi : rs[i]? = some (curR W c)) (ho : On W.heap.size c w w') : Sep W w' rs := by
  have ht : Turned (curR W c).fp w w' := Turned.of_grown ho.2
  have hb : Below W.heap.size W w' := h.old.trans (ht.below h.old.size (fun b hm => (h.lies i _ hi b hm).1))
  have := h.put i hi (r' := curR W c) ht (cur_is ho.1 hb) (fun b hb => hb)
  rwa [set_same hi] at this
/-- A draw of a number. -/
theorem num {F : Nat} {args : Array Value} {Q : Int → Prop} (h : Sep W w rs) (i : Nat) (hi : rs[i]? = some (curR W c)) (hC : Calls Try.prog F args w (Num W.heap.size c w Q)) :
    Calls Try.prog F args w fun e w' => ∃ n, e = .returned (.int .i64 n) ∧ Q n ∧ Sep W w' rs :=
  hC.mono fun _ _ ⟨n, he, hq, ho⟩ => ⟨n, he, hq, moved h i hi ho⟩
end

section
variable {W w : World} {rs : List Res} {c : Nat}
theorem byte_s (h : Sep W w rs) (i : Nat) (hi : rs[i]? = some (curR W c)) :
    Calls Try.prog 85 #[.pointer (some ⟨c, 0, none⟩)] w fun e w' => ∃ n, e = .returned (.int .i64 n) ∧ (0 ≤ n ∧ n ≤ 255) ∧ Sep W w' rs := num h i hi (l1Byte_on (cur_on h i hi))
theorem below_s (h : Sep W w rs) (i : Nat) (hi : rs[i]? = some (curR W c)) (n : Int) (h1 : 1 ≤ n) (h2 : n ≤ 9223372036854775807) :
    Calls Try.prog 63 #[.pointer (some ⟨c, 0, none⟩), .int .i64 n] w fun e w' => ∃ r, e = .returned (.int .i64 r) ∧ (0 ≤ r ∧ r < n) ∧ Sep W w' rs := num h i hi (l1Below_on n h1 h2 (cur_on h i hi))
theorem once_s (h : Sep W w rs) (i : Nat) (hi : rs[i]? = some (curR W c)) (n : Int) (h1 : 1 ≤ n) (h2 : n ≤ 9223372036854775807) :
    Calls Try.prog 60 #[.pointer (some ⟨c, 0, none⟩), .int .i64 n] w fun e w' => ∃ b : Bool, e = .returned (.bool b) ∧ Sep W w' rs :=
  (l1Once_on n h1 h2 (cur_on h i hi)).mono fun _ _ ⟨b, he, ho⟩ => ⟨b, he, moved h i hi ho⟩
/-- A number of a list that was just laid. -/
theorem int_s (h : Sep W w rs) (i : Nat) (hi : rs[i]? = some (curR W c)) (l : List Int) (Q : Int → Prop) (hQ : ∀ v ∈ l, Q v) (h1 : 1 ≤ l.length) (h2 : l.length ≤ 1000) :
    Calls Try.prog 49 #[.pointer (some ⟨c, 0, none⟩), .slice (some ⟨w.heap.size, 0, none⟩) l.length l.length] (w.alloc (.cells (l.map (Value.int .i64)).toArray 3)) fun e w' => ∃ r, e = .returned (.int .i64 r) ∧ Q r ∧ Sep W w' rs :=
  num (h.alloc _) i hi (l1Int_on w.heap.size l.length h1 h2 (ints_lit w 3 l Q hQ) (by simp) (fun e => by have := (cur_on h i hi).lt; omega) (cur_on (h.alloc _) i hi))
theorem new_s (h : Sep W w rs) (a : Option Addr) (len cap : Nat) (hlen : len ≤ 4611686018427387904) (hby : Bytes W W.heap.size a len) :
    Calls Try.prog 46 #[.slice a len cap] w fun e w' => ∃ c, e = .returned (.pointer (some ⟨c, 0, none⟩)) ∧ Sep W w' (rs ++ [curR W c]) :=
  (l1New_on a len cap h.old.size hlen (hby.below h.old)).mono fun _ w' ⟨c, he, hc, hcur, hb⟩ => ⟨c, he, by
    have hlt : c < w'.heap.size := by
      obtain ⟨_, a, len, cap, j, x, hr, _⟩ := hcur
      exact hr.inside
    exact h.push hb (cur_is hcur (h.old.trans (hb.mono h.old.size))) (fun b hm => by simp [curR] at hm; subst hm; exact ⟨hc, hlt⟩)⟩
end

/-! ### append -/
section
variable {P : Program} (w : World)
theorem run_append_own (B : Nat) (t ty e : TypeId) (i : TypeInfo) (z : Value) (bytes : Nat) (ht : P.underlying t = some (.slice e)) (hi : P.info? e = some i) (hz : i.zero = some z)
    (hsize : i.size = 1) (hby : i.bytes = bytes) (hzs : z.cells.size = 1) (k : IntKind) (a : Option Addr) (c : Nat) (l : List Int) (hown : Own w B e k a c l)
    (B' : Nat) (A : Option Addr) (c' : Nat) (m : List Int) (hr : Reads w B' A (ints k m))
    (h63 : l.length + m.length ≤ maxLen) (hbytes : (l.length + m.length) * bytes ≤ 140737488355328) (hbase : B ≤ w.heap.size) :
    ∃ a1 c1 w', (Builtin.append_ #[t, t] ty #[.slice a l.length c, .slice A m.length c']).run P w = .ok (.slice a1 (l.length + m.length) c1) w' ∧ Own w' B e k a1 c1 (l ++ m) ∧ w.grownBy w' (Value.slice a l.length c).ownBlock ∧
      ((Value.slice a1 (l ++ m).length c1).ownBlock = (Value.slice a l.length c).ownBlock ∨ (Value.slice a1 (l ++ m).length c1).ownBlock = some w.heap.size) := by
  have fin : ∀ {v' : Value} {w' : World}, w'.ownsRow B e 1 v' (l.length + m.length) (ints k l ++ ints k m) → ∃ a1 c1, v' = .slice a1 (l.length + m.length) c1 ∧ Own w' B e k a1 c1 (l ++ m) := by
    intro v' w' h
    rw [← ints_append] at h
    rcases h.2 with ⟨rfl, hn⟩ | ⟨g, cap, cur, rfl, _⟩
    · refine ⟨none, 0, by rw [hn], ?_⟩
      unfold Own
      rw [List.length_append, hn]
      rw [hn] at h
      exact h
    · refine ⟨_, cap, rfl, ?_⟩
      unfold Own
      rw [List.length_append]
      exact h
  rcases A with _ | ad
  · have hm : m = [] := by
      rcases m with _ | ⟨x, m⟩
      · rfl
      · obtain ⟨ad, h, _⟩ := hr 0 (by simp)
        cases h
    subst hm
    have hrun : (Builtin.append_ #[t, t] ty #[.slice a l.length c, .slice none 0 c']).run P w = .ok (.slice a l.length c) w := by
      rcases hown.form with ⟨rfl, rfl, rfl⟩ | ⟨g, rfl, _, _, h1, _⟩
      · simp [Builtin.append_, run_underlying ht, sizeOf, typeInfo, hi, Builtin.lenOf, Builtin.firstCells]
      · simp [Builtin.append_, run_underlying ht, sizeOf, typeInfo, hi, Builtin.lenOf, Builtin.firstCells, h1, storeCells]
    exact ⟨a, c, w, by simpa using hrun, by simpa using hown, grownBy_refl w _, .inl (by simp)⟩
  · have hcells : ∀ j u, (ints k m)[j]? = some u → w.cell? (ad.add j) = some u := by
      intro j u hu
      have hj := (List.getElem?_eq_some_iff.1 hu).1
      obtain ⟨ad', h, _, hc⟩ := hr j hj
      injection h with h
      subst h
      rw [hc, ← hu, List.getElem?_eq_getElem hj]
    obtain ⟨v', w', hrun, h2, h3, -, h5⟩ := run_append_own_at (P := P) w B t ty e i z 1 bytes ht hi hz hsize hby hzs (by omega) _ l.length (ints k l) hown ad m.length c' (ints k m) (by simp) hcells (ints_one k m) h63 hbytes hbase
    obtain ⟨a1, c1, rfl, ho⟩ := fin h2
    exact ⟨a1, c1, w', hrun, ho, h3, by rw [List.length_append]; exact h5⟩

theorem wpList_append_sep {ops : Array Oper} {rest : List Oper} {o : Oper} {act : Act} {Q : Exit → Act → World → Prop} (hgd : o.guard = none) (s x : Operand) (t : TypeId)
    (ho : o.op = .call { callee := .builtin .append, args := #[s, x], argTypes := #[t, t] })
    (e : TypeId) (i : TypeInfo) (z : Value) (bytes : Nat) (ht : P.underlying t = some (.slice e)) (hi : P.info? e = some i) (hz : i.zero = some z)
    (hsize : i.size = 1) (hby : i.bytes = bytes) (hzs : z.cells.size = 1) (k : IntKind) (a : Option Addr) (n c : Nat) (l : List Int) (hs : act.eval s = .slice a n c) (hn : n = l.length)
    (W : World) (rs : List Res) (hS : Sep W w rs) (ix : Nat) (hix : rs[ix]? = some (own e k a c l))
    (B' : Nat) (A : Option Addr) (n' c' : Nat) (m : List Int) (hx : act.eval x = .slice A n' c') (hn' : n' = m.length) (hr : Reads w B' A (ints k m))
    (h63 : l.length + m.length ≤ maxLen) (hbytes : (l.length + m.length) * bytes ≤ 140737488355328)
    (h : ∀ a1 c1 w', Sep W w' (rs.set ix (own e k a1 c1 (l ++ m))) → wpList P ops Q rest (act.put o.dst (.slice a1 (l.length + m.length) c1)) w') : wpList P ops Q (o :: rest) act w := by
  subst hn
  subst hn'
  refine wpList_plain hgd fun K hK => ?_
  obtain ⟨a1, c1, w', hrun, h2, h3, h4⟩ := run_append_own (P := P) w W.heap.size t o.type e i z bytes ht hi hz hsize hby hzs k a c l (hS.ownAt ix hix) B' A c' m hr h63 hbytes hS.old.size
  unfold Oper.wp execOp
  simp only [ho, resolve, invoke, builtin, Sem.run_bind, Sem.run_pure, Result.andThen_ok, List.map_toArray, List.map_cons, List.map_nil, hs, hx, hrun]
  refine hK _ _ (h a1 c1 w' (put_new hS ix hix (Turned.of_grown h3) (h2.base (Nat.zero_le _)) fun b hb => ?_))
  have hb' : (Value.slice a1 (l ++ m).length c1).ownBlock = some b := by simpa [own] using hb
  rcases h4 with h5 | h5
  · left
    have : (Value.slice a l.length c).ownBlock = some b := by rw [← h5]; exact hb'
    simpa [own] using this
  · right
    rw [hb'] at h5
    have hbe : b = w.heap.size := Option.some.inj h5
    have := h2.lt b (by simpa using hb')
    exact ⟨by omega, this.2⟩
end

theorem push_made {W w : World} {rs : List Res} (h : Sep W w rs) (e : TypeId) (k : IntKind) : Sep W (w.alloc (.cells #[] e)) (rs ++ [own e k (some ⟨w.heap.size, 0, none⟩) 0 []]) :=
  h.pushOwn ((Below.refl _ _).alloc (Nat.le_refl _) _) (Own.empty w e k (Nat.le_refl _))

theorem infoB : (Try.prog.info? 5).map (fun i => (i.zero, i.size, i.bytes)) = some (some (.int .u8 0), 1, 1) := by kernel_rfl
def Byts (l : List Int) : Prop := ∀ x ∈ l, 0 ≤ x ∧ x ≤ 255
theorem Byts.snoc {l : List Int} {x : Int} (h : Byts l) (h0 : 0 ≤ x) (h1 : x ≤ 255) : Byts (l ++ [x]) := fun y hy => by
  rcases List.mem_append.1 hy with h2 | h2
  · exact h y h2
  · simp at h2; subst h2; exact ⟨h0, h1⟩

end Go.Proofs.Ytpapncecfleejaa.Sd
