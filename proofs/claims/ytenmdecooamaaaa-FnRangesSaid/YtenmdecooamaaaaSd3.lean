/-
  Chapter 3's draws over several owned things that lie apart: a string of a list, l3Word, l3Words, DrawKeyedHash, DrawEncrypt, DrawDeriveFromString. No condition but that the code is a slice of bytes of at most 2^62 places.
-/
import Derived.Test.YtenmdecooamaaaaSd2
import Derived.Test.YtenmdecooamaaaaL3Enc
namespace Go.Proofs.Ytenmdecooamaaaa.Sd
open Go.ChangeShapes Go.WideShapes Go.ChangeAt Go.RowKit Mem Sl Ex Draw L2

theorem info64s : (Try.prog.info? 3).map (fun i => (i.zero, i.size, i.bytes)) = some (some (.int .i64 0), 1, 8) := by kernel_rfl
theorem mul_word {x y : Int} (h0 : 0 ≤ x) (h1 : x < 1000000) (h2 : 0 ≤ y) (h3 : y < 2000) : -1 ≤ wrap64 (x * y) ∧ wrap64 (x * y) ≤ 2147483648 := by
  have a := Int.mul_nonneg h0 h2
  have b : x * y ≤ 999999 * 1999 := Int.mul_le_mul (by omega) (by omega) h2 (by decide)
  rw [← IntWalk.i64_left, IntWalk.i64_in _ ⟨by omega, by omega⟩]
  omega
/-- wpList_append_sep at an operation that a '&&' or '||' guards: the guard is met. -/
theorem wpList_append_sepg {P : Program} (w : World) {ops : Array Oper} {rest : List Oper} {o : Oper} {act : Act} {Q : Exit → Act → World → Prop} (hgd : Region.wanted o (yielded ops act.tmps) = true) (s x : Operand) (t : TypeId)
    (ho : o.op = .call { callee := .builtin .append, args := #[s, x], argTypes := #[t, t] })
    (e : TypeId) (i : TypeInfo) (z : Value) (bytes : Nat) (ht : P.underlying t = some (.slice e)) (hi : P.info? e = some i) (hz : i.zero = some z)
    (hsize : i.size = 1) (hby : i.bytes = bytes) (hzs : z.cells.size = 1) (k : IntKind) (a : Option Addr) (n c : Nat) (l : List Int) (hs : act.eval s = .slice a n c) (hn : n = l.length)
    (W : World) (rs : List Res) (hS : Sep W w rs) (ix : Nat) (hix : rs[ix]? = some (own e k a c l))
    (B' : Nat) (A : Option Addr) (n' c' : Nat) (m : List Int) (hx : act.eval x = .slice A n' c') (hn' : n' = m.length) (hr : Reads w B' A (ints k m))
    (h63 : l.length + m.length ≤ maxLen) (hbytes : (l.length + m.length) * bytes ≤ 140737488355328)
    (h : ∀ a1 c1 w', Sep W w' (rs.set ix (own e k a1 c1 (l ++ m))) → wpList P ops Q rest (act.put o.dst (.slice a1 (l.length + m.length) c1)) w') : wpList P ops Q (o :: rest) act w := by
  subst hn
  subst hn'
  refine wpList_step fun K hK => ?_
  rw [if_pos hgd]
  obtain ⟨a1, c1, w', hrun, h2, h3, h4⟩ := run_append_own (P := P) w W.heap.size t o.type e i z bytes ht hi hz hsize hby hzs k a c l (hS.ownAt ix hix) B' A c' m hr h63 hbytes hS.old.size
  unfold Oper.wp execOp
  simp only [ho, resolve, invoke, builtin, Sem.run_bind, Sem.run_pure, Result.andThen_ok, List.map_toArray, List.map_cons, List.map_nil, hs, hx, hrun]
  refine hK _ _ (h a1 c1 w' (put_new hS ix hix (Turned.of_grown h3) (h2.base (Nat.zero_le _)) fun b hb => ?_))
  have hb' : (Value.slice a1 (l ++ m).length c1).ownBlock = some b := by simpa [own] using hb
  rcases h4 with h5 | h5
  · left
    have : (Value.slice a l.length c).ownBlock = some b := by rw [← h5]; exact hb'
    simpa [own] using this
  · right
    rw [hb'] at h5
    have hbe : b = w.heap.size := Option.some.inj h5
    have := h2.lt b (by simpa using hb')
    exact ⟨by omega, this.2⟩
/-- A list of one that was just laid is an owned thing. -/
theorem push_lit {W w : World} {rs : List Res} (h : Sep W w rs) (e : TypeId) (k : IntKind) (x : Int) : Sep W (w.alloc (.cells #[.int k x] e)) (rs ++ [own e k (some ⟨w.heap.size, 0, none⟩) 1 [x]]) :=
  h.pushOwn ((Below.refl _ _).alloc (Nat.le_refl _) _) (L3.own_lit w e k [x] (Nat.le_refl _) (by simp [maxLen]))
section
variable {W w : World} {rs : List Res} {e : TypeId} {k : IntKind} {g c : Nat} {l : List Int}
theorem cell_s (h : Sep W w rs) (j : Nat) (hj : rs[j]? = some (own e k (some ⟨g, 0, none⟩) c l)) (i : Nat) (hi : i < l.length) : w.cell? ⟨g, i, none⟩ = some (.int k l[i]) ∧ w.frozen? ⟨g, i, none⟩ = false := by
  have ho : w.ownsRow 0 e 1 (.slice (some ⟨g, 0, none⟩) l.length c) l.length (ints k l) := h.own j hj
  have h1 := ho.cellAt i (by omega)
  rw [List.getElem?_eq_getElem (by simpa using hi), ints_get k l i hi] at h1
  exact ⟨h1, ho.frozenAt i⟩
/-- A store into one cell of an owned row. -/
theorem set_s (h : Sep W w rs) (j : Nat) (hj : rs[j]? = some (own e k (some ⟨g, 0, none⟩) c l)) (i : Nat) (v : Int) : Sep W (w.setCell ⟨g, i, none⟩ (.int k v)) (rs.set j (own e k (some ⟨g, 0, none⟩) c (l.set i v))) := by
  have ho : w.ownsRow 0 e 1 (.slice (some ⟨g, 0, none⟩) l.length c) l.length (ints k l) := h.own j hj
  obtain ⟨h1, h2⟩ := ho.stored i (.int k v)
  have h3 : Own (w.setCell ⟨g, i, none⟩ (.int k v)) 0 e k (some ⟨g, 0, none⟩) c (l.set i v) := by
    unfold Own
    rw [List.length_set, show ints k (l.set i v) = (ints k l).set i (.int k v) by unfold ints; rw [List.map_set]]
    exact h1
  exact h.put j hj (Turned.of_grown h2) h3 (fun b hb => by simpa [own, Value.ownBlock] using hb)
end

section
variable {W w : World} {rs : List Res} {c : Nat}
/-- A string of a list that was just laid. -/
theorem str_s (h : Sep W w rs) (i : Nat) (hi : rs[i]? = some (curR W c)) (l : List ByteArray) (P : ByteArray → Prop) (hP : ∀ v ∈ l, P v) (n : Nat) (hn : n = l.length) (h1 : 1 ≤ n) (h2 : n ≤ 1000) :
    Calls Try.prog 54 #[.pointer (some ⟨c, 0, none⟩), .slice (some ⟨w.heap.size, 0, none⟩) n n] (w.alloc (.cells (l.map Value.string).toArray 9)) fun e w' => ∃ s, e = .returned (.string s) ∧ P s ∧ Sep W w' rs := by
  subst hn
  exact (l1Str_on w.heap.size l.length h1 h2 (strs_lit w 9 l P hP) (by simp) (fun e => by have := (cur_on h i hi).lt; omega) (cur_on (h.alloc _) i hi)).mono fun _ _ ⟨s, he, hs, ho⟩ => ⟨s, he, hs, moved (h.alloc _) i hi ho⟩
def Words (l : List Int) : Prop := ∀ x ∈ l, -1 ≤ x ∧ x ≤ 2147483648
theorem Words.snoc {l : List Int} {x : Int} (h : Words l) (h0 : -1 ≤ x ∧ x ≤ 2147483648) : Words (l ++ [x]) := fun y hy => by
  rcases List.mem_append.1 hy with h2 | h2
  · exact h y h2
  · simp at h2; subst h2; exact h0
end

section
variable {W w : World} {rs : List Res} {a : Option Addr} {len : Nat}
end
end Go.Proofs.Ytenmdecooamaaaa.Sd
