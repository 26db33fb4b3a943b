/-
  Chapter 3's draws over several owned things that lie apart: a string of a list, l3Word, l3Words, DrawKeyedHash, DrawEncrypt, DrawDeriveFromString. No condition but that the code is a slice of bytes of at most 2^62 places.
-/
import Derived.Test.YtkgmiaoecedjdaaSd2
import Derived.Test.YtkgmiaoecedjdaaL3Enc
namespace Go.Proofs.Ytkgmiaoecedjdaa.Sd
open Go.ChangeShapes Go.WideShapes Go.ChangeAt Go.RowKit Mem Sl Ex Draw L2

theorem info64s : (Try.prog.info? 3).map (fun i => (i.zero, i.size, i.bytes)) = some (some (.int .i64 0), 1, 8) := by kernel_rfl
theorem mul_word {x y : Int} (h0 : 0 ≤ x) (h1 : x < 1000000) (h2 : 0 ≤ y) (h3 : y < 2000) : -1 ≤ wrap64 (x * y) ∧ wrap64 (x * y) ≤ 2147483648 := by
  have a := Int.mul_nonneg h0 h2
  have b : x * y ≤ 999999 * 1999 := Int.mul_le_mul (by omega) (by omega) h2 (by decide)
  rw [← IntWalk.i64_left, IntWalk.i64_in _ ⟨by omega, by omega⟩]
  omega
/-- wpList_append_sep at an operation that a '&&' or '||' guards: the guard is met. -/
theorem wpList_append_sepg {P : Program} (w : World) {ops : Array Oper} {rest : List Oper} {o : Oper} {act : Act} {Q : Exit → Act → World → Prop} (hgd : Region.wanted o (yielded ops act.tmps) = true) (s x : Operand) (t : TypeId)
    (ho : o.op = .call { callee := .builtin .append, args := #[s, x], argTypes := #[t, t] })
    (e : TypeId) (i : TypeInfo) (z : Value) (bytes : Nat) (ht : P.underlying t = some (.slice e)) (hi : P.info? e = some i) (hz : i.zero = some z)
    (hsize : i.size = 1) (hby : i.bytes = bytes) (hzs : z.cells.size = 1) (k : IntKind) (a : Option Addr) (n c : Nat) (l : List Int) (hs : act.eval s = .slice a n c) (hn : n = l.length)
    (W : World) (rs : List Res) (hS : Sep W w rs) (ix : Nat) (hix : rs[ix]? = some (own e k a c l))
    (B' : Nat) (A : Option Addr) (n' c' : Nat) (m : List Int) (hx : act.eval x = .slice A n' c') (hn' : n' = m.length) (hr : Reads w B' A (ints k m))
    (h63 : l.length + m.length ≤ maxLen) (hbytes : (l.length + m.length) * bytes ≤ 140737488355328)
    (h : ∀ a1 c1 w', Sep W w' (rs.set ix (own e k a1 c1 (l ++ m))) → wpList P ops Q rest (act.put o.dst (.slice a1 (l.length + m.length) c1)) w') : wpList P ops Q (o :: rest) act w := by
  subst hn
  subst hn'
  refine wpList_step fun K hK => ?_
  rw [if_pos hgd]
  obtain ⟨a1, c1, w', hrun, h2, h3, h4⟩ := run_append_own (P := P) w W.heap.size t o.type e i z bytes ht hi hz hsize hby hzs k a c l (hS.ownAt ix hix) B' A c' m hr h63 hbytes hS.old.size
  unfold Oper.wp execOp
  simp only [ho, resolve, invoke, builtin, Sem.run_bind, Sem.run_pure, Result.andThen_ok, List.map_toArray, List.map_cons, List.map_nil, hs, hx, hrun]
  refine hK _ _ (h a1 c1 w' (put_new hS ix hix (Turned.of_grown h3) (h2.base (Nat.zero_le _)) fun b hb => ?_))
  have hb' : (Value.slice a1 (l ++ m).length c1).ownBlock = some b := by simpa [own] using hb
  rcases h4 with h5 | h5
  · left
    have : (Value.slice a l.length c).ownBlock = some b := by rw [← h5]; exact hb'
    simpa [own] using this
  · right
    rw [hb'] at h5
    have hbe : b = w.heap.size := Option.some.inj h5
    have := h2.lt b (by simpa using hb')
    exact ⟨by omega, this.2⟩
/-- A list of one that was just laid is an owned thing. -/
theorem push_lit {W w : World} {rs : List Res} (h : Sep W w rs) (e : TypeId) (k : IntKind) (x : Int) : Sep W (w.alloc (.cells #[.int k x] e)) (rs ++ [own e k (some ⟨w.heap.size, 0, none⟩) 1 [x]]) :=
  h.pushOwn ((Below.refl _ _).alloc (Nat.le_refl _) _) (L3.own_lit w e k [x] (Nat.le_refl _) (by simp [maxLen]))
section
variable {W w : World} {rs : List Res} {e : TypeId} {k : IntKind} {g c : Nat} {l : List Int}
theorem cell_s (h : Sep W w rs) (j : Nat) (hj : rs[j]? = some (own e k (some ⟨g, 0, none⟩) c l)) (i : Nat) (hi : i < l.length) : w.cell? ⟨g, i, none⟩ = some (.int k l[i]) ∧ w.frozen? ⟨g, i, none⟩ = false := by
  have ho : w.ownsRow 0 e 1 (.slice (some ⟨g, 0, none⟩) l.length c) l.length (ints k l) := h.own j hj
  have h1 := ho.cellAt i (by omega)
  rw [List.getElem?_eq_getElem (by simpa using hi), ints_get k l i hi] at h1
  exact ⟨h1, ho.frozenAt i⟩
/-- A store into one cell of an owned row. -/
theorem set_s (h : Sep W w rs) (j : Nat) (hj : rs[j]? = some (own e k (some ⟨g, 0, none⟩) c l)) (i : Nat) (v : Int) : Sep W (w.setCell ⟨g, i, none⟩ (.int k v)) (rs.set j (own e k (some ⟨g, 0, none⟩) c (l.set i v))) := by
  have ho : w.ownsRow 0 e 1 (.slice (some ⟨g, 0, none⟩) l.length c) l.length (ints k l) := h.own j hj
  obtain ⟨h1, h2⟩ := ho.stored i (.int k v)
  have h3 : Own (w.setCell ⟨g, i, none⟩ (.int k v)) 0 e k (some ⟨g, 0, none⟩) c (l.set i v) := by
    unfold Own
    rw [List.length_set, show ints k (l.set i v) = (ints k l).set i (.int k v) by unfold ints; rw [List.map_set]]
    exact h1
  exact h.put j hj (Turned.of_grown h2) h3 (fun b hb => by simpa [own, Value.ownBlock] using hb)
end
theorem l3Word_on {B c : Nat} {w0 w : World} (h : On B c w0 w) :
    Calls Try.prog 45 #[.pointer (some ⟨c, 0, none⟩)] w (Num B c w0 fun n => -1 ≤ n ∧ n ≤ 2147483648) := by
  have hl := fun (W : World) => ints_lit W 3 [-1, 2147483647, 2147483648] (fun n => -1 ≤ n ∧ n ≤ 2147483648) (by decide)
  have hm := fun (W : World) => ints_lit W 3 [0, 1, 2147483646] (fun n => -1 ≤ n ∧ n ≤ 2147483648) (by decide)
  go_enter Try.func45, Try.ntmps45
  go_wp2_with (first | (go_at_call 57; refine (l1Once_on _ (by omega) (by omega) (by assumption)).mono ?_; rintro e w' ⟨b, rfl, ho⟩; cases b) | (go_at_call 47; refine (l1Below_on _ (by omega) (by omega) (by assumption)).mono ?_; rintro e w' ⟨x, rfl, ⟨hx0, hx1⟩, ho⟩) | (go_at_call 58; refine (l1Int_on _ 3 (by decide) (by decide) (hl _) (by simp) (fun e => by have := (show On B c w0 _ by assumption).lt; omega) (On.alloc (by assumption) _)).mono ?_; rintro e w' ⟨x, rfl, hx, ho⟩) | (go_at_call 58; refine (l1Int_on _ 3 (by decide) (by decide) (hm _) (by simp) (fun e => by have := (show On B c w0 _ by assumption).lt; omega) (On.alloc (by assumption) _)).mono ?_; rintro e w' ⟨x, rfl, hx, ho⟩))
  all_goals
    go_ret
    first
    | exact ⟨_, rfl, hx, ho⟩
    | exact ⟨_, rfl, mul_word (by assumption) (by assumption) (by assumption) (by assumption), ho⟩

section
variable {W w : World} {rs : List Res} {c : Nat}
theorem word_s (h : Sep W w rs) (i : Nat) (hi : rs[i]? = some (curR W c)) :
    Calls Try.prog 45 #[.pointer (some ⟨c, 0, none⟩)] w fun e w' => ∃ n, e = .returned (.int .i64 n) ∧ (-1 ≤ n ∧ n ≤ 2147483648) ∧ Sep W w' rs := num h i hi (l3Word_on (cur_on h i hi))
/-- A string of a list that was just laid. -/
theorem str_s (h : Sep W w rs) (i : Nat) (hi : rs[i]? = some (curR W c)) (l : List ByteArray) (P : ByteArray → Prop) (hP : ∀ v ∈ l, P v) (n : Nat) (hn : n = l.length) (h1 : 1 ≤ n) (h2 : n ≤ 1000) :
    Calls Try.prog 52 #[.pointer (some ⟨c, 0, none⟩), .slice (some ⟨w.heap.size, 0, none⟩) n n] (w.alloc (.cells (l.map Value.string).toArray 9)) fun e w' => ∃ s, e = .returned (.string s) ∧ P s ∧ Sep W w' rs := by
  subst hn
  exact (l1Str_on w.heap.size l.length h1 h2 (strs_lit w 9 l P hP) (by simp) (fun e => by have := (cur_on h i hi).lt; omega) (cur_on (h.alloc _) i hi)).mono fun _ _ ⟨s, he, hs, ho⟩ => ⟨s, he, hs, moved (h.alloc _) i hi ho⟩
def Words (l : List Int) : Prop := ∀ x ∈ l, -1 ≤ x ∧ x ≤ 2147483648
theorem Words.snoc {l : List Int} {x : Int} (h : Words l) (h0 : -1 ≤ x ∧ x ≤ 2147483648) : Words (l ++ [x]) := fun y hy => by
  rcases List.mem_append.1 hy with h2 | h2
  · exact h y h2
  · simp at h2; subst h2; exact h0
theorem words_s (h : Sep W w rs) (ix : Nat) (hi : rs[ix]? = some (curR W c)) :
    Calls Try.prog 49 #[.pointer (some ⟨c, 0, none⟩)] w fun e w' => ∃ a1 c1 l, e = .returned (.slice a1 l.length c1) ∧ (Words l ∧ l.length ≤ 5) ∧ Sep W w' (rs ++ [own 3 .i64 a1 c1 l]) := by
  obtain ⟨i0, hi0, hz0, hz1, hz2⟩ := infoOf _ _ _ _ info64s
  have H0 := Lib.hid (push_made h 3 .i64)
  have HI := Lib.hid hi
  clear h hi
  go_enter Try.func49, Try.ntmps49
  go_wp2_with (go_at_call 47; refine (below_s H0.out ix (at_left HI.out) _ (by decide) (by decide)).mono ?_; rintro e w3 ⟨k, rfl, ⟨hk0, hk1⟩, h3⟩)
  obtain ⟨k, rfl⟩ : ∃ j : Nat, k = j := ⟨k.toNat, by omega⟩
  have H3 := Lib.hid h3
  clear h3
  go_loopw [3, 4] (fun s v wr => ∃ (j : Nat) (a1 : Option Addr) (c1 n1 : Nat), j ≤ 5 ∧ v = .int .i64 j ∧ s = .slice a1 n1 c1 ∧ n1 + j ≤ 5 ∧ Hid (∃ l1 : List Int, Sep W wr (rs ++ [own 3 .i64 a1 c1 l1]) ∧ l1.length = n1 ∧ Words l1)) (fun _ v _ => (intOf v).toNat)
  case atStart => exact ⟨k, _, _, 0, by omega, rfl, rfl, by omega, [], H3.out, rfl, fun x hx => by simp at hx⟩
  case round =>
    obtain ⟨j, a1, c1, n1, hj, rfl, rfl, hle, hrel⟩ := hrel
    obtain ⟨l1, hS, hl1, hb1⟩ := hrel.out
    clear hrel
    have HB := Lib.hid hb1
    clear hb1
    by_cases hlt : (0 : Int) < j
    · go_wp2_with (first | (go_at_call 45; refine (word_s hS ix (at_left HI.out)).mono ?_; rintro e w4 ⟨x, rfl, hx, hS1⟩) | (at_builtin; refine wpList_append_sep _ rfl _ _ 28 rfl 3 i0 (.int .i64 0) 8 Try.underlying28 hi0 hz0 hz1 hz2 rfl .i64 a1 n1 c1 l1 rfl hl1.symm W _ (hS1.alloc _) rs.length (at_last _ _) _ _ 1 1 [_] rfl rfl (reads_one _ _ _ _) (by simp [maxLen]; omega) (by simp; omega) ?_; intro a2 c2 w5 hS2))
      rw [set_last] at hS2
      have HH := Lib.hid (And.intro hS2 (HB.out.snoc hx))
      clear hS2 hS1 hS
      go_roundw
      case rel => exact ⟨j - 1, a2, c2, n1 + 1, by omega, by go_num, by simp, by omega, _, HH.out.1, by simp [hl1], HH.out.2⟩
      case measure => simp [intOf]; omega
    · have HS := Lib.hid hS
      clear hS
      go_wp2
      go_ret
      exact ⟨a1, c1, l1, by rw [hl1]; rfl, ⟨HB.out, by omega⟩, HS.out⟩
end

section
variable {W w : World} {rs : List Res} {a : Option Addr} {len : Nat}
theorem drawKeyedHash_s (cap : Nat) (hl : len ≤ 4611686018427387904) (hby : Bytes W W.heap.size a len) (h : Sep W w rs) :
    Calls Try.prog 18 #[.slice a len cap] w fun e w' => ∃ k a1 c1 l, e = .returned (.tuple #[.int .i64 k, .slice a1 l.length c1]) ∧ (-1 ≤ k ∧ k ≤ 2147483648) ∧ (Words l ∧ l.length ≤ 5) ∧ Sep W w' (rs ++ [own 3 .i64 a1 c1 l]) := by
  go_enter Try.func18, Try.ntmps18
  go_wp2_with fail
  go_at_call 44
  refine (new_s h a len cap hl hby).mono ?_
  rintro e w1 ⟨c, rfl, h1⟩
  clear h
  go_wp2_with fail
  go_at_call 45
  refine (word_s h1 rs.length (at_last _ _)).mono ?_
  rintro e w2 ⟨k, rfl, hk, h2⟩
  clear h1
  go_wp2_with fail
  go_at_call 49
  refine (words_s h2 rs.length (at_last _ _)).mono ?_
  rintro e w3 ⟨a1, c1, l, rfl, hl1, h3⟩
  clear h2
  go_wp2_with fail
  go_ret2
  rw [List.append_assoc, List.singleton_append] at h3
  exact ⟨_, _, _, l, rfl, hk, hl1, drop h3⟩
theorem drawEncrypt_s (cap : Nat) (hl : len ≤ 4611686018427387904) (hby : Bytes W W.heap.size a len) (h : Sep W w rs) :
    Calls Try.prog 14 #[.slice a len cap] w fun e w' => ∃ k a1 c1 l, e = .returned (.tuple #[.int .i64 k, .slice a1 l.length c1]) ∧ (-1 ≤ k ∧ k ≤ 2147483648) ∧ (Byts l ∧ l.length ≤ 8) ∧ Sep W w' (rs ++ [own 5 .u8 a1 c1 l]) := by
  go_enter Try.func14, Try.ntmps14
  go_wp2_with fail
  go_at_call 44
  refine (new_s h a len cap hl hby).mono ?_
  rintro e w1 ⟨c, rfl, h1⟩
  clear h
  go_wp2_with fail
  go_at_call 45
  refine (word_s h1 rs.length (at_last _ _)).mono ?_
  rintro e w2 ⟨k, rfl, hk, h2⟩
  clear h1
  go_wp2_with fail
  go_at_call 47
  refine (below_s h2 rs.length (at_last _ _) _ (by decide) (by decide)).mono ?_
  rintro e w3 ⟨n, rfl, ⟨hn0, hn1⟩, h3⟩
  clear h2
  go_wp2_with fail
  go_at_call 46
  refine (bytes_s h3 rs.length (at_last _ _) _ (by omega)).mono ?_
  rintro e w4 ⟨a1, c1, l, rfl, hl1, hb1, h4⟩
  clear h3
  go_wp2_with fail
  go_ret2
  rw [List.append_assoc, List.singleton_append] at h4
  exact ⟨_, _, _, l, rfl, hk, ⟨hb1, by omega⟩, drop h4⟩
theorem drawDeriveFromString_s (cap : Nat) (hl : len ≤ 4611686018427387904) (hby : Bytes W W.heap.size a len) (h : Sep W w rs) :
    Calls Try.prog 23 #[.slice a len cap] w fun e w' => ∃ k s, e = .returned (.tuple #[.int .i64 k, .string s]) ∧ (-1 ≤ k ∧ k ≤ 2147483648) ∧ s.size ≤ 10 ∧ Sep W w' rs := by
  have hS := fun (w1 : World) (c1 : Nat) (h1 : Sep W w1 (rs ++ [curR W c1])) => str_s h1 rs.length (at_last _ _) [⟨#[]⟩, ⟨#[97]⟩, ⟨#[98]⟩, ⟨#[97, 98]⟩, ⟨#[110, 101, 119, 115]⟩, ⟨#[120]⟩] (fun s => s.size ≤ 10) (by decide) 6 rfl (by decide) (by decide)
  have HS := Lib.hid hS
  clear hS
  go_enter Try.func23, Try.ntmps23
  go_wp2_with fail
  go_at_call 44
  refine (new_s h a len cap hl hby).mono ?_
  rintro e w1 ⟨c, rfl, h1⟩
  clear h
  go_wp2_with fail
  go_at_call 45
  refine (word_s h1 rs.length (at_last _ _)).mono ?_
  rintro e w2 ⟨k, rfl, hk, h2⟩
  clear h1
  go_wp2_with fail
  go_at_call 52
  refine (HS.out _ _ h2).mono ?_
  rintro e w3 ⟨s, rfl, hs, h3⟩
  clear h2
  go_wp2_with fail
  go_ret2
  have h4 := drop (ts := []) h3
  rw [List.append_nil] at h4
  exact ⟨_, _, rfl, hk, hs, h4⟩
end
end Go.Proofs.Ytkgmiaoecedjdaa.Sd
