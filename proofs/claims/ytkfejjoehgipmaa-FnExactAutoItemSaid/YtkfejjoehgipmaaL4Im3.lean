/-
  The contracts of encodeNumber and EncodeKey of the program. Conditions: a text of at most 2^40 bytes.
-/
import Derived.Test.YtkfejjoehgipmaaPb
import Derived.Test.YtkfejjoehgipmaaL4Im1
import Derived.Lib.AppendStr
namespace Go.Proofs.Ytkfejjoehgipmaa.L4
open Go.Op (bytesLess)
open Go.ChangeShapes Go.WideShapes Go.ChangeAt Go.RowKit Mem Sl Ex L2
set_option maxRecDepth 100000
set_option linter.unusedVariables false

def numCells (m : Nat) : Array Value := #[.int .u8 ((m / 1099511627776 % 256 : Nat) : Int), .int .u8 ((m / 4294967296 % 256 : Nat) : Int), .int .u8 ((m / 16777216 % 256 : Nat) : Int), .int .u8 ((m / 65536 % 256 : Nat) : Int), .int .u8 ((m / 256 % 256 : Nat) : Int), .int .u8 ((m / 1 % 256 : Nat) : Int)]

set_option maxHeartbeats 2000000 in
theorem encodeNumber_any (n : Int) (m : Nat) (hm : (m : Int) = n + 1000000000000) (h1 : n ≤ 1000000000000) (w : World) :
    Calls Try.prog 118 #[.int .i64 n] w fun e w' => e = .returned (.agg (numCells m)) ∧ Below w.heap.size w w' := by
  obtain ⟨M, hM⟩ : ∃ M : Int, M = n + 1000000000000 := ⟨_, rfl⟩
  have hM0 : 0 ≤ M := by omega
  have hM1 : M ≤ 2000000000000 := by omega
  go_enter Try.func118, Try.ntmps118
  go_wp2
  refine wp_loop_rounds 7 ?_
  iterate 7 (rw [rounds_succ]; go_wp2)
  refine bodyPost_ret (v := .agg _) (by simp [results, Try.results118, go_sem]; rfl) rfl ?_
  refine ⟨?_, below_alloc (below_alloc (Below.refl _ _) _ (Nat.le_refl _)) _ (Nat.le_refl _)⟩
  have e0 : (n + 1000000000000) / 256 / 256 / 256 / 256 / 256 = ((m / 1099511627776 % 256 : Nat) : Int) := by omega
  have e1 : (n + 1000000000000) / 256 / 256 / 256 / 256 % 256 = ((m / 4294967296 % 256 : Nat) : Int) := by omega
  have e2 : (n + 1000000000000) / 256 / 256 / 256 % 256 = ((m / 16777216 % 256 : Nat) : Int) := by omega
  have e3 : (n + 1000000000000) / 256 / 256 % 256 = ((m / 65536 % 256 : Nat) : Int) := by omega
  have e4 : (n + 1000000000000) / 256 % 256 = ((m / 256 % 256 : Nat) : Int) := by omega
  have e5 : (n + 1000000000000) % 256 = ((m / 1 % 256 : Nat) : Int) := by omega
  rw [e0, e1, e2, e3, e4, e5]
  rfl

theorem numCells_form (m : Nat) : ∃ x0 x1 x2 x3 x4 x5 : Int, numCells m = #[.int .u8 x0, .int .u8 x1, .int .u8 x2, .int .u8 x3, .int .u8 x4, .int .u8 x5] ∧ toI (be 6 m) = [x0, x1, x2, x3, x4, x5] := by
  refine ⟨_, _, _, _, _, _, rfl, ?_⟩
  simp only [be, toI, List.map_cons, List.map_nil, UInt8.toNat_ofNat', show (256 ^ 5 : Nat) = 1099511627776 from rfl, show (256 ^ 4 : Nat) = 4294967296 from rfl, show (256 ^ 3 : Nat) = 16777216 from rfl, show (256 ^ 2 : Nat) = 65536 from rfl, show (256 ^ 1 : Nat) = 256 from rfl, show (256 ^ 0 : Nat) = 1 from rfl, Nat.mod_mod]
theorem reads_row {w : World} {g : Nat} {t : TypeId} {k : IntKind} {l : List Int} (h : Row w g t (ints k l).toArray) : Reads w w.heap.size (some ⟨g, 0, none⟩) (ints k l) := fun j hj => by
  refine ⟨_, rfl, by simpa [add_block] using h.inside, ?_⟩
  rw [Addr.add_lit, h.cell]
  simp [List.getElem?_eq_getElem hj]

section
variable {P : Program} (w : World)
theorem wpList_append_str {ops : Array Oper} {rest : List Oper} {o : Oper} {act : Act} {Q : Exit → Act → World → Prop} (hgd : o.guard = none) (sl x : Operand) (t u : TypeId)
    (ho : o.op = .call { callee := .builtin .append, args := #[sl, x], argTypes := #[t, u] })
    (B : Nat) (e : TypeId) (i : TypeInfo) (ht : P.underlying t = some (.slice e)) (hu : P.underlying u = some .string) (hi : P.info? e = some i) (hz : i.zero = some (.int .u8 0))
    (hsize : i.size = 1) (hby : i.bytes = 1) (a : Option Addr) (n c : Nat) (l : List Int) (hs : act.eval sl = .slice a n c) (hn : n = l.length) (hown : Own w B e .u8 a c l) (s : ByteArray) (hx : act.eval x = .string s)
    (h63 : l.length + s.size ≤ maxLen) (hbytes : l.length + s.size ≤ 140737488355328) (hbase : B ≤ w.heap.size)
    (h : ∀ a1 c1 w', Own w' B e .u8 a1 c1 (l ++ L3.strB s) → w.grownBy w' (Value.slice a l.length c).ownBlock → wpList P ops Q rest (act.put o.dst (.slice a1 (l.length + s.size) c1)) w') : wpList P ops Q (o :: rest) act w := by
  subst hn
  have hsc : ints .u8 l ++ Lib.strCells s = ints .u8 (l ++ L3.strB s) := by
    rw [ints_append]
    congr 1
    unfold Lib.strCells ints L3.strB
    rw [List.map_map]
    rfl
  refine Lib.wpList_append_own_string w hgd sl x t u ho B e i ht hu hi hz hsize hby _ l.length (ints .u8 l) hs hown s hx h63 hbytes hbase ?_
  intro v' w' h2 h3 _
  rw [hsc] at h2
  rcases h2.2 with ⟨rfl, hn⟩ | ⟨g, cap, cur, rfl, _⟩
  · have h0 : Own w' B e .u8 none 0 (l ++ L3.strB s) := by
      unfold Own
      rw [List.length_append, L3.strB_length, hn]
      rw [hn] at h2
      exact h2
    have := h none 0 w' h0 h3
    rw [hn] at this
    exact this
  · refine h _ cap w' ?_ h3
    unfold Own
    rw [List.length_append, L3.strB_length]
    exact h2
end

set_option maxHeartbeats 2000000 in
theorem implEncodeKey_any (k : K) (hs : k.text.size ≤ 1099511627776) (w : World) :
    Calls Try.prog 89 #[k.v] w (Gave w w.heap.size 5 .u8 (toI (encU k))) := by
  obtain ⟨i0, hi, hz0, hz1, hz2⟩ := infoOf _ _ _ _ info8
  obtain ⟨w2, hw2⟩ : ∃ w2, w2 = w.alloc (.cells k.cells 28) := ⟨_, rfl⟩
  have ba : Box w2 w.heap.size 28 k := by rw [hw2]; exact Box.made w _ k
  have hbl : Below w.heap.size w w2 := by rw [hw2]; exact below_alloc (Below.refl _ _) _ (Nat.le_refl _)
  have H1 := Lib.hid (fun w => implIsKey_any k (by omega) w)
  obtain ⟨ia, hia⟩ : ∃ x, isK k = x := ⟨_, rfl⟩
  rw [hia] at H1
  obtain ⟨kd, n, s⟩ := k
  simp only [K.v, K.cells] at H1 hw2 hs ⊢
  go_enter Try.func89, Try.ntmps89
  go_wp2_with fail
  go_at_call 77
  rw [← hw2]
  refine (H1.out w2).mono ?_
  rintro e w3 ⟨rfl, h3⟩
  have BA := Lib.hid (And.intro (ba.below h3) (hbl.trans (h3.mono hbl.size)))
  have hsz : w.heap.size + 1 ≤ w3.heap.size := by have := h3.size; rw [hw2] at this; simpa using this
  clear hw2 ba hbl h3 H1
  cases ia with
  | false =>
    have HE := Lib.hid (show toI (encU ⟨kd, n, s⟩) = [] by unfold encU; rw [hia]; rfl)
    go_wp2_with fail
    go_ret
    rw [HE.out]
    exact Gave.mk rfl (Own.empty w3 5 .u8 BA.out.2.size) (below_alloc BA.out.2 _ (Nat.le_refl _))
  | true =>
    have g := isK_iff.1 hia
    have k0 : 1 ≤ kd := g.k0
    have k1 : kd ≤ 3 := g.k1
    have n0 : -1000000000000 ≤ n := g.n0
    have n1 : n ≤ 1000000000000 := g.n1
    obtain ⟨b0, b1, b2⟩ := BA.out.1.facts
    obtain ⟨d0, d1, d2⟩ := (BA.out.1.more (.cells #[.int .u8 kd] 5)).facts
    have H3 := Lib.hid (And.intro (L3.own_lit w3 5 .u8 [kd] hsz (by simp [maxLen])) (below_alloc (Below.refl (w.heap.size + 1) w3) (.cells #[.int .u8 kd] 5) hsz))
    obtain ⟨m, hm⟩ : ∃ m : Nat, (m : Int) = n + 1000000000000 := ⟨(n + 1000000000000).toNat, by omega⟩
    have HM := Lib.hid hm
    clear hm
    by_cases hk : kd = 2
    · subst hk
      have HE := Lib.hid (show toI (encU ⟨2, n, s⟩) = [2] ++ L3.strB s by rw [encU_good hia]; rfl)
      go_wp2_with (at_builtin; refine wpList_append_str _ rfl _ _ 22 9 rfl (w.heap.size + 1) 5 i0 Try.underlying22 Try.underlying9 hi hz0 hz1 hz2 _ _ _ ([2]) rfl rfl H3.out.1 s rfl (by unfold maxLen; simp; omega) (by simp; omega) (Nat.le_trans hsz (by simp)) ?_; intro a9 c9 w9 ho9 hg9)
      go_ret
      rw [HE.out]
      refine Gave.mk (by simp [L3.strB_length]; omega) (ho9.base (Nat.le_succ _)) ?_
      have q2 := BA.out.2.trans (H3.out.2.mono (Nat.le_succ _))
      exact q2.trans ((below_own H3.out.1 hg9 (Nat.le_trans hsz H3.out.2.size)).mono (Nat.le_succ _))
    · have HE := Lib.hid (show toI (encU ⟨kd, n, s⟩) = (kd :: toI (be 6 m)) ++ L3.strB s by
        rw [encU_good hia]
        have e1 : num6 ⟨kd, n, s⟩ = be 6 m := by unfold num6; rw [if_neg hk, ← HM.out]; rfl
        rw [e1]
        simp only [toI, List.map_cons, List.map_append, UInt8.toNat_ofNat', List.cons_append]
        congr 1
        show (((kd.toNat % 2 ^ 8 : Nat)) : Int) = kd
        omega)
      obtain ⟨w4, hw4⟩ : ∃ x, x = w3.alloc (.cells #[.int .u8 kd] 5) := ⟨_, rfl⟩
      have o4 : Own w4 (w.heap.size + 1) 5 .u8 (some ⟨w3.heap.size, 0, none⟩) 1 [kd] := by rw [hw4]; exact H3.out.1
      have b4 : Below (w.heap.size + 1) w3 w4 := by rw [hw4]; exact H3.out.2
      have bx4 : Box w4 w.heap.size 28 ⟨kd, n, s⟩ := by rw [hw4]; exact BA.out.1.more _
      have HN := Lib.hid (encodeNumber_any n m HM.out n1)
      go_wp2_with fail
      go_at_call 118
      rw [← hw4]
      clear hw4 b0 b1 b2 d0 d1 d2
      refine (HN.out w4).mono ?_
      rintro e w5 ⟨rfl, h5⟩
      obtain ⟨x0, x1, x2, x3, x4, x5, hnc, hnl⟩ := numCells_form m
      rw [hnc]
      have hsz4 : w.heap.size + 1 ≤ w4.heap.size := Nat.le_trans hsz b4.size
      have q5 := b4.trans (h5.mono hsz4)
      have R6 : Row (w5.alloc (.cells #[.int .u8 x0, .int .u8 x1, .int .u8 x2, .int .u8 x3, .int .u8 x4, .int .u8 x5] 132)) w5.heap.size 132 (ints .u8 (toI (be 6 m))).toArray := by
        rw [hnl]
        exact Row.made w5 _ _
      have r6 := reads_row R6
      have bx6 := (bx4.below h5).more (.cells #[.int .u8 x0, .int .u8 x1, .int .u8 x2, .int .u8 x3, .int .u8 x4, .int .u8 x5] 132)
      have o6 := own_alloc (o4.below h5) (.cells #[.int .u8 x0, .int .u8 x1, .int .u8 x2, .int .u8 x3, .int .u8 x4, .int .u8 x5] 132)
      have hsz5 : w.heap.size + 1 ≤ w5.heap.size := Nat.le_trans hsz4 h5.size
      have q6 := below_alloc q5 (.cells #[.int .u8 x0, .int .u8 x1, .int .u8 x2, .int .u8 x3, .int .u8 x4, .int .u8 x5] 132) hsz
      have hsz6 : w.heap.size + 1 ≤ (w5.alloc (.cells #[.int .u8 x0, .int .u8 x1, .int .u8 x2, .int .u8 x3, .int .u8 x4, .int .u8 x5] 132)).heap.size := Nat.le_trans hsz5 (by simp)
      have S := Lib.hid (And.intro r6 (And.intro bx6 (And.intro o6 (And.intro hsz6 q6))))
      clear R6 r6 bx6 o6 hsz6 q6 q5 h5 o4 b4 bx4 hnc hnl H3 hsz4 hsz5
      have hszw := hsz
      go_wp2_with (first
        | (at_builtin; refine wpList_append_src _ rfl _ _ 22 rfl (w.heap.size + 1) 5 i0 (.int .u8 0) 1 Try.underlying22 hi hz0 hz1 hz2 rfl .u8 _ _ _ ([kd]) rfl rfl S.out.2.2.1 _ _ _ _ (toI (be 6 m)) rfl (by simp) S.out.1 (by simp [maxLen]) (by simp) S.out.2.2.2.1 ?_; intro a7 c7 w7 ho7 hg7; have q7 := S.out.2.2.2.2.trans (below_own S.out.2.2.1 hg7 S.out.2.2.2.1); have bx7 := Row.below S.out.2.1 (below_own S.out.2.2.1 hg7 S.out.2.2.2.1) (Nat.lt_succ_self _); obtain ⟨b0, b1, b2⟩ := Box.facts bx7)
        | (at_builtin; refine wpList_append_str _ rfl _ _ 22 9 rfl (w.heap.size + 1) 5 i0 Try.underlying22 Try.underlying9 hi hz0 hz1 hz2 _ 7 _ (kd :: toI (be 6 m)) rfl (by simp) ho7 s rfl (by unfold maxLen; simp; omega) (by simp; omega) (Nat.le_trans hszw q7.size) ?_; intro a9 c9 w9 ho9 hg9))
      go_ret
      rw [HE.out]
      refine Gave.mk (by simp [L3.strB_length]; omega) (ho9.base (Nat.le_succ _)) ?_
      have q2 := BA.out.2.trans (q7.mono (Nat.le_succ _))
      exact q2.trans ((below_own ho7 hg9 (Nat.le_trans hszw q7.size)).mono (Nat.le_succ _))
end Go.Proofs.Ytkfejjoehgipmaa.L4
