/-
  The contracts of chapter 4's EncodeKey and DecodeKey of the specification. Conditions: a text, a byte string of at most 2^40 bytes.
-/
import Derived.Test.YtenmdecooamaaaaL4Cmp
import Derived.Test.YtenmdecooamaaaaL3Fn
namespace Go.Proofs.Ytenmdecooamaaaa.L4
open Go.Op (bytesLess)
open Go.ChangeShapes Go.WideShapes Go.ChangeAt Go.RowKit Mem Sl Ex L2
set_option linter.unusedVariables false

def toI (u : List UInt8) : List Int := u.map fun b => (b.toNat : Int)
@[simp] theorem toI_length (u : List UInt8) : (toI u).length = u.length := by simp [toI]
theorem toI_append (u v : List UInt8) : toI (u ++ v) = toI u ++ toI v := by simp [toI]
theorem toI_toU (l : List Int) (h : Byt l) : toI (toU l) = l := by
  unfold toI toU
  rw [List.map_map]
  have : ∀ x ∈ l, ((fun b : UInt8 => (b.toNat : Int)) ∘ fun n : Int => UInt8.ofNat n.toNat) x = x := fun x hx => by
    have := h x hx
    simp only [Function.comp, UInt8.toNat_ofNat']
    omega
  rw [List.map_congr_left this, List.map_id']
theorem toU_toI (u : List UInt8) : toU (toI u) = u := by
  unfold toI toU
  rw [List.map_map]
  have : ∀ x ∈ u, ((fun n : Int => UInt8.ofNat n.toNat) ∘ fun b : UInt8 => (b.toNat : Int)) x = x := fun x _ => by simp
  rw [List.map_congr_left this, List.map_id']
theorem toI_byt (u : List UInt8) : Byt (toI u) := by
  intro x hx
  obtain ⟨b, _, rfl⟩ := List.mem_map.1 hx
  have := b.toNat_lt
  exact ⟨by omega, by omega⟩
theorem strB_toI (s : ByteArray) : L3.strB s = toI s.data.toList := rfl

theorem and_255 (m : Nat) (h : m < 4611686018427387904) : bits .and .i64 (m : Int) 255 = ((m % 256 : Nat) : Int) := by
  have h1 : (BitVec.ofInt 64 (m : Int) &&& BitVec.ofInt 64 (255 : Int)).toNat = m % 256 := by
    rw [show (255 : Int) = ((255 : Nat) : Int) from rfl, BitVec.ofInt_natCast, BitVec.ofInt_natCast, BitVec.toNat_and, BitVec.toNat_ofNat, BitVec.toNat_ofNat, Nat.mod_eq_of_lt (show m < 2 ^ 64 by omega), show 255 % 2 ^ 64 = 2 ^ 8 - 1 by decide, Nat.and_two_pow_sub_one_eq_mod]
  show IntKind.i64.wrap ((BitVec.ofInt 64 (m : Int) &&& BitVec.ofInt 64 (255 : Int)).toNat : Nat) = _
  rw [h1, IntKind.wrap_i64]
  omega
theorem encU_len (k : K) (h : (k.text.size : Int) ≤ 1048576) : (encU k).length ≤ 1099511627776 := by
  have e : k.t.length = k.text.size := by unfold K.t; rw [Array.length_toList]; rfl
  unfold encU
  split
  · simp only [List.length_cons, List.length_append, num6]
    split <;> simp <;> omega
  · simp
theorem byte_step (m d : Nat) (h : (m : Int) ≤ 2000000000000) : bits .and .i64 ((m : Int) / (d : Int)) 255 % 256 = ((m / d % 256 : Nat) : Int) := by
  have h1 := Nat.div_le_self m d
  rw [show (m : Int) / (d : Int) = ((m / d : Nat) : Int) from rfl, and_255 _ (by omega)]
  omega
theorem be_get (k m i : Nat) (h : i < k) : (be k m)[i]'(by simpa using h) = UInt8.ofNat (m / 256 ^ (k - 1 - i) % 256) := by
  induction k generalizing i with
  | zero => omega
  | succ k ih =>
    cases i with
    | zero => simp [be]
    | succ i =>
      have := ih i (by omega)
      simp only [be, List.getElem_cons_succ, this]
      congr 4
      omega
theorem six_step (m j : Nat) (h : 1 ≤ j) (h6 : j ≤ 6) : toI ((be 6 m).take (6 - (j - 1))) = toI ((be 6 m).take (6 - j)) ++ [((m / 256 ^ (j - 1) % 256 : Nat) : Int)] := by
  rw [show 6 - (j - 1) = (6 - j) + 1 by omega, List.take_succ_eq_append_getElem (by simp; omega), toI_append, be_get 6 m (6 - j) (by omega)]
  congr 1
  simp only [toI, List.map_cons, List.map_nil, UInt8.toNat_ofNat']
  rw [show 6 - 1 - (6 - j) = j - 1 by omega]
  congr 2
  omega

set_option maxHeartbeats 2000000 in
theorem specEncodeKey_any (k : K) (hs : k.text.size ≤ 1099511627776) (w : World) :
    Calls Try.prog 24 #[k.v] w (Gave w w.heap.size 5 .u8 (toI (encU k))) := by
  obtain ⟨i0, hi, hz0, hz1, hz2⟩ := infoOf _ _ _ _ info8
  obtain ⟨w2, hw2⟩ : ∃ w2, w2 = w.alloc (.cells k.cells 25) := ⟨_, rfl⟩
  have ba : Box w2 w.heap.size 25 k := by rw [hw2]; exact Box.made w _ k
  have hbl : Below w.heap.size w w2 := by rw [hw2]; exact below_alloc (Below.refl _ _) _ (Nat.le_refl _)
  have H1 := Lib.hid (fun w => specIsKey_any k (by omega) w)
  obtain ⟨ia, hia⟩ : ∃ x, isK k = x := ⟨_, rfl⟩
  rw [hia] at H1
  obtain ⟨kd, n, s⟩ := k
  simp only [K.v, K.cells] at H1 hw2 ⊢
  go_enter Try.func24, Try.ntmps24
  go_wp2_with fail
  go_at_call 16
  rw [← hw2]
  refine (H1.out w2).mono ?_
  rintro e w3 ⟨rfl, h3⟩
  have BA := Lib.hid (And.intro (ba.below h3) (hbl.trans (h3.mono hbl.size)))
  have hsz : w.heap.size + 1 ≤ w3.heap.size := by have := h3.size; rw [hw2] at this; simpa using this
  clear hw2 ba hbl h3 H1
  cases ia with
  | false =>
    have HE := Lib.hid (show toI (encU ⟨kd, n, s⟩) = [] by unfold encU; rw [hia]; rfl)
    go_wp2_with fail
    go_ret
    rw [HE.out]
    exact Gave.mk rfl (Own.empty w3 5 .u8 BA.out.2.size) (below_alloc BA.out.2 _ (Nat.le_refl _))
  | true =>
    have g := isK_iff.1 hia
    have k0 : 1 ≤ kd := g.k0
    have k1 : kd ≤ 3 := g.k1
    have n0 : -1000000000000 ≤ n := g.n0
    have n1 : n ≤ 1000000000000 := g.n1
    obtain ⟨b0, b1, b2⟩ := BA.out.1.facts
    have H3 := Lib.hid (And.intro (L3.own_lit w3 5 .u8 [kd] hsz (by simp [maxLen])) (below_alloc (Below.refl (w.heap.size + 1) w3) (.cells #[.int .u8 kd] 5) hsz))
    have m0 : 0 ≤ n + 1000000000000 := by omega
    obtain ⟨m, hm⟩ : ∃ m : Nat, (m : Int) = n + 1000000000000 := ⟨(n + 1000000000000).toNat, by omega⟩
    have hm2 : (m : Int) ≤ 2000000000000 := by omega
    by_cases hk : kd = 2
    · subst hk
      have HE := Lib.hid (show toI (encU ⟨2, n, s⟩) = [2] ++ L3.strB s by rw [encU_good hia]; rfl)
      obtain ⟨w4, hw4⟩ : ∃ x, x = w3.alloc (.cells #[.int .u8 2] 5) := ⟨_, rfl⟩
      have ho4 : Own w4 (w.heap.size + 1) 5 .u8 (some ⟨w3.heap.size, 0, none⟩) 1 [2] := by rw [hw4]; exact H3.out.1
      have hb4 : Below (w.heap.size + 1) w3 w4 := by rw [hw4]; exact H3.out.2
      have bx4 : Box w4 w.heap.size 25 ⟨2, n, s⟩ := by rw [hw4]; exact BA.out.1.more _
      have hbw := BA.out.2.trans (hb4.mono (Nat.le_succ _))
      have hsz2 : w.heap.size + 1 ≤ w4.heap.size := Nat.le_trans hsz hb4.size
      go_wp2_with fail
      rw [← hw4]
      clear hw4 b0 b1 b2 H3 hb4
      obtain ⟨b0, b1, b2⟩ := bx4.facts
      refine wp_loop_rounds 1 ?_
      rw [rounds_succ]
      have HT := Lib.hid (Lib.run_convert_string_bytes (P := Try.prog) w4 9 22 5 s Try.underlying9 Try.underlying22 Try.underlying5)
      have HT1 := Lib.hid (And.intro (L3.strB_reads w4 5 s) (L3.strB_below w4 5 s))
      obtain ⟨wb, hwb⟩ : ∃ x, x = Lib.bytesWorld w4 5 s := ⟨_, rfl⟩
      obtain ⟨cp, hcp⟩ : ∃ x, x = grownCap w4 s.size 0 5 := ⟨_, rfl⟩
      rw [← hwb, ← hcp] at HT
      rw [← hwb] at HT1
      clear hwb hcp
      have hcv := HT.out
      go_wp2_with (at_builtin; refine wpList_append_src _ rfl _ _ 22 rfl (w.heap.size + 1) 5 i0 (.int .u8 0) 1 Try.underlying22 hi hz0 hz1 hz2 rfl .u8 _ _ _ ([2]) rfl rfl (ho4.below (HT1.out.2)) _ _ _ _ (L3.strB s) rfl (L3.strB_length s).symm HT1.out.1 (by rw [L3.strB_length]; unfold maxLen; simp; omega) (by rw [L3.strB_length]; simp; omega) (Nat.le_trans hsz2 HT1.out.2.size) ?_; intro a9 c9 w9 ho9 hg9)
      go_ret
      have q1 := HT1.out.2
      rw [HE.out]
      refine Gave.mk (by simp [L3.strB_length]; omega) (ho9.base (Nat.le_succ _)) ?_
      have q2 := hbw.trans (q1.mono hbw.size)
      exact q2.trans ((below_own (ho4.below q1) hg9 (Nat.le_trans hsz2 q1.size)).mono (Nat.le_succ _))
    · have HE := Lib.hid (show toI (encU ⟨kd, n, s⟩) = (kd :: toI (be 6 m)) ++ L3.strB s by
        rw [encU_good hia]
        have e1 : num6 ⟨kd, n, s⟩ = be 6 m := by unfold num6; rw [if_neg hk, ← hm]; rfl
        rw [e1]
        simp only [toI, List.map_cons, List.map_append, UInt8.toNat_ofNat', List.cons_append]
        congr 1
        show (((kd.toNat % 2 ^ 8 : Nat)) : Int) = kd
        omega)
      have hk2 : ¬ kd = 2 := hk
      go_wp2_with fail
      clear b0 b1 b2
      go_loopw [3, 4] (fun s i wr => ∃ (j : Nat) (v : Int) (a1 : Option Addr) (c1 : Nat), j ≤ 6 ∧ v = (j : Int) - 1 ∧ i = .int .i64 v ∧ s = .slice a1 (7 - j) c1 ∧ Hid (Own wr (w.heap.size + 1) 5 .u8 a1 c1 (kd :: toI ((be 6 m).take (6 - j))) ∧ Below (w.heap.size + 1) w3 wr)) (fun _ i _ => (intOf i + 1).toNat)
      case atStart => exact ⟨6, 5, _, _, Nat.le_refl _, by omega, rfl, rfl, H3.out⟩
      case round =>
        obtain ⟨j, v, a1, c1, hj, hv, rfl, rfl, hrel⟩ := hrel
        have bx := Box.facts (Row.below BA.out.1 hrel.out.2 (Nat.lt_succ_self _))
        obtain ⟨b0, b1, b2⟩ := bx
        have hm' : n + 1000000000000 = (m : Int) := hm.symm
        clear hm m0
        rcases (show j = 0 ∨ j = 1 ∨ j = 2 ∨ j = 3 ∨ j = 4 ∨ j = 5 ∨ j = 6 by omega) with rfl | rfl | rfl | rfl | rfl | rfl | rfl
        · obtain rfl : v = -1 := by omega
          clear hj hv hm'
          have HL := Lib.hid (show (kd :: toI (be 6 m)).length = 7 by simp)
          have ho4 : Own wr (w.heap.size + 1) 5 .u8 a1 c1 (kd :: toI (be 6 m)) := hrel.out.1
          have hbw := BA.out.2.trans (hrel.out.2.mono (Nat.le_succ _))
          have hsz2 : w.heap.size + 1 ≤ wr.heap.size := Nat.le_trans hsz hrel.out.2.size
          have HT := Lib.hid (Lib.run_convert_string_bytes (P := Try.prog) wr 9 22 5 s Try.underlying9 Try.underlying22 Try.underlying5)
          have HT1 := Lib.hid (And.intro (L3.strB_reads wr 5 s) (L3.strB_below wr 5 s))
          obtain ⟨wb, hwb⟩ : ∃ x, x = Lib.bytesWorld wr 5 s := ⟨_, rfl⟩
          obtain ⟨cp, hcp⟩ : ∃ x, x = grownCap wr s.size 0 5 := ⟨_, rfl⟩
          rw [← hwb, ← hcp] at HT
          rw [← hwb] at HT1
          clear hwb hcp
          have hcv := HT.out
          go_wp2_with (at_builtin; refine wpList_append_src _ rfl _ _ 22 rfl (w.heap.size + 1) 5 i0 (.int .u8 0) 1 Try.underlying22 hi hz0 hz1 hz2 rfl .u8 a1 _ c1 (kd :: toI (be 6 m)) rfl HL.out.symm (ho4.below HT1.out.2) _ _ _ _ (L3.strB s) rfl (L3.strB_length s).symm HT1.out.1 (by rw [L3.strB_length, HL.out]; unfold maxLen; omega) (by rw [L3.strB_length, HL.out]; omega) (Nat.le_trans hsz2 HT1.out.2.size) ?_; intro a9 c9 w9 ho9 hg9)
          go_ret
          have q1 := HT1.out.2
          rw [HE.out]
          refine Gave.mk (by rw [List.length_append, HL.out]) (ho9.base (Nat.le_succ _)) ?_
          have q2 := hbw.trans (q1.mono hbw.size)
          exact q2.trans ((below_own (ho4.below q1) hg9 (Nat.le_trans hsz2 q1.size)).mono (Nat.le_succ _))
        · obtain rfl : v = 0 := by omega
          clear hj hv
          have HX := Lib.hid (show bits .and .i64 (m : Int) 255 % 256 = ((m / 1 % 256 : Nat) : Int) from by have := byte_step m 1 hm2; simpa using this)
          go_wp2_with (at_builtin; refine wpList_append_src _ rfl _ _ 22 rfl (w.heap.size + 1) 5 i0 (.int .u8 0) 1 Try.underlying22 hi hz0 hz1 hz2 rfl .u8 a1 _ c1 (kd :: toI ((be 6 m).take 5)) rfl (by simp) (own_alloc hrel.out.1 _) _ _ 1 1 [_] rfl rfl (reads_one _ _ _ _) (by simp [maxLen]) (by simp) (Nat.le_trans hsz (Nat.le_trans hrel.out.2.size (by simp))) ?_; intro a2 c2 w2 ho2 hg2)
          have q1 := below_alloc hrel.out.2 (.cells #[.int .u8 (bits .and .i64 (m : Int) 255 % 256)] 5) hsz
          have q2 := q1.trans (below_own (own_alloc hrel.out.1 _) hg2 (Nat.le_trans hsz q1.size))
          have HS := Lib.hid (show toI ((be 6 m).take (6 - 0)) = toI ((be 6 m).take (6 - 1)) ++ [((m / 1 % 256 : Nat) : Int)] from six_step m 1 (by omega) (by omega))
          have HH := Lib.hid (And.intro ho2 q2)
          clear ho2 hg2 q1 q2
          go_roundw
          case rel =>
            refine ⟨0, -1, a2, c2, by omega, by omega, by go_num, by simp, And.intro ?_ HH.out.2⟩
            have h1 := HH.out.1
            rw [HX.out] at h1
            have h2 := HS.out
            rw [h2]
            exact h1
          case measure => simp [intOf]
        · obtain rfl : v = 1 := by omega
          clear hj hv
          have HX := Lib.hid (show bits .and .i64 ((m : Int) / 256) 255 % 256 = ((m / 256 % 256 : Nat) : Int) from byte_step m 256 hm2)
          go_wp2_with (at_builtin; refine wpList_append_src _ rfl _ _ 22 rfl (w.heap.size + 1) 5 i0 (.int .u8 0) 1 Try.underlying22 hi hz0 hz1 hz2 rfl .u8 a1 _ c1 (kd :: toI ((be 6 m).take 4)) rfl (by simp) (own_alloc hrel.out.1 _) _ _ 1 1 [_] rfl rfl (reads_one _ _ _ _) (by simp [maxLen]) (by simp) (Nat.le_trans hsz (Nat.le_trans hrel.out.2.size (by simp))) ?_; intro a2 c2 w2 ho2 hg2)
          have q1 := below_alloc hrel.out.2 (.cells #[.int .u8 (bits .and .i64 ((m : Int) / 256) 255 % 256)] 5) hsz
          have q2 := q1.trans (below_own (own_alloc hrel.out.1 _) hg2 (Nat.le_trans hsz q1.size))
          have HS := Lib.hid (show toI ((be 6 m).take (6 - 1)) = toI ((be 6 m).take (6 - 2)) ++ [((m / 256 % 256 : Nat) : Int)] from six_step m 2 (by omega) (by omega))
          have HH := Lib.hid (And.intro ho2 q2)
          clear ho2 hg2 q1 q2
          go_roundw
          case rel =>
            refine ⟨1, 0, a2, c2, by omega, by omega, by go_num, by simp, And.intro ?_ HH.out.2⟩
            have h1 := HH.out.1
            rw [HX.out] at h1
            have h2 := HS.out
            rw [h2]
            exact h1
          case measure => simp [intOf]
        · obtain rfl : v = 2 := by omega
          clear hj hv
          have HX := Lib.hid (show bits .and .i64 ((m : Int) / 65536) 255 % 256 = ((m / 65536 % 256 : Nat) : Int) from byte_step m 65536 hm2)
          go_wp2_with (at_builtin; refine wpList_append_src _ rfl _ _ 22 rfl (w.heap.size + 1) 5 i0 (.int .u8 0) 1 Try.underlying22 hi hz0 hz1 hz2 rfl .u8 a1 _ c1 (kd :: toI ((be 6 m).take 3)) rfl (by simp) (own_alloc hrel.out.1 _) _ _ 1 1 [_] rfl rfl (reads_one _ _ _ _) (by simp [maxLen]) (by simp) (Nat.le_trans hsz (Nat.le_trans hrel.out.2.size (by simp))) ?_; intro a2 c2 w2 ho2 hg2)
          have q1 := below_alloc hrel.out.2 (.cells #[.int .u8 (bits .and .i64 ((m : Int) / 65536) 255 % 256)] 5) hsz
          have q2 := q1.trans (below_own (own_alloc hrel.out.1 _) hg2 (Nat.le_trans hsz q1.size))
          have HS := Lib.hid (show toI ((be 6 m).take (6 - 2)) = toI ((be 6 m).take (6 - 3)) ++ [((m / 65536 % 256 : Nat) : Int)] from six_step m 3 (by omega) (by omega))
          have HH := Lib.hid (And.intro ho2 q2)
          clear ho2 hg2 q1 q2
          go_roundw
          case rel =>
            refine ⟨2, 1, a2, c2, by omega, by omega, by go_num, by simp, And.intro ?_ HH.out.2⟩
            have h1 := HH.out.1
            rw [HX.out] at h1
            have h2 := HS.out
            rw [h2]
            exact h1
          case measure => simp [intOf]
        · obtain rfl : v = 3 := by omega
          clear hj hv
          have HX := Lib.hid (show bits .and .i64 ((m : Int) / 16777216) 255 % 256 = ((m / 16777216 % 256 : Nat) : Int) from byte_step m 16777216 hm2)
          go_wp2_with (at_builtin; refine wpList_append_src _ rfl _ _ 22 rfl (w.heap.size + 1) 5 i0 (.int .u8 0) 1 Try.underlying22 hi hz0 hz1 hz2 rfl .u8 a1 _ c1 (kd :: toI ((be 6 m).take 2)) rfl (by simp) (own_alloc hrel.out.1 _) _ _ 1 1 [_] rfl rfl (reads_one _ _ _ _) (by simp [maxLen]) (by simp) (Nat.le_trans hsz (Nat.le_trans hrel.out.2.size (by simp))) ?_; intro a2 c2 w2 ho2 hg2)
          have q1 := below_alloc hrel.out.2 (.cells #[.int .u8 (bits .and .i64 ((m : Int) / 16777216) 255 % 256)] 5) hsz
          have q2 := q1.trans (below_own (own_alloc hrel.out.1 _) hg2 (Nat.le_trans hsz q1.size))
          have HS := Lib.hid (show toI ((be 6 m).take (6 - 3)) = toI ((be 6 m).take (6 - 4)) ++ [((m / 16777216 % 256 : Nat) : Int)] from six_step m 4 (by omega) (by omega))
          have HH := Lib.hid (And.intro ho2 q2)
          clear ho2 hg2 q1 q2
          go_roundw
          case rel =>
            refine ⟨3, 2, a2, c2, by omega, by omega, by go_num, by simp, And.intro ?_ HH.out.2⟩
            have h1 := HH.out.1
            rw [HX.out] at h1
            have h2 := HS.out
            rw [h2]
            exact h1
          case measure => simp [intOf]
        · obtain rfl : v = 4 := by omega
          clear hj hv
          have HX := Lib.hid (show bits .and .i64 ((m : Int) / 4294967296) 255 % 256 = ((m / 4294967296 % 256 : Nat) : Int) from byte_step m 4294967296 hm2)
          go_wp2_with (at_builtin; refine wpList_append_src _ rfl _ _ 22 rfl (w.heap.size + 1) 5 i0 (.int .u8 0) 1 Try.underlying22 hi hz0 hz1 hz2 rfl .u8 a1 _ c1 (kd :: toI ((be 6 m).take 1)) rfl (by simp) (own_alloc hrel.out.1 _) _ _ 1 1 [_] rfl rfl (reads_one _ _ _ _) (by simp [maxLen]) (by simp) (Nat.le_trans hsz (Nat.le_trans hrel.out.2.size (by simp))) ?_; intro a2 c2 w2 ho2 hg2)
          have q1 := below_alloc hrel.out.2 (.cells #[.int .u8 (bits .and .i64 ((m : Int) / 4294967296) 255 % 256)] 5) hsz
          have q2 := q1.trans (below_own (own_alloc hrel.out.1 _) hg2 (Nat.le_trans hsz q1.size))
          have HS := Lib.hid (show toI ((be 6 m).take (6 - 4)) = toI ((be 6 m).take (6 - 5)) ++ [((m / 4294967296 % 256 : Nat) : Int)] from six_step m 5 (by omega) (by omega))
          have HH := Lib.hid (And.intro ho2 q2)
          clear ho2 hg2 q1 q2
          go_roundw
          case rel =>
            refine ⟨4, 3, a2, c2, by omega, by omega, by go_num, by simp, And.intro ?_ HH.out.2⟩
            have h1 := HH.out.1
            rw [HX.out] at h1
            have h2 := HS.out
            rw [h2]
            exact h1
          case measure => simp [intOf]
        · obtain rfl : v = 5 := by omega
          clear hj hv
          have HX := Lib.hid (show bits .and .i64 ((m : Int) / 1099511627776) 255 % 256 = ((m / 1099511627776 % 256 : Nat) : Int) from byte_step m 1099511627776 hm2)
          go_wp2_with (at_builtin; refine wpList_append_src _ rfl _ _ 22 rfl (w.heap.size + 1) 5 i0 (.int .u8 0) 1 Try.underlying22 hi hz0 hz1 hz2 rfl .u8 a1 _ c1 (kd :: toI ((be 6 m).take 0)) rfl (by simp) (own_alloc hrel.out.1 _) _ _ 1 1 [_] rfl rfl (reads_one _ _ _ _) (by simp [maxLen]) (by simp) (Nat.le_trans hsz (Nat.le_trans hrel.out.2.size (by simp))) ?_; intro a2 c2 w2 ho2 hg2)
          have q1 := below_alloc hrel.out.2 (.cells #[.int .u8 (bits .and .i64 ((m : Int) / 1099511627776) 255 % 256)] 5) hsz
          have q2 := q1.trans (below_own (own_alloc hrel.out.1 _) hg2 (Nat.le_trans hsz q1.size))
          have HS := Lib.hid (show toI ((be 6 m).take (6 - 5)) = toI ((be 6 m).take (6 - 6)) ++ [((m / 1099511627776 % 256 : Nat) : Int)] from six_step m 6 (by omega) (by omega))
          have HH := Lib.hid (And.intro ho2 q2)
          clear ho2 hg2 q1 q2
          go_roundw
          case rel =>
            refine ⟨5, 4, a2, c2, by omega, by omega, by go_num, by simp, And.intro ?_ HH.out.2⟩
            have h1 := HH.out.1
            rw [HX.out] at h1
            have h2 := HS.out
            rw [h2]
            exact h1
          case measure => simp [intOf]
end Go.Proofs.Ytenmdecooamaaaa.L4
