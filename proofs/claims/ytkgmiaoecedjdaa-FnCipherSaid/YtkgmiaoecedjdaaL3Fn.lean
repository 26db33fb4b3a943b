/-
  The contracts of chapter 3's other functions: BytesToInts, DeriveFromString, IsValidKey, Encrypt, Decrypt, of the specification and of the program. Conditions: the slice reads as a list of at most 2^40 bytes (2^27 where the specification's Encrypt is called).
-/
import Derived.Test.YtkgmiaoecedjdaaL3Hash
import Derived.Test.YtkgmiaoecedjdaaL1Min
import Derived.Test.YtkgmiaoecedjdaaL2Rd2
import Derived.Lib.ConvBytes
namespace Go.Proofs.Ytkgmiaoecedjdaa.L3
open Go.ChangeShapes Go.WideShapes Go.ChangeAt Go.RowKit Mem Sl Ex L2
set_option linter.unusedVariables false

theorem implBytesToInts_any (a : Option Addr) (c : Nat) (l : List Int) (w : World) (hr : Reads w w.heap.size a (ints .u8 l)) (hb : Byt l) (hl : l.length ≤ 1000000000) :
    Calls Try.prog 33 #[.slice a l.length c] w (Gave w w.heap.size 3 .i64 (b2i l)) := by
  obtain ⟨i0, hi, hz0, hz1, hz2⟩ := infoOf _ _ _ _ info64h
  obtain ⟨n, hn⟩ : ∃ n, n = l.length := ⟨_, rfl⟩
  have hl' : n ≤ 1000000000 := by omega
  rw [← hn]
  have HN := Lib.hid hn
  have H := Lib.hid (And.intro hr hb)
  clear hn hr hb hl
  go_enter Try.func33, Try.ntmps33
  go_wp2_with (first
    | (at_make; refine wpList_make_own _ rfl _ _ 28 rfl w.heap.size 3 i0 (.int .i64 0) 1 Try.underlying28 hi hz0 hz1 _ _ _ (n + 1) rfl rfl (by omega) (by rw [hz2]; omega) (by unfold maxLen; omega) (Nat.le_refl _) ?_; intro w1 hown hgrow; have ho1 : Own w1 w.heap.size 3 .i64 (some ⟨w.heap.size, 0, none⟩) (n + 1) [] := hown)
    | (at_builtin; refine wpList_append_src _ rfl _ _ 28 rfl w.heap.size 3 i0 (.int .i64 0) 8 Try.underlying28 hi hz0 hz1 hz2 rfl .i64 _ _ _ [] rfl rfl (own_alloc ho1 _) _ _ 1 1 [_] rfl rfl (reads_one _ _ _ _) (by simp [maxLen]) (by simp) (Nat.le_trans hgrow.size (by simp)) ?_; intro a2 c2 w2 ho2 hg2))
  have hb1 := (Below.refl w.heap.size w).grown hgrow (Nat.le_refl _) (by simp)
  have hb2 := below_alloc hb1 (.cells #[.int .i64 n] 3) (Nat.le_refl _)
  have hb3 := hb2.trans (below_own (own_alloc ho1 _) hg2 hb2.size)
  have H1 := Lib.hid (And.intro ho2 hb3)
  clear hb1 hb2 hb3 ho2 hg2 ho1 hown hgrow
  go_loopw [3, 17] (fun s i wr => ∃ (k : Nat) (a1 : Option Addr) (c1 : Nat), k ≤ n ∧ i = .int .i64 k ∧ s = .slice a1 (k + 1) c1 ∧ Hid (Own wr w.heap.size 3 .i64 a1 c1 ((n : Int) :: l.take k) ∧ Below w.heap.size w wr)) (fun _ i _ => n - (intOf i).toNat)
  case atStart => exact ⟨0, _, _, Nat.zero_le _, rfl, rfl, H1.out⟩
  case round =>
    obtain ⟨k, a1, c1, hk, rfl, rfl, hrel⟩ := hrel
    by_cases hlt : k < n
    · obtain ⟨ad, rfl, -, hcell⟩ := (H.out.1.below hrel.out.2).int k (by have := HN.out; omega)
      obtain ⟨x, hx⟩ : ∃ x, x = l[k]'(by have := HN.out; omega) := ⟨_, rfl⟩
      obtain ⟨hx0, hx1⟩ : 0 ≤ x ∧ x ≤ 255 := by rw [hx]; exact H.out.2 _ (List.getElem_mem _)
      rw [← hx] at hcell
      have HS := Lib.hid (show (n : Int) :: l.take (k + 1) = ((n : Int) :: l.take k) ++ [x] by rw [List.take_succ_eq_append_getElem (by have := HN.out; omega), ← hx]; rfl)
      have HL := Lib.hid (show k + 1 = ((n : Int) :: l.take k).length by have := HN.out; simp; omega)
      clear hx
      go_wp2_with (at_builtin; refine wpList_append_src _ rfl _ _ 28 rfl w.heap.size 3 i0 (.int .i64 0) 8 Try.underlying28 hi hz0 hz1 hz2 rfl .i64 a1 _ c1 ((n : Int) :: l.take k) rfl HL.out (own_alloc hrel.out.1 _) _ _ 1 1 [_] rfl rfl (reads_one _ _ _ _) (by have := HL.out; simp only [List.length_singleton, maxLen]; omega) (by have := HL.out; simp only [List.length_singleton]; omega) (Nat.le_trans hrel.out.2.size (by simp)) ?_; intro a2 c2 w2 ho2 hg2; rw [← HL.out])
      have hb1 := below_alloc hrel.out.2 (.cells #[.int .i64 x] 3) (Nat.le_refl _)
      have hb2 := hb1.trans (below_own (own_alloc hrel.out.1 _) hg2 hb1.size)
      have HH := Lib.hid (And.intro ho2 hb2)
      clear ho2 hg2 hb1 hb2
      go_roundw
      case rel => exact ⟨k + 1, a2, c2, by omega, by go_num, rfl, And.intro (by rw [HS.out]; exact HH.out.1) HH.out.2⟩
      case measure => simp [intOf]; omega
    · go_wp2
      go_ret
      obtain rfl : k = n := by omega
      obtain ⟨ho, hb⟩ := hrel.out
      have e1 : (k : Int) :: l.take k = b2i l := by unfold b2i; rw [HN.out, List.take_length]
      rw [e1] at ho
      exact Gave.mk (by rw [HN.out]; rfl) ho hb
theorem specBytesToInts_any (a : Option Addr) (c : Nat) (l : List Int) (w : World) (hr : Reads w w.heap.size a (ints .u8 l)) (hb : Byt l) (hl : l.length ≤ 1000000000) :
    Calls Try.prog 31 #[.slice a l.length c] w (Gave w w.heap.size 3 .i64 (b2i l)) := by
  obtain ⟨i0, hi, hz0, hz1, hz2⟩ := infoOf _ _ _ _ info64h
  obtain ⟨n, hn⟩ : ∃ n, n = l.length := ⟨_, rfl⟩
  have hl' : n ≤ 1000000000 := by omega
  rw [← hn]
  have HN := Lib.hid hn
  have H := Lib.hid (And.intro hr hb)
  have H1 := Lib.hid (And.intro (own_lit w 3 .i64 [(n : Int)] (Nat.le_refl w.heap.size) (by simp [maxLen])) (below_alloc (Below.refl w.heap.size w) (.cells #[.int .i64 n] 3) (Nat.le_refl _)))
  clear hn hr hb hl
  go_enter Try.func31, Try.ntmps31
  go_wp2
  go_loopw [3, 4] (fun s i wr => ∃ (k : Nat) (a1 : Option Addr) (c1 : Nat), k ≤ n ∧ i = .int .i64 k ∧ s = .slice a1 (k + 1) c1 ∧ Hid (Own wr w.heap.size 3 .i64 a1 c1 ((n : Int) :: l.take k) ∧ Below w.heap.size w wr)) (fun _ i _ => n - (intOf i).toNat)
  case atStart => exact ⟨0, _, _, Nat.zero_le _, rfl, rfl, H1.out⟩
  case round =>
    obtain ⟨k, a1, c1, hk, rfl, rfl, hrel⟩ := hrel
    by_cases hlt : k < n
    · obtain ⟨ad, rfl, -, hcell⟩ := (H.out.1.below hrel.out.2).int k (by have := HN.out; omega)
      obtain ⟨x, hx⟩ : ∃ x, x = l[k]'(by have := HN.out; omega) := ⟨_, rfl⟩
      obtain ⟨hx0, hx1⟩ : 0 ≤ x ∧ x ≤ 255 := by rw [hx]; exact H.out.2 _ (List.getElem_mem _)
      rw [← hx] at hcell
      have HS := Lib.hid (show (n : Int) :: l.take (k + 1) = ((n : Int) :: l.take k) ++ [x] by rw [List.take_succ_eq_append_getElem (by have := HN.out; omega), ← hx]; rfl)
      have HL := Lib.hid (show k + 1 = ((n : Int) :: l.take k).length by have := HN.out; simp; omega)
      clear hx
      go_wp2_with (at_builtin; refine wpList_append_src _ rfl _ _ 28 rfl w.heap.size 3 i0 (.int .i64 0) 8 Try.underlying28 hi hz0 hz1 hz2 rfl .i64 a1 _ c1 ((n : Int) :: l.take k) rfl HL.out (own_alloc hrel.out.1 _) _ _ 1 1 [_] rfl rfl (reads_one _ _ _ _) (by have := HL.out; simp only [List.length_singleton, maxLen]; omega) (by have := HL.out; simp only [List.length_singleton]; omega) (Nat.le_trans hrel.out.2.size (by simp)) ?_; intro a2 c2 w2 ho2 hg2; rw [← HL.out])
      have hb1 := below_alloc hrel.out.2 (.cells #[.int .i64 x] 3) (Nat.le_refl _)
      have hb2 := hb1.trans (below_own (own_alloc hrel.out.1 _) hg2 hb1.size)
      have HH := Lib.hid (And.intro ho2 hb2)
      clear ho2 hg2 hb1 hb2
      go_roundw
      case rel => exact ⟨k + 1, a2, c2, by omega, by go_num, rfl, And.intro (by rw [HS.out]; exact HH.out.1) HH.out.2⟩
      case measure => simp [intOf]; omega
    · go_wp2
      go_ret
      obtain rfl : k = n := by omega
      obtain ⟨ho, hb⟩ := hrel.out
      have e1 : (k : Int) :: l.take k = b2i l := by unfold b2i; rw [HN.out, List.take_length]
      rw [e1] at ho
      exact Gave.mk (by rw [HN.out]; rfl) ho hb

theorem implIsValidKey_any (n : Int) (w : World) :
    Calls Try.prog 24 #[.int .i64 n] w fun e w' => e = .returned (.bool (L1.inB n 1 2147483646)) ∧ w = w' := by
  have H := Lib.hid (fun w => L1.inRange_any n 1 2147483646 w)
  go_enter Try.func24, Try.ntmps24
  go_wp2_with (go_at_call 53; refine (H.out _).mono ?_; rintro e w1 ⟨rfl, rfl⟩)
  go_ret
  exact ⟨rfl, rfl⟩
theorem specIsValidKey_any (n : Int) (w : World) :
    Calls Try.prog 30 #[.int .i64 n] w fun e w' => e = .returned (.bool (L1.inB n 1 2147483646)) ∧ w = w' := by
  have H := Lib.hid (fun w => L1.l1In_any n 1 2147483646 w)
  go_enter Try.func30, Try.ntmps30
  go_wp2_with (go_at_call 51; refine (H.out _).mono ?_; rintro e w1 ⟨rfl, rfl⟩)
  go_ret
  exact ⟨rfl, rfl⟩

/-! ### a string's bytes -/
def strB (s : ByteArray) : List Int := s.data.toList.map fun b => (b.toNat : Int)
theorem strB_length (s : ByteArray) : (strB s).length = s.size := by unfold strB; rw [List.length_map, Array.length_toList]; rfl
theorem strB_byt (s : ByteArray) : Byt (strB s) := by
  intro x hx
  obtain ⟨b, _, rfl⟩ := List.mem_map.1 hx
  have := b.toNat_lt
  exact ⟨by omega, by omega⟩
theorem strB_reads (w : World) (e : TypeId) (s : ByteArray) : Reads (Lib.bytesWorld w e s) (Lib.bytesWorld w e s).heap.size (some ⟨w.heap.size, 0, none⟩) (ints .u8 (strB s)) := fun j hj => by
  have hj' : j < s.size := by rw [ints_length, strB_length] at hj; exact hj
  refine ⟨_, rfl, by rw [Lib.bytesWorld_size]; simp, ?_⟩
  have h1 := Lib.bytesWorld_cell w e s j hj'
  have hj2 : j < s.data.toList.length := by rw [Array.length_toList]; exact hj'
  rw [Addr.add_lit, Nat.zero_add, h1, ints_get _ _ _ (by rw [strB_length]; exact hj')]
  unfold strB
  rw [List.getElem_map, List.getD_eq_getElem?_getD, List.getElem?_eq_getElem hj2]
  rfl
theorem strB_below (w : World) (e : TypeId) (s : ByteArray) : Below w.heap.size w (Lib.bytesWorld w e s) :=
  ⟨rfl, by unfold Lib.bytesWorld World.freeze; rfl, rfl, by rw [Lib.bytesWorld_size]; omega, fun j hj => Lib.bytesWorld_at_old w e s j hj⟩

theorem implMax_b (a b : Int) (w : World) :
    Calls Try.prog 54 #[.int .i64 a, .int .i64 b] w fun e w' => e = .returned (.int .i64 (max a b)) ∧ Below w.heap.size w w' := by
  have hc : (w.alloc (.cells #[.int .i64 b] 3)).cell? ⟨w.heap.size, 0, none⟩ = some (.int .i64 b) := by simp [go_sem]
  go_enter Try.func54, Try.ntmps54
  go_wp2_with (go_at_call 62; refine (L1.extremes_one _ _ _ _ hc).mono ?_; rintro e w' ⟨rfl, rfl⟩)
  go_ret
  exact ⟨rfl, by repeat (first | exact Below.refl _ _ | apply Below.drew | (refine Below.alloc ?_ (Nat.le_refl _) _))⟩
theorem specMax_b (a b : Int) (w : World) :
    Calls Try.prog 55 #[.int .i64 a, .int .i64 b] w fun e w' => e = .returned (.int .i64 (max a b)) ∧ Below w.heap.size w w' :=
  (L1.specMax_any a b w).mono fun _ _ ⟨he, hw⟩ => ⟨he, by rw [← hw]; exact Below.refl _ _⟩
theorem implDeriveFromString_any (k : Int) (s : ByteArray) (w : World) (hl : s.size ≤ 100000000) :
    Calls Try.prog 25 #[.int .i64 k, .string s] w fun e w' => e = .returned (.int .i64 (derive k (strB s))) ∧ Below w.heap.size w w' := by
  have hcv := Lib.run_convert_string_bytes (P := Try.prog) w 9 22 5 s Try.underlying9 Try.underlying22 Try.underlying5
  have hb1 := strB_below w 5 s
  have hr1 := strB_reads w 5 s
  have hy := strB_byt s
  have hn := strB_length s
  obtain ⟨w1, hw1⟩ : ∃ x, x = Lib.bytesWorld w 5 s := ⟨_, rfl⟩
  obtain ⟨cp, hcp⟩ : ∃ x, x = grownCap w s.size 0 5 := ⟨_, rfl⟩
  obtain ⟨l, hl2⟩ : ∃ l, l = strB s := ⟨_, rfl⟩
  rw [← hw1, ← hcp] at hcv
  rw [← hw1] at hb1 hr1
  rw [← hl2] at hr1 hy hn ⊢
  rw [← hn] at hcv hl
  clear hw1 hcp hl2 hn
  have H1 := Lib.hid (implBytesToInts_any (some ⟨w.heap.size, 0, none⟩) cp l w1 hr1 hy (by omega))
  obtain ⟨n, hn⟩ : ∃ n, n = l.length := ⟨_, rfl⟩
  obtain ⟨x, hx⟩ : ∃ x, kh k (b2i l) = x := ⟨_, rfl⟩
  have e1 : (b2i l).length = n + 1 := by rw [hn]; rfl
  have e2 : derive k l = max 1 x := by unfold derive; rw [hx]
  have hk : ∀ (w2 : World) (a2 : Option Addr) (c2 : Nat), Reads w2 w2.heap.size a2 (ints .i64 (b2i l)) → Calls Try.prog 19 #[.int .i64 k, .slice a2 (n + 1) c2] w2 fun e w' => e = .returned (.int .i64 x) ∧ Below w2.heap.size w2 w' := fun w2 a2 c2 h2 => by
    rw [← e1, ← hx]
    exact implKeyedHash_any k a2 c2 (b2i l) w2 _ h2 (Nat.le_refl _) (by omega)
  have HK := Lib.hid hk
  rw [← hn] at hcv H1
  unfold Gave at H1
  rw [e1] at H1
  rw [e2]
  have HM := Lib.hid (fun w => implMax_b 1 x w)
  have HB := Lib.hid hb1
  clear hr1 hy hl hn hx e1 e2 hk hb1
  go_enter Try.func25, Try.ntmps25
  go_wp2_with fail
  go_at_call 33
  refine H1.out.mono ?_
  rintro e w2 ⟨a2, c2, rfl, ho2, hb2⟩
  go_wp2_with fail
  go_at_call 19
  refine (HK.out w2 a2 c2 ho2.reads).mono ?_
  rintro e w3 ⟨rfl, hb3⟩
  go_wp2_with fail
  go_at_call 54
  refine (HM.out w3).mono ?_
  rintro e w4 ⟨rfl, hb4⟩
  go_wp2_with fail
  go_ret
  have q1 := HB.out.trans (hb2.mono HB.out.size)
  have q2 := q1.trans (hb3.mono q1.size)
  exact ⟨rfl, q2.trans (hb4.mono q2.size)⟩
theorem specDeriveFromString_any (k : Int) (s : ByteArray) (w : World) (hl : s.size ≤ 100000000) :
    Calls Try.prog 41 #[.int .i64 k, .string s] w fun e w' => e = .returned (.int .i64 (derive k (strB s))) ∧ Below w.heap.size w w' := by
  have hcv := Lib.run_convert_string_bytes (P := Try.prog) w 9 22 5 s Try.underlying9 Try.underlying22 Try.underlying5
  have hb1 := strB_below w 5 s
  have hr1 := strB_reads w 5 s
  have hy := strB_byt s
  have hn := strB_length s
  obtain ⟨w1, hw1⟩ : ∃ x, x = Lib.bytesWorld w 5 s := ⟨_, rfl⟩
  obtain ⟨cp, hcp⟩ : ∃ x, x = grownCap w s.size 0 5 := ⟨_, rfl⟩
  obtain ⟨l, hl2⟩ : ∃ l, l = strB s := ⟨_, rfl⟩
  rw [← hw1, ← hcp] at hcv
  rw [← hw1] at hb1 hr1
  rw [← hl2] at hr1 hy hn ⊢
  rw [← hn] at hcv hl
  clear hw1 hcp hl2 hn
  have H1 := Lib.hid (specBytesToInts_any (some ⟨w.heap.size, 0, none⟩) cp l w1 hr1 hy (by omega))
  obtain ⟨n, hn⟩ : ∃ n, n = l.length := ⟨_, rfl⟩
  obtain ⟨x, hx⟩ : ∃ x, kh k (b2i l) = x := ⟨_, rfl⟩
  have e1 : (b2i l).length = n + 1 := by rw [hn]; rfl
  have e2 : derive k l = max 1 x := by unfold derive; rw [hx]
  have hk : ∀ (w2 : World) (a2 : Option Addr) (c2 : Nat), Reads w2 w2.heap.size a2 (ints .i64 (b2i l)) → Calls Try.prog 29 #[.int .i64 k, .slice a2 (n + 1) c2] w2 fun e w' => e = .returned (.int .i64 x) ∧ Below w2.heap.size w2 w' := fun w2 a2 c2 h2 => by
    rw [← e1, ← hx]
    exact specKeyedHash_any k a2 c2 (b2i l) w2 _ h2 (Nat.le_refl _) (by omega)
  have HK := Lib.hid hk
  rw [← hn] at hcv H1
  unfold Gave at H1
  rw [e1] at H1
  rw [e2]
  have HM := Lib.hid (fun w => specMax_b 1 x w)
  have HB := Lib.hid hb1
  clear hr1 hy hl hn hx e1 e2 hk hb1
  go_enter Try.func41, Try.ntmps41
  go_wp2_with fail
  go_at_call 31
  refine H1.out.mono ?_
  rintro e w2 ⟨a2, c2, rfl, ho2, hb2⟩
  go_wp2_with fail
  go_at_call 29
  refine (HK.out w2 a2 c2 ho2.reads).mono ?_
  rintro e w3 ⟨rfl, hb3⟩
  go_wp2_with fail
  go_at_call 55
  refine (HM.out w3).mono ?_
  rintro e w4 ⟨rfl, hb4⟩
  go_wp2_with fail
  go_ret
  have q1 := HB.out.trans (hb2.mono HB.out.size)
  have q2 := q1.trans (hb3.mono q1.size)
  exact ⟨rfl, q2.trans (hb4.mono q2.size)⟩
end Go.Proofs.Ytkgmiaoecedjdaa.L3
