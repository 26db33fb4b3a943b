/-
  The contracts of chapter 5's readField and DecodeRecord of the program. Condition: at most 2^40 bytes.
-/
import Derived.Test.YtephiilicebdcaaL5Ic
import Derived.Test.YtephiilicebdcaaL5Dec
namespace Go.Proofs.Ytephiilicebdcaa.L5
set_option maxRecDepth 100000
open L4 (boxR push_box box_at)
open Go.ChangeShapes Go.WideShapes Go.ChangeAt Go.RowKit Mem Sl Ex L2 Sv
set_option linter.unusedVariables false
set_option linter.unusedSimpArgs false

/-- What readField leaves. -/
def GaveF (l : List Int) (off : Int) (w : World) (e : Ending) (w' : World) : Prop := Below w.heap.size w w' ∧
  ((rdF l off = none ∧ e = .returned (.tuple #[.agg #[.string ⟨#[]⟩, .int .i64 0], .int .i64 0, .bool false])) ∨
   ∃ t x p, rdF l off = some (⟨t, x⟩, p) ∧ e = .returned (.tuple #[.agg #[.string t, .int .i64 x], .int .i64 p, .bool true]) ∧ 0 ≤ p ∧ p ≤ l.length ∧ t.size ≤ 281474976710656)
theorem put_two {W w : World} {rs : List Res} {g : Nat} {t : TypeId} {x y x' y' : Value} (h : Sep W w rs) (i : Nat) (hi : rs[i]? = some (boxR g t #[x, y])) : Sep W ((w.setCell ⟨g, 0, none⟩ x').setCell ⟨g, 1, none⟩ y') (rs.set i (boxR g t #[x', y'])) := by
  have h1 := put_box5 h i hi 0 x'
  have h2 := put_box5 h1 i (by rw [List.getElem?_set_self (List.getElem?_eq_some_iff.1 hi).1]) 1 y'
  rw [List.set_set] at h2
  exact h2
set_option maxHeartbeats 4000000 in
theorem readField_any (a : Option Addr) (c : Nat) (l : List Int) (off : Int) (w : World) (hr : Reads w w.heap.size a (ints .u8 l)) (hb : Byt l) (hc : l.length ≤ c) (hl : l.length ≤ 1099511627776) (h0 : 0 ≤ off) (h1 : off ≤ l.length) :
    Calls Try.prog 40 #[.slice a l.length c, .int .i64 off] w (GaveF l off w) := by
  have HRD := Lib.hid (fun (o : Int) (h0 : 0 ≤ o) (h1 : o ≤ l.length) (w1 : World) (h : Below w.heap.size w w1) => show Calls Try.prog 39 #[.slice a l.length c, .int .i64 o] w1 (fun e w' => e = .returned (.tuple #[.int .i64 (rdN l o), .int .i64 (rdE l o), .bool (rdB l o)]) ∧ Below w1.heap.size w1 w') from implReadB_any a c l o w1 w.heap.size h.size (hr.below h) hb hc hl (by omega) (by omega))
  have HRB := Lib.hid (fun (o : Int) (h0 : 0 ≤ o) (h1 : o ≤ l.length) (w1 : World) (h : Below w.heap.size w w1) => implReadBytes_any a c l o 8 w1 ((hr.below h).more h.size) hb hc hl (by omega) (by omega))
  have HBD := Lib.hid (fun o => rd_bounds hb o)
  have HBE := Lib.hid (fun o => rbE_bounds hb o)
  obtain ⟨N, hN⟩ : ∃ n, n = l.length := ⟨_, rfl⟩
  rw [← hN] at HRD HRB hl h1 HBD HBE ⊢
  have HN := Lib.hid hN
  clear hN hr hb hc
  have hl' : (N : Int) ≤ 1099511627776 := by omega
  have S1 := Lib.hid (push_box (Sep.start w) 64 #[.string ⟨#[]⟩, .int .i64 0] w.heap.size rfl)
  obtain ⟨W1, hW1⟩ : ∃ u, u = w.alloc (.cells #[.string ⟨#[]⟩, .int .i64 0] 64) := ⟨_, rfl⟩
  rw [← hW1] at S1
  have HB := Lib.hid (HRB.out off h0 h1 W1 S1.out.old)
  have HP := Lib.hid (HBE.out off)
  obtain ⟨L1, hL1⟩ : ∃ v, v = rbL l off 8 := ⟨_, rfl⟩
  obtain ⟨p1, hp1⟩ : ∃ v, v = rbE l off 8 := ⟨_, rfl⟩
  obtain ⟨f1, hf1⟩ : ∃ v, v = rbB l off 8 := ⟨_, rfl⟩
  rw [← hL1, ← hp1, ← hf1] at HB
  rw [← hp1] at HP
  have HLL := Lib.hid (show L1.length ≤ N by rw [hL1, HN.out]; exact rbL_len l off)
  have HV1 := Lib.hid (And.intro hL1 (And.intro hp1 hf1))
  obtain ⟨hp2, hp3⟩ := HP.out
  clear hL1 hp1 hf1 HP
  go_enter Try.func40, Try.ntmps40
  go_upto_region 1 with fail
  rw [← hW1]
  clear hW1
  go_wp2_with fail
  go_at_call 65
  refine HB.out.mono ?_
  rintro e w5 ⟨a5, c5, rfl, ho5, hb5⟩
  have S5 := Lib.hid (Sep.pushOwn S1.out hb5 ho5)
  clear ho5 hb5 HB
  obtain ⟨z0, z1⟩ := Row.two (box_at S5.out 0 rfl)
  have z2 := (box_at S5.out 0 rfl).free 0
  have z3 := (box_at S5.out 0 rfl).free 1
  cases f1 with
  | false =>
    have S6 := Lib.hid (put_two (x' := .string ⟨#[]⟩) (y' := .int .i64 0) S5.out 0 rfl)
    go_wp2_with fail
    refine bodyPost_ret (v := .tuple #[.agg #[.string ⟨#[]⟩, .int .i64 0], .int .i64 0, .bool false]) (by simp [results, Try.results40, go_sem, z0, z1]) rfl ?_
    exact ⟨S6.out.old, .inl ⟨rdF_no HV1.out.2.2.symm, rfl⟩⟩
  | true =>
    have HQ := Lib.hid (HRD.out p1 hp2 hp3 w5 S5.out.old)
    have HB2 := Lib.hid (HBD.out p1)
    obtain ⟨v2, hv2'⟩ : ∃ v, v = rdN l p1 := ⟨_, rfl⟩
    obtain ⟨e2, he2'⟩ : ∃ v, v = rdE l p1 := ⟨_, rfl⟩
    obtain ⟨f2, hf2⟩ : ∃ v, v = rdB l p1 := ⟨_, rfl⟩
    rw [← hv2', ← he2', ← hf2] at HQ
    rw [← hv2', ← he2'] at HB2
    have HV2 := Lib.hid (And.intro hv2' (And.intro he2' hf2))
    clear hv2' he2' hf2
    go_wp2_with fail
    go_at_call 39
    refine HQ.out.mono ?_
    rintro e w6 ⟨rfl, hb6⟩
    have S6 := Lib.hid (S5.out.keep hb6)
    clear hb6 HQ z0 z1 z2 z3
    obtain ⟨z0, z1⟩ := Row.two (box_at S6.out 0 rfl)
    have z2 := (box_at S6.out 0 rfl).free 0
    have z3 := (box_at S6.out 0 rfl).free 1
    cases f2 with
    | false =>
      have S7 := Lib.hid (put_two (x' := .string ⟨#[]⟩) (y' := .int .i64 0) S6.out 0 rfl)
      go_wp2_with fail
      refine bodyPost_ret (v := .tuple #[.agg #[.string ⟨#[]⟩, .int .i64 0], .int .i64 0, .bool false]) (by simp [results, Try.results40, go_sem, z0, z1]) rfl ?_
      exact ⟨S7.out.old, .inl ⟨rdF_no2 (by rw [← HV1.out.2.1]; exact HV2.out.2.2.symm), rfl⟩⟩
    | true =>
      have HF := Lib.hid (show rdF l off = some (⟨strOfNums L1, v2⟩, e2) by rw [rdF_yes HV1.out.2.2.symm (by rw [← HV1.out.2.1]; exact HV2.out.2.2.symm), name_str, ← HV1.out.1, ← HV1.out.2.1, ← HV2.out.1, ← HV2.out.2.1])
      have HCV := Lib.hid (run_bytes_string (P := Try.prog) 22 5 9 Try.underlying22 Try.underlying5 Try.underlying9 a5 c5 L1 w6 _ (S6.out.own 1 rfl).reads)
      have HSZ := Lib.hid (show (strOfNums L1).size ≤ 281474976710656 by
        have h := strOfNums_size L1
        have := HLL.out
        omega)
      obtain ⟨t, ht⟩ : ∃ t, t = strOfNums L1 := ⟨_, rfl⟩
      rw [← ht] at HF HCV HSZ
      clear ht
      have hcv := HCV.out
      have S7 := Lib.hid (put_two (x' := .string t) (y' := .int .i64 v2) S6.out 0 rfl)
      obtain ⟨_, _, k0, k1⟩ := HB2.out
      go_wp2_with fail
      refine bodyPost_ret (v := .tuple #[.agg #[.string t, .int .i64 v2], .int .i64 e2, .bool true]) (by simp [results, Try.results40, go_sem, z0, z1]) rfl ?_
      exact ⟨S7.out.old, .inr ⟨t, v2, e2, HF.out, rfl, k0, by rw [← HN.out]; exact k1, HSZ.out⟩⟩
set_option maxHeartbeats 4000000 in
theorem decodeRecord_any (a : Option Addr) (c : Nat) (l : List Int) (w : World) (hr : Reads w w.heap.size a (ints .u8 l)) (hb : Byt l) (hc : l.length ≤ c) (hl : l.length ≤ 1099511627776) :
    Calls Try.prog 15 #[.slice a l.length c] w (GaveRB w (decL l) (decB l)) := by
  obtain ⟨i0, hi, hz0, hz1, hz2⟩ := fieldInfo
  have HI := Lib.hid (And.intro hi (And.intro hz0 (And.intro hz1 hz2)))
  have HRF0 := Lib.hid (fun (o : Int) (h0 : 0 ≤ o) (h1 : o ≤ l.length) (w1 : World) (h : Below w.heap.size w w1) => readField_any a c l o w1 ((hr.below h).more h.size) hb hc hl h0 h1)
  have HRD := Lib.hid (fun (w1 : World) (h : Below w.heap.size w w1) => show Calls Try.prog 39 #[.slice a l.length c, .int .i64 0] w1 (fun e w' => e = .returned (.tuple #[.int .i64 (rdN l 0), .int .i64 (rdE l 0), .bool (rdB l 0)]) ∧ Below w1.heap.size w1 w') from implReadB_any a c l 0 w1 w.heap.size h.size (hr.below h) hb hc hl (by omega) (by omega))
  have HN0 := Lib.hid (rd_bounds hb 0)
  have HDR := Lib.hid (decR_rr l)
  obtain ⟨N, hN⟩ : ∃ n, n = l.length := ⟨_, rfl⟩
  rw [← hN] at HRD HRF0 HN0 hl HDR ⊢
  have HN := Lib.hid hN
  clear hN hr hb hc
  have hl' : (N : Int) ≤ 1099511627776 := by omega
  obtain ⟨v0, hv0⟩ : ∃ v, v = rdN l 0 := ⟨_, rfl⟩
  obtain ⟨e0, he0⟩ : ∃ v, v = rdE l 0 := ⟨_, rfl⟩
  obtain ⟨b0, hb0⟩ : ∃ v, v = rdB l 0 := ⟨_, rfl⟩
  rw [← hv0, ← he0, ← hb0] at HRD
  rw [← hv0, ← he0] at HN0
  obtain ⟨hv1, hv2, he1, he2⟩ := HN0.out
  have HV := Lib.hid (And.intro hv0 (And.intro he0 hb0))
  clear hv0 he0 hb0 HN0
  have S1 := Lib.hid (push_box (Sep.start w) 26 #[.slice none 0 0] w.heap.size rfl)
  obtain ⟨W1, hW1⟩ : ∃ u, u = w.alloc (.cells #[.slice none 0 0] 26) := ⟨_, rfl⟩
  rw [← hW1] at S1
  have HNO := Lib.hid (show rrO l 0 = none → ∀ w' cs, Sep w w' (boxR w.heap.size 26 #[.slice none 0 0] :: cs) → GaveRB w (decL l) (decB l) (.returned (.tuple #[.agg #[.slice none 0 0], .bool false])) w' from fun h w' cs hS => by
    obtain ⟨a1, a2, a3⟩ := rr_none h
    have h2 := HDR.out
    rw [a3, Bool.false_and] at h2
    unfold GaveRB decL decB
    rw [h2]
    exact ⟨none, 0, rfl, OwnV.nil _ _ _ _, hS.old⟩)
  go_enter Try.func15, Try.ntmps15
  go_upto_region 1 with fail
  rw [← hW1]
  clear hW1
  go_wp2_with fail
  go_at_call 39
  refine (HRD.out _ S1.out.old).mono ?_
  rintro e w2 ⟨rfl, h2⟩
  have H2 := Lib.hid (S1.out.keep h2)
  clear h2 S1 HRD
  obtain ⟨z0, z1⟩ := Row.one (box_at H2.out 0 rfl)
  cases b0 with
  | false =>
    have HE := Lib.hid (show rrO l 0 = none by unfold rrO; rw [← HV.out.2.2]; rfl)
    have S3 := Lib.hid (put_box5 H2.out 0 rfl 0 (.slice none 0 0))
    go_wp2_with fail
    refine bodyPost_ret (v := .tuple #[.agg #[.slice none 0 0], .bool false]) (by simp [results, Try.results15, go_sem, z0]) rfl ?_
    exact HNO.out HE.out _ _ S3.out
  | true =>
    by_cases h6 : v0 ≤ 6
    rotate_left
    · have HE := Lib.hid (show rrO l 0 = none by unfold rrO; rw [← HV.out.2.2, ← HV.out.1, decide_eq_false h6]; rfl)
      have S3 := Lib.hid (put_box5 H2.out 0 rfl 0 (.slice none 0 0))
      have h6' : 6 < v0 := by omega
      go_wp2_with fail
      refine bodyPost_ret (v := .tuple #[.agg #[.slice none 0 0], .bool false]) (by simp [results, Try.results15, go_sem, z0]) rfl ?_
      exact HNO.out HE.out _ _ S3.out
    obtain ⟨n, hn0⟩ : ∃ k : Nat, v0 = k := ⟨v0.toNat, by omega⟩
    subst hn0
    have HRF := Lib.hid (show rrO l 0 = rdFs l e0 n by
      unfold rrO
      rw [← HV.out.2.2, ← HV.out.1, decide_eq_true h6, ← HV.out.2.1, Int.toNat_natCast]
      rfl)
    obtain ⟨G, hG⟩ : ∃ g, g = w2.heap.size := ⟨_, rfl⟩
    obtain ⟨w3, hw3⟩ : ∃ u, u = w2.alloc (.cells #[.slice none 0 0] 26) := ⟨_, rfl⟩
    have S3 := push_box H2.out 26 #[.slice none 0 0] G hG
    rw [← hw3] at S3
    have S4 := Lib.hid (push_own S3 (Below.refl _ _) (OwnV.nil w3 _ 64 2))
    clear S3
    go_upto_region 5 with fail
    rw [← hw3, ← hG]
    clear hw3 hG z0 z1 HV
    go_wp2
    go_loopw [5, 26] (fun o i wr => ∃ (k : Nat) (o1 : Int) (a1 : Option Addr) (c1 : Nat) (acc : List F), k ≤ n ∧ i = .int .i64 k ∧ o = .int .i64 o1 ∧ 0 ≤ o1 ∧ o1 ≤ N ∧ Hid (Sep w wr [boxR w.heap.size 26 #[.slice none 0 0], boxR G 26 #[.slice a1 k c1], ownV 64 2 a1 c1 k (cellsF acc)] ∧ RfMid l e0 n k acc o1 ∧ Small acc)) (fun _ i _ => n - (intOf i).toNat)
    case atStart => exact ⟨0, e0, none, 0, [], Nat.zero_le _, rfl, rfl, he1, he2, S4.out, RfMid.start _ _ _, fun f hf => by cases hf⟩
    case round =>
      obtain ⟨k, o1, a1, c1, acc, hk, rfl, rfl, ho0, ho1, hrel⟩ := hrel
      by_cases hlt : (k : Int) < (n : Int)
      · have HB := Lib.hid (HRF0.out o1 ho0 ho1 wr hrel.out.1.old)
        go_wp2_with fail
        go_at_call 40
        refine HB.out.mono ?_
        rintro e w5 ⟨hb5, hcase⟩
        have S5 := Lib.hid (hrel.out.1.keep hb5)
        have HCs := Lib.hid hcase
        clear hb5 hcase HB
        obtain ⟨z0, z1⟩ := Row.one (box_at S5.out 0 rfl)
        rcases HCs.out with ⟨hno, rfl⟩ | ⟨t, x, p, hyes, rfl, hp0, hp1, hts⟩
        · have HE := Lib.hid (show rrO l 0 = none by rw [HRF.out]; exact RfMid.none hrel.out.2.1 (by omega) hno)
          have S6 := Lib.hid (S5.out.alloc (.cells #[.string ⟨#[]⟩, .int .i64 0] 64))
          obtain ⟨w6, hw6⟩ : ∃ u, u = w5.alloc (.cells #[.string ⟨#[]⟩, .int .i64 0] 64) := ⟨_, rfl⟩
          rw [← hw6] at S6
          clear hno HCs z0 z1
          go_upto_region 8 with fail
          rw [← hw6]
          clear hw6
          obtain ⟨z0, z1⟩ := Row.one (box_at S6.out 0 rfl)
          have S7 := Lib.hid (put_box5 S6.out 0 rfl 0 (.slice none 0 0))
          go_wp2_with fail
          refine bodyPost_ret (v := .tuple #[.agg #[.slice none 0 0], .bool false]) (by simp [results, Try.results15, go_sem, z0]) rfl ?_
          exact HNO.out HE.out _ _ S7.out
        · have HF := Lib.hid hyes
          have HTS := Lib.hid hts
          rw [← HN.out] at hp1
          have S6 := Lib.hid (push_box S5.out 64 #[.string t, .int .i64 x] w5.heap.size rfl)
          obtain ⟨w6, hw6⟩ : ∃ u, u = w5.alloc (.cells #[.string t, .int .i64 x] 64) := ⟨_, rfl⟩
          rw [← hw6] at S6
          obtain ⟨g5, hg5⟩ : ∃ g, g = w5.heap.size := ⟨_, rfl⟩
          rw [← hg5] at S6
          clear hyes hts z0 z1 HCs
          go_upto_region 8 with fail
          rw [← hw6, ← hg5]
          clear hw6 hg5
          obtain ⟨f0, f1⟩ := Row.two (box_at S6.out 3 rfl)
          obtain ⟨r0, r1⟩ := Row.one (box_at S6.out 1 rfl)
          have S7 := Lib.hid (S6.out.alloc (.cells #[.string t, .int .i64 x] 64))
          have R2 := Lib.hid (reads_two w6 t x _ rfl 64)
          go_wp2_with (at_builtin; refine wpList_append_v S7.out 2 rfl rfl _ _ 24 (by rfl) i0 (.agg #[.string ⟨#[]⟩, .int .i64 0]) 24 Try.underlying24 HI.out.1 HI.out.2.1 HI.out.2.2.1 HI.out.2.2.2 rfl (by omega) _ (by rfl) rfl _ _ 1 _ _ (cellsF [⟨t, x⟩]) (by rfl) rfl R2.out rfl (cellsF_one _) (by unfold maxLen; omega) (by omega) ?_; intro a9 c9 w9 S9'; have S9 := Lib.hid S9'; clear S9'; obtain ⟨q0, q1⟩ := Row.one (box_at S9.out 1 rfl))
          have S10 := Lib.hid (sep_three (put_box5 S9.out 1 rfl 0 (.slice a9 (k + 1) c9)))
          clear q0 q1 r0 r1 f0 f1 S9
          go_roundw
          case rel => exact ⟨k + 1, p, a9, c9, acc ++ [⟨t, x⟩], by omega, by go_num, rfl, hp0, hp1, And.intro (by rw [cellsF_append]; exact S10.out) (And.intro (RfMid.next hrel.out.2.1 (by omega) HF.out) (fun f hf => by
            rcases List.mem_append.1 hf with h | h
            · exact hrel.out.2.2 f h
            · rw [List.mem_singleton.1 h]; exact HTS.out))⟩
          case measure => simp [intOf]; omega
      · obtain rfl : k = n := by omega
        have HD := Lib.hid (show rrO l 0 = some (acc, o1) by rw [HRF.out]; exact RfMid.done hrel.out.2.1)
        have HAL := Lib.hid hrel.out.2.1.1
        have S5 := Lib.hid hrel.out.1
        obtain ⟨br, hbr⟩ : ∃ b, isR acc = b := ⟨_, rfl⟩
        have hIS := isRecord_any a1 c1 acc (by rw [HAL.out]; omega) hrel.out.2.2 wr (own_at S5.out 2 rfl).reads
        rw [HAL.out, hbr] at hIS
        have HIS := Lib.hid hIS
        have HDec := Lib.hid (show decR l = if br && decide (o1 = (N : Int)) then some acc else none by
          obtain ⟨d1, d2, d3⟩ := rr_some HD.out
          have h := HDR.out
          rw [d1, d2, d3, hbr] at h
          exact h)
        clear hIS hbr
        obtain ⟨z0, z1⟩ := Row.one (box_at S5.out 0 rfl)
        obtain ⟨r0, r1⟩ := Row.one (box_at S5.out 1 rfl)
        by_cases hoN : o1 = (N : Int)
        · subst hoN
          cases br with
          | true =>
            go_wp2_with (go_at_call 18; refine HIS.out.mono ?_; rintro e w7 ⟨rfl, h7⟩; have S7 := Lib.hid (S5.out.keep h7); clear h7 z0 z1 r0 r1; obtain ⟨z0, z1⟩ := Row.one (box_at S7.out 0 rfl); obtain ⟨r0, r1⟩ := Row.one (box_at S7.out 1 rfl))
            have HE := Lib.hid (show decL l = acc ∧ decB l = true by unfold decL decB; rw [HDec.out]; simp)
            have S8 := Lib.hid (put_box5 S7.out 0 rfl 0 (.slice a1 k c1))
            go_wp2_with fail
            refine bodyPost_ret (v := .tuple #[.agg #[.slice a1 k c1], .bool true]) (by simp [results, Try.results15, go_sem, z0]) rfl ?_
            unfold GaveRB
            rw [HE.out.1, HE.out.2, HAL.out]
            exact ⟨a1, c1, rfl, own_from S8.out 2 rfl, S8.out.old⟩
          | false =>
            go_wp2_with (go_at_call 18; refine HIS.out.mono ?_; rintro e w7 ⟨rfl, h7⟩; have S7 := Lib.hid (S5.out.keep h7); clear h7 z0 z1 r0 r1; obtain ⟨z0, z1⟩ := Row.one (box_at S7.out 0 rfl); obtain ⟨r0, r1⟩ := Row.one (box_at S7.out 1 rfl))
            have HE := Lib.hid (show decL l = [] ∧ decB l = false by unfold decL decB; rw [HDec.out]; simp)
            have S8 := Lib.hid (put_box5 S7.out 0 rfl 0 (.slice none 0 0))
            go_wp2_with fail
            refine bodyPost_ret (v := .tuple #[.agg #[.slice none 0 0], .bool false]) (by simp [results, Try.results15, go_sem, z0]) rfl ?_
            unfold GaveRB
            rw [HE.out.1, HE.out.2]
            exact ⟨none, 0, rfl, OwnV.nil _ _ _ _, S8.out.old⟩
        · have HE := Lib.hid (show decL l = [] ∧ decB l = false by unfold decL decB; rw [HDec.out, decide_eq_false hoN, Bool.and_false]; exact ⟨rfl, rfl⟩)
          have S8 := Lib.hid (put_box5 S5.out 0 rfl 0 (.slice none 0 0))
          go_wp2_with fail
          refine bodyPost_ret (v := .tuple #[.agg #[.slice none 0 0], .bool false]) (by simp [results, Try.results15, go_sem, z0]) rfl ?_
          unfold GaveRB
          rw [HE.out.1, HE.out.2]
          exact ⟨none, 0, rfl, OwnV.nil _ _ _ _, S8.out.old⟩
end Go.Proofs.Ytephiilicebdcaa.L5
