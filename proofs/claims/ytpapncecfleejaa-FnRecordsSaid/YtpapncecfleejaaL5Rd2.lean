/-
  The contract of l5Read of the specification (chapter 5). Condition: at most 2^40 bytes.
-/
import Derived.Test.YtpapncecfleejaaL5Rd
import Derived.Test.YtpapncecfleejaaL5Set
namespace Go.Proofs.Ytpapncecfleejaa.L5
set_option maxRecDepth 100000
open L4 (boxR push_box box_at)
open Go.ChangeShapes Go.WideShapes Go.ChangeAt Go.RowKit Mem Sl Ex L2 Sv
set_option linter.unusedVariables false
set_option linter.unusedSimpArgs false
theorem rbL_len (l : List Int) (o : Int) : (rbL l o 8).length ≤ l.length := by
  cases h : rbB l o 8 with
  | false => rw [(rb_no h).1]; simp
  | true => rw [(rb_yes h).1, List.length_take, List.length_drop]; omega
theorem strOfNums_size (l : List Int) : (strOfNums l).size = l.length := by
  show (strOfNums l).data.size = _
  rw [← Array.length_toList, strOfNums_data]
  simp
set_option maxHeartbeats 4000000 in
theorem l5Read_any (a : Option Addr) (c : Nat) (l : List Int) (off : Int) (w : World) (hr : Reads w w.heap.size a (ints .u8 l)) (hb : Byt l) (hc : l.length ≤ c) (hl : l.length ≤ 1099511627776) (h0 : 0 ≤ off) (h1 : off ≤ l.length) :
    Calls Try.prog 78 #[.slice a l.length c, .int .i64 off] w (GaveRR w (rrL l off) (rrE l off) (rrB l off)) := by
  obtain ⟨i0, hi, hz0, hz1, hz2⟩ := fieldInfo
  have HI := Lib.hid (And.intro hi (And.intro hz0 (And.intro hz1 hz2)))
  have HRD := Lib.hid (fun (o : Int) (h0 : 0 ≤ o) (h1 : o ≤ l.length) (w1 : World) (h : Below w.heap.size w w1) => show Calls Try.prog 93 #[.slice a l.length c, .int .i64 o] w1 (fun e w' => e = .returned (.tuple #[.int .i64 (rdN l o), .int .i64 (rdE l o), .bool (rdB l o)]) ∧ Below w1.heap.size w1 w') from specReadB_any a c l o w1 w.heap.size h.size (hr.below h) hb hc hl (by omega) (by omega))
  have HRB := Lib.hid (fun (o : Int) (h0 : 0 ≤ o) (h1 : o ≤ l.length) (w1 : World) (h : Below w.heap.size w w1) => specReadBytes_any a c l o 8 w1 ((hr.below h).more h.size) hb hc hl (by omega) (by omega))
  have HBD := Lib.hid (fun o => rd_bounds hb o)
  have HBE := Lib.hid (fun o => rbE_bounds hb o)
  obtain ⟨N, hN⟩ : ∃ n, n = l.length := ⟨_, rfl⟩
  rw [← hN] at HRD HRB hl h1 HBD HBE ⊢
  have HN := Lib.hid hN
  clear hN hr hb hc
  have hl' : (N : Int) ≤ 1099511627776 := by omega
  have S0 := Sep.start w
  have S1 := push_box S0 26 #[.slice none 0 0] w.heap.size rfl
  obtain ⟨W1, hW1⟩ : ∃ u, u = w.alloc (.cells #[.slice none 0 0] 26) := ⟨_, rfl⟩
  rw [← hW1] at S1
  have H1 := Lib.hid S1
  clear S0 S1
  have HN0 := Lib.hid (HBD.out off)
  have HC0 := Lib.hid (HRD.out off h0 h1)
  obtain ⟨v0, hv0⟩ : ∃ v, v = rdN l off := ⟨_, rfl⟩
  obtain ⟨e0, he0⟩ : ∃ v, v = rdE l off := ⟨_, rfl⟩
  obtain ⟨b0, hb0⟩ : ∃ v, v = rdB l off := ⟨_, rfl⟩
  rw [← hv0, ← he0, ← hb0] at HC0
  rw [← hv0, ← he0] at HN0
  obtain ⟨hv1, hv2, he1, he2⟩ := HN0.out
  have HV := Lib.hid (And.intro hv0 (And.intro he0 hb0))
  clear hv0 he0 hb0 HN0
  go_enter Try.func78, Try.ntmps78
  go_upto_region 1 with fail
  rw [← hW1]
  clear hW1
  go_wp2_with fail
  go_at_call 93
  refine (HC0.out _ H1.out.old).mono ?_
  rintro e w2 ⟨rfl, h2⟩
  have H2 := Lib.hid (H1.out.keep h2)
  clear h2 H1 HC0
  obtain ⟨z0, z1⟩ := Row.one (box_at H2.out 0 rfl)
  have HNO := Lib.hid (show rrO l off = none → ∀ w' cs, Sep w w' (boxR w.heap.size 26 #[.slice none 0 0] :: cs) → GaveRR w (rrL l off) (rrE l off) (rrB l off) (.returned (.tuple #[.agg #[.slice none 0 0], .int .i64 0, .bool false])) w' from fun h w' cs hS => by
    obtain ⟨a1, a2, a3⟩ := rr_none h
    unfold GaveRR
    rw [a1, a2, a3]
    exact ⟨none, 0, rfl, OwnV.nil _ _ _ _, hS.old⟩)
  cases b0 with
  | false =>
    have HE := Lib.hid (show rrO l off = none by unfold rrO; rw [← HV.out.2.2]; rfl)
    have S3 := Lib.hid (put_box5 H2.out 0 rfl 0 (.slice none 0 0))
    go_wp2_with fail
    refine bodyPost_ret (v := .tuple #[.agg #[.slice none 0 0], .int .i64 0, .bool false]) (by simp [results, Try.results78, go_sem, z0]) rfl ?_
    exact HNO.out HE.out _ _ S3.out
  | true =>
    by_cases h6 : v0 ≤ 6
    · obtain ⟨n, hn0⟩ : ∃ k : Nat, v0 = k := ⟨v0.toNat, by omega⟩
      subst hn0
      have HRF := Lib.hid (show rrO l off = rdFs l e0 n by
        unfold rrO
        rw [← HV.out.2.2, ← HV.out.1, decide_eq_true h6, ← HV.out.2.1, Int.toNat_natCast]
        rfl)
      obtain ⟨G, hG⟩ : ∃ g, g = w2.heap.size := ⟨_, rfl⟩
      obtain ⟨w3, hw3⟩ : ∃ u, u = w2.alloc (.cells #[.slice none 0 0] 26) := ⟨_, rfl⟩
      have S3 := push_box H2.out 26 #[.slice none 0 0] G hG
      rw [← hw3] at S3
      have S4 := Lib.hid (push_own S3 (Below.refl _ _) (OwnV.nil w3 _ 68 2))
      clear S3
      go_upto_region 5 with fail
      rw [← hw3, ← hG]
      clear hw3 hG z0 z1 HV
      go_wp2
      go_loopw [8, 11] (fun o i wr => ∃ (k : Nat) (o1 : Int) (a1 : Option Addr) (c1 : Nat) (acc : List F), k ≤ n ∧ i = .int .i64 k ∧ o = .int .i64 o1 ∧ 0 ≤ o1 ∧ o1 ≤ N ∧ Hid (Sep w wr [boxR w.heap.size 26 #[.slice none 0 0], boxR G 26 #[.slice a1 k c1], ownV 68 2 a1 c1 k (cellsF acc)] ∧ RfMid l e0 n k acc o1 ∧ Small acc)) (fun _ i _ => n - (intOf i).toNat)
      case atStart => exact ⟨0, e0, none, 0, [], Nat.zero_le _, rfl, rfl, he1, he2, S4.out, RfMid.start _ _ _, fun f hf => by cases hf⟩
      case round =>
        obtain ⟨k, o1, a1, c1, acc, hk, rfl, rfl, ho0, ho1, hrel⟩ := hrel
        obtain ⟨z0, z1⟩ := Row.one (box_at hrel.out.1 0 rfl)
        obtain ⟨r0, r1⟩ := Row.one (box_at hrel.out.1 1 rfl)
        by_cases hlt : (k : Int) < (n : Int)
        · have HB := Lib.hid (HRB.out o1 ho0 ho1 wr hrel.out.1.old)
          have HP := Lib.hid (HBE.out o1)
          obtain ⟨L1, hL1⟩ : ∃ v, v = rbL l o1 8 := ⟨_, rfl⟩
          obtain ⟨p1, hp1⟩ : ∃ v, v = rbE l o1 8 := ⟨_, rfl⟩
          obtain ⟨f1, hf1⟩ : ∃ v, v = rbB l o1 8 := ⟨_, rfl⟩
          rw [← hL1, ← hp1, ← hf1] at HB
          rw [← hp1] at HP
          have HLL := Lib.hid (show L1.length ≤ N by rw [hL1, HN.out]; exact rbL_len l o1)
          have HV1 := Lib.hid (And.intro hL1 (And.intro hp1 hf1))
          obtain ⟨hp2, hp3⟩ := HP.out
          clear hL1 hp1 hf1 HP
          go_wp2_with fail
          go_at_call 94
          refine HB.out.mono ?_
          rintro e w5 ⟨a5, c5, rfl, ho5, hb5⟩
          have S5 := Lib.hid (Sep.pushOwn hrel.out.1 hb5 ho5)
          clear ho5 hb5 HB z0 z1 r0 r1
          obtain ⟨z0, z1⟩ := Row.one (box_at S5.out 0 rfl)
          cases f1 with
          | false =>
            have HE := Lib.hid (show rrO l off = none by rw [HRF.out]; exact RfMid.none hrel.out.2.1 (by omega) (rdF_no HV1.out.2.2.symm))
            have S6 := Lib.hid (put_box5 S5.out 0 rfl 0 (.slice none 0 0))
            go_wp2_with fail
            refine bodyPost_ret (v := .tuple #[.agg #[.slice none 0 0], .int .i64 0, .bool false]) (by simp [results, Try.results78, go_sem, z0]) rfl ?_
            exact HNO.out HE.out _ _ S6.out
          | true =>
            have HQ := Lib.hid (HRD.out p1 hp2 hp3 w5 S5.out.old)
            have HB2 := Lib.hid (HBD.out p1)
            obtain ⟨v2, hv2'⟩ : ∃ v, v = rdN l p1 := ⟨_, rfl⟩
            obtain ⟨e2, he2'⟩ : ∃ v, v = rdE l p1 := ⟨_, rfl⟩
            obtain ⟨f2, hf2⟩ : ∃ v, v = rdB l p1 := ⟨_, rfl⟩
            rw [← hv2', ← he2', ← hf2] at HQ
            rw [← hv2', ← he2'] at HB2
            have HV2 := Lib.hid (And.intro hv2' (And.intro he2' hf2))
            clear hv2' he2' hf2
            go_wp2_with fail
            go_at_call 93
            refine HQ.out.mono ?_
            rintro e w6 ⟨rfl, hb6⟩
            have S6 := Lib.hid (S5.out.keep hb6)
            clear hb6 HQ z0 z1
            obtain ⟨z0, z1⟩ := Row.one (box_at S6.out 0 rfl)
            obtain ⟨r0, r1⟩ := Row.one (box_at S6.out 1 rfl)
            cases f2 with
            | false =>
              have HE := Lib.hid (show rrO l off = none by rw [HRF.out]; exact RfMid.none hrel.out.2.1 (by omega) (rdF_no2 (by rw [← HV1.out.2.1]; exact HV2.out.2.2.symm)))
              have S7 := Lib.hid (put_box5 S6.out 0 rfl 0 (.slice none 0 0))
              clear r0 r1
              go_wp2_with fail
              refine bodyPost_ret (v := .tuple #[.agg #[.slice none 0 0], .int .i64 0, .bool false]) (by simp [results, Try.results78, go_sem, z0]) rfl ?_
              exact HNO.out HE.out _ _ S7.out
            | true =>
              have HF := Lib.hid (show rdF l o1 = some (⟨strOfNums L1, v2⟩, e2) by rw [rdF_yes HV1.out.2.2.symm (by rw [← HV1.out.2.1]; exact HV2.out.2.2.symm), name_str, ← HV1.out.1, ← HV1.out.2.1, ← HV2.out.1, ← HV2.out.2.1])
              have HCV := Lib.hid (run_bytes_string (P := Try.prog) 22 5 9 Try.underlying22 Try.underlying5 Try.underlying9 a5 c5 L1 w6 _ (S6.out.own 3 rfl).reads)
              have HSZ := Lib.hid (show (strOfNums L1).size ≤ 281474976710656 by
                have h := strOfNums_size L1
                have := HLL.out
                omega)
              obtain ⟨t, ht⟩ : ∃ t, t = strOfNums L1 := ⟨_, rfl⟩
              rw [← ht] at HF HCV HSZ
              clear ht
              have hcv := HCV.out
              have S7 := Lib.hid (S6.out.alloc (.cells #[.string t, .int .i64 v2] 68))
              have R2 := Lib.hid (reads_two w6 t v2 _ rfl 68)
              go_wp2_with (at_builtin; refine wpList_append_v S7.out 2 rfl rfl _ _ 24 (by rfl) i0 (.agg #[.string ⟨#[]⟩, .int .i64 0]) 24 Try.underlying24 HI.out.1 HI.out.2.1 HI.out.2.2.1 HI.out.2.2.2 rfl (by omega) _ (by rfl) rfl _ _ 1 _ _ (cellsF [⟨t, v2⟩]) (by rfl) rfl R2.out rfl (cellsF_one _) (by unfold maxLen; omega) (by omega) ?_; intro a9 c9 w9 S9; obtain ⟨q0, q1⟩ := Row.one (box_at S9 1 rfl))
              have S10 := Lib.hid (sep_three (put_box5 S9 1 rfl 0 (.slice a9 (k + 1) c9)))
              obtain ⟨_, _, k0, k1⟩ := HB2.out
              clear hcv q0 q1 z0 z1 r0 r1 S9
              go_roundw
              case rel => exact ⟨k + 1, e2, a9, c9, acc ++ [⟨t, v2⟩], by omega, by go_num, rfl, k0, k1, And.intro (by rw [cellsF_append]; exact S10.out) (And.intro (RfMid.next hrel.out.2.1 (by omega) HF.out) (fun f hf => by
                rcases List.mem_append.1 hf with h | h
                · exact hrel.out.2.2 f h
                · rw [List.mem_singleton.1 h]; exact HSZ.out))⟩
              case measure => simp [intOf]; omega
        · obtain rfl : k = n := by omega
          have HD := Lib.hid (show rrO l off = some (acc, o1) by rw [HRF.out]; exact RfMid.done hrel.out.2.1)
          have HAL := Lib.hid hrel.out.2.1.1
          obtain ⟨br, hbr⟩ : ∃ b, isR acc = b := ⟨_, rfl⟩
          have hIS := specIsRecord_any a1 c1 acc (by rw [HAL.out]; omega) hrel.out.2.2 wr.drew (own_at (hrel.out.1.drews 1) 2 rfl).reads
          rw [HAL.out, hbr] at hIS
          have HIS := Lib.hid hIS
          clear hIS
          go_upto_region 16 with fail
          refine wp_region_held_drew (S := (fun w' => w'.cell? ⟨G, 0, none⟩ = some (.slice a1 k c1))) (by kernel_rfl) r0 (fun hS => ?_)
          refine Reg.take_op (i := 0) (v := ?_) rfl (by kernel_rfl) (by kernel_rfl) (by kernel_rfl) (fun _ _ _ h => h) (by rfl) ?_ (by assumption) ?_
          rotate_left
          · (intro w hSw; (try dsimp only at hSw); go_simp; try with_reducible rfl)
          try simp only [Act.put, List.setIfInBounds_toArray, List.set_cons_zero, List.set_cons_succ]
          refine Reg.take_op (i := 1) (v := ?_) rfl (by kernel_rfl) (by kernel_rfl) (by kernel_rfl) (fun _ _ _ h => h) (by rfl) ?_ (by assumption) ?_
          rotate_left
          · (intro w hSw; (try dsimp only at hSw); go_simp; try with_reducible rfl)
          try simp only [Act.put, List.setIfInBounds_toArray, List.set_cons_zero, List.set_cons_succ]
          refine Reg.take_op (i := 2) (v := ?_) rfl (by kernel_rfl) (by kernel_rfl) (by kernel_rfl) (fun _ _ _ h => h) (by rfl) ?_ (by assumption) ?_
          rotate_left
          · (intro w hSw; (try dsimp only at hSw); go_simp; try with_reducible rfl)
          try simp only [Act.put, List.setIfInBounds_toArray, List.set_cons_zero, List.set_cons_succ]
          refine Reg.one_op (i := 3) rfl (by kernel_rfl) (fun K hK => ?_)
          go_simp
          go_at_call 32
          refine HIS.out.mono ?_
          rintro e w8 ⟨rfl, hb8⟩
          have S9 := Lib.hid ((hrel.out.1.drews 1).keep hb8)
          clear hb8
          go_wp2_with fail
          refine hK.out _ _ (Row.one (box_at S9.out 1 rfl)).1 (fun hS => ?_)
          clear hK K
          try simp only [Act.put, List.setIfInBounds_toArray, List.set_cons_zero, List.set_cons_succ]
          refine Reg.one_op (i := 4) rfl (by kernel_rfl) (fun K hK => ?_)
          go_simp
          obtain ⟨q0, q1⟩ := Row.one (box_at S9.out 0 rfl)
          have SX := Lib.hid (put_box5 S9.out 0 rfl 0 (.slice a1 k c1))
          go_simp
          refine hK.out _ _ (Row.one (box_at SX.out 1 rfl)).1 (fun hS => ?_)
          clear hK K
          try simp only [Act.put, List.setIfInBounds_toArray, List.set_cons_zero, List.set_cons_succ]
          refine Reg.take_op (i := 5) (v := ?_) rfl (by kernel_rfl) (by kernel_rfl) (by kernel_rfl) (fun _ _ _ h => h) (by rfl) ?_ (by assumption) ?_
          rotate_left
          · (intro w hSw; (try dsimp only at hSw); go_simp; try with_reducible rfl)
          try simp only [Act.put, List.setIfInBounds_toArray, List.set_cons_zero, List.set_cons_succ]
          refine Reg.take_op (i := 6) (v := ?_) rfl (by kernel_rfl) (by kernel_rfl) (by kernel_rfl) (fun _ _ _ h => h) (by rfl) ?_ (by assumption) ?_
          rotate_left
          · (intro w hSw; (try dsimp only at hSw); go_simp; try with_reducible rfl)
          try simp only [Act.put, List.setIfInBounds_toArray, List.set_cons_zero, List.set_cons_succ]
          refine wpAnyH_done (by kernel_rfl) ?_ _
          obtain ⟨y0, y1⟩ := Row.one (box_at SX.out 0 rfl)
          go_wp2_with fail
          refine bodyPost_ret (v := .tuple #[.agg #[.slice a1 k c1], .int .i64 o1, .bool br]) (by simp [results, Try.results78, go_sem, y0]) rfl ?_
          obtain ⟨d1, d2, d3⟩ := rr_some HD.out
          unfold GaveRR
          rw [d1, d2, d3, HAL.out, hbr]
          exact ⟨a1, c1, rfl, own_from SX.out 2 rfl, SX.out.old⟩
    · have HE := Lib.hid (show rrO l off = none by unfold rrO; rw [← HV.out.2.2, ← HV.out.1, decide_eq_false h6]; rfl)
      have S3 := Lib.hid (put_box5 H2.out 0 rfl 0 (.slice none 0 0))
      go_wp2_with fail
      refine bodyPost_ret (v := .tuple #[.agg #[.slice none 0 0], .int .i64 0, .bool false]) (by simp [results, Try.results78, go_sem, z0]) rfl ?_
      exact HNO.out HE.out _ _ S3.out
end Go.Proofs.Ytpapncecfleejaa.L5
