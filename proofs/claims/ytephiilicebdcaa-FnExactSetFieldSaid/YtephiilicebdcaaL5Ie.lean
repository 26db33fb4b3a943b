/-
  The contracts of chapter 5's SetField and RemoveField of the program. Conditions: names of at most 2^48 bytes, at most 2^40 fields.
-/
import Derived.Test.YtephiilicebdcaaL5Id
import Derived.Test.YtephiilicebdcaaL5Iq
namespace Go.Proofs.Ytephiilicebdcaa.L5
set_option maxRecDepth 100000
open L4 (boxR push_box box_at)
open Go.ChangeShapes Go.WideShapes Go.ChangeAt Go.RowKit Mem Sl Ex L2 Sv
set_option linter.unusedVariables false
set_option linter.unusedSimpArgs false

theorem setL_no {l : List F} {s : ByteArray} {x : Int} (h : isR l = false) : setL l s x = l ∧ setB l s x = false := by unfold setL setB; rw [h]; exact ⟨rfl, rfl⟩
theorem setL_yes {l : List F} {s : ByteArray} {x : Int} (h : isR l = true) : setL l s x = orR (putF l s x) l ∧ setB l s x = isR (putF l s x) := by unfold setL setB orR; rw [h, Bool.true_and]; exact ⟨rfl, rfl⟩
theorem remL_no {l : List F} {s : List UInt8} (h : isR l = false) : remL l s = l ∧ remB l s = false := by unfold remL remB; rw [h]; exact ⟨rfl, rfl⟩
theorem remL_none {l : List F} {s : List UInt8} (h : getB l s = false) : remL l s = l ∧ remB l s = false := by unfold remL remB; rw [rem_len, h]; simp
theorem remL_yes {l : List F} {s : List UInt8} (h : isR l = true) (h2 : getB l s = true) : remL l s = orR (remF l s) l ∧ remB l s = isR (remF l s) := by
  unfold remL remB orR
  rw [rem_len, h, h2, isR_rem h]; exact ⟨rfl, rfl⟩
theorem gaveRB_push {W w w' : World} {rs : List Res} {q : List F} {b : Bool} {e : Ending} (S : Sep W w rs) (h : GaveRB w q b e w') : ∃ a c, e = .returned (.tuple #[.agg #[.slice a q.length c], .bool b]) ∧ Sep W w' (rs ++ [ownV 64 2 a c q.length (cellsF q)]) := by
  obtain ⟨a, c, e1, ho, hb⟩ := h
  exact ⟨a, c, e1, push_own S hb ho⟩
set_option maxHeartbeats 2000000 in
theorem setField_any (a : Option Addr) (c : Nat) (l : List F) (s : ByteArray) (x : Int) (hl : l.length < 1099511627776) (hsm : Small l) (hss : s.size ≤ 281474976710656) (hx1 : -9223372036854775808 ≤ x) (hx2 : x ≤ 9223372036854775807) (w : World) (hr : Reads w w.heap.size a (cellsF l)) :
    Calls Try.prog 10 #[.agg #[.slice a l.length c], .string s, .int .i64 x] w (GaveRB w (setL l s x) (setB l s x)) := by
  have HRd := Lib.hid (fun w' (h : Below w.heap.size w w') => (hr.below h).more h.size)
  have HI := Lib.hid (fun w' (h : Below w.heap.size w w') => isRecord_any a c l (by omega) hsm w' ((hr.below h).more h.size))
  have HL := Lib.hid (fun w' (h : Below w.heap.size w w') => copyRecord_any a c l (by omega) w' ((hr.below h).more h.size))
  have HF := Lib.hid (fun (hR : isR l = true) w' (h : Below w.heap.size w w') => fieldsOf_any a c l hR w' ((hr.below h).more h.size))
  have HO := Lib.hid (fun (hR : isR l = true) (b : Nat) w' (hM : MapIs w' b (l.length + 1) (getO (putF l s x))) (h : Below w.heap.size w w') => recordOr_any b (l.length + 1) (putF l s x) a c l (asc_put (isR_asc hR) s x) (by omega) (small_put hsm hss) (by omega) w' hM ((hr.below h).more h.size))
  have HG := Lib.hid (fun (hR : isR l = true) => getO_put (isR_asc hR) s x)
  have HW := Lib.hid (And.intro hss (wf_mk hx1 hx2))
  obtain ⟨n, hn⟩ : ∃ n, n = l.length := ⟨_, rfl⟩
  rw [← hn] at hl HI HL HF HO ⊢
  have HN := Lib.hid hn
  clear hn hr hss hx1 hx2 hsm
  have S0 := Sep.start w
  have S1 := push_box S0 26 #[.slice a n c] w.heap.size rfl
  have S2 := Lib.hid (push_box S1 26 #[.slice none 0 0] (w.heap.size + 1) (by simp))
  clear S0 S1
  obtain ⟨W1, hW1⟩ : ∃ u, u = (w.alloc (.cells #[.slice a n c] 26)).alloc (.cells #[.slice none 0 0] 26) := ⟨_, rfl⟩
  rw [← hW1] at S2
  obtain ⟨br, hbr⟩ : ∃ b, isR l = b := ⟨_, rfl⟩
  rw [hbr] at HI
  have HBr := Lib.hid hbr
  clear hbr
  go_enter Try.func10, Try.ntmps10
  go_upto_region 1 with fail
  rw [← hW1]
  clear hW1
  obtain ⟨r0, r1⟩ := Row.one (box_at S2.out 0 rfl)
  go_wp2_with fail
  go_at_call 18
  refine (HI.out _ S2.out.old).mono ?_
  rintro e w2 ⟨rfl, h2⟩
  have S3 := Lib.hid (S2.out.keep h2)
  clear h2 r0 r1 S2
  obtain ⟨r0, r1⟩ := Row.one (box_at S3.out 0 rfl)
  obtain ⟨z0, z1⟩ := Row.one (box_at S3.out 1 rfl)
  cases br with
  | false =>
    have HE := Lib.hid (setL_no (s := s) (x := x) HBr.out)
    go_wp2_with fail
    go_at_call 33
    refine (HL.out _ S3.out.old).mono ?_
    rintro e w4 ⟨a4, c4, rfl, ho4, hb4⟩
    have S8 := Lib.hid (push_own S3.out hb4 ho4)
    clear ho4 hb4 r0 r1 z0 z1
    obtain ⟨z0, z1⟩ := Row.one (box_at S8.out 1 rfl)
    have S9 := Lib.hid (put_box5 S8.out 1 rfl 0 (.slice a4 n c4))
    go_wp2_with fail
    refine bodyPost_ret (v := .tuple #[.agg #[.slice a4 n c4], .bool false]) (by simp [results, Try.results10, go_sem, z0]) rfl ?_
    unfold GaveRB
    rw [HE.out.1, HE.out.2, ← HN.out]
    exact ⟨a4, c4, rfl, (own_from S9.out 2 rfl), S9.out.old⟩
  | true =>
    have HE := Lib.hid (setL_yes (s := s) (x := x) HBr.out)
    obtain ⟨q, hq⟩ : ∃ q, q = orR (putF l s x) l := ⟨_, rfl⟩
    obtain ⟨bq, hbq⟩ : ∃ q, q = isR (putF l s x) := ⟨_, rfl⟩
    have HO' := Lib.hid (HO.out HBr.out)
    rw [← hq, ← hbq] at HO' HE
    clear hq hbq
    go_wp2_with fail
    go_at_call 34
    refine (HF.out HBr.out _ S3.out.old).mono ?_
    rintro e w4 ⟨b, rfl, hm, hb1, hb2⟩
    have S4 := Lib.hid (push_map S3.out hb2 hm hb1)
    clear hm hb1 hb2 r0 r1 z0 z1
    go_wp2_with (at_mapUpdate; refine wpList_mapUpdate_s S4.out 2 rfl rfl _ _ _ rfl rfl (by unfold maxLen; omega) s x rfl rfl (by have := HW.out.1; unfold maxLen; omega) HW.out.2 ?_; intro w5 S5'; have S5 := Lib.hid S5'; clear S5'; obtain ⟨r0, r1⟩ := Row.one (box_at S5.out 0 rfl))
    go_at_call 35
    refine (HO'.out b _ (by rw [HG.out HBr.out]; exact map_at S5.out 2 rfl) S5.out.old).mono ?_
    rintro e w6 h6
    obtain ⟨a6, c6, rfl, S6'⟩ := gaveRB_push S5.out h6
    have S6 := Lib.hid S6'
    clear S6' h6 r0 r1
    obtain ⟨z0, z1⟩ := Row.one (box_at S6.out 1 rfl)
    have S9 := Lib.hid (put_box5 S6.out 1 rfl 0 (.slice a6 q.length c6))
    obtain ⟨nq, hnq⟩ : ∃ n, n = q.length := ⟨_, rfl⟩
    rw [← hnq] at S9 ⊢
    have HNq := Lib.hid hnq
    clear hnq
    go_wp2_with fail
    refine bodyPost_ret (v := .tuple #[.agg #[.slice a6 nq c6], .bool bq]) (by simp [results, Try.results10, go_sem, z0]) rfl ?_
    unfold GaveRB
    rw [HE.out.1, HE.out.2, ← HNq.out]
    exact ⟨a6, c6, rfl, (own_from S9.out 3 rfl), S9.out.old⟩
set_option maxHeartbeats 2000000 in
theorem removeField_any (a : Option Addr) (c : Nat) (l : List F) (s : ByteArray) (hl : l.length ≤ 1099511627776) (hsm : Small l) (hss : s.size ≤ 281474976710656) (w : World) (hr : Reads w w.heap.size a (cellsF l)) :
    Calls Try.prog 14 #[.agg #[.slice a l.length c], .string s] w (GaveRB w (remL l s.data.toList) (remB l s.data.toList)) := by
  have HI := Lib.hid (fun w' (h : Below w.heap.size w w') => isRecord_any a c l (by omega) hsm w' ((hr.below h).more h.size))
  have HL := Lib.hid (fun w' (h : Below w.heap.size w w') => copyRecord_any a c l (by omega) w' ((hr.below h).more h.size))
  have HF := Lib.hid (fun (hR : isR l = true) w' (h : Below w.heap.size w w') => fieldsOf_any a c l hR w' ((hr.below h).more h.size))
  have HO := Lib.hid (fun (hR : isR l = true) (b : Nat) w' (hM : MapIs w' b l.length (getO (remF l s.data.toList))) (h : Below w.heap.size w w') => recordOr_any b l.length (remF l s.data.toList) a c l (asc_rem (isR_asc hR) s.data.toList) hl (small_rem hsm) hl w' hM ((hr.below h).more h.size))
  have HG := Lib.hid (getO_rem l s.data.toList)
  have HW := Lib.hid hss
  obtain ⟨n, hn⟩ : ∃ n, n = l.length := ⟨_, rfl⟩
  rw [← hn] at hl HI HL HF HO ⊢
  have HN := Lib.hid hn
  clear hn hr hss hsm
  have S0 := Sep.start w
  have S1 := push_box S0 26 #[.slice a n c] w.heap.size rfl
  have S2 := Lib.hid (push_box S1 26 #[.slice none 0 0] (w.heap.size + 1) (by simp))
  clear S0 S1
  obtain ⟨W1, hW1⟩ : ∃ u, u = (w.alloc (.cells #[.slice a n c] 26)).alloc (.cells #[.slice none 0 0] 26) := ⟨_, rfl⟩
  rw [← hW1] at S2
  obtain ⟨br, hbr⟩ : ∃ b, isR l = b := ⟨_, rfl⟩
  rw [hbr] at HI
  have HBr := Lib.hid hbr
  clear hbr
  go_enter Try.func14, Try.ntmps14
  go_upto_region 1 with fail
  rw [← hW1]
  clear hW1
  obtain ⟨r0, r1⟩ := Row.one (box_at S2.out 0 rfl)
  go_wp2_with fail
  go_at_call 18
  refine (HI.out _ S2.out.old).mono ?_
  rintro e w2 ⟨rfl, h2⟩
  have S3 := Lib.hid (S2.out.keep h2)
  clear h2 r0 r1 S2
  obtain ⟨r0, r1⟩ := Row.one (box_at S3.out 0 rfl)
  obtain ⟨z0, z1⟩ := Row.one (box_at S3.out 1 rfl)
  cases br with
  | false =>
    have HE := Lib.hid (remL_no (s := s.data.toList) HBr.out)
    go_wp2_with fail
    go_at_call 33
    refine (HL.out _ S3.out.old).mono ?_
    rintro e w4 ⟨a4, c4, rfl, ho4, hb4⟩
    have S8 := Lib.hid (push_own S3.out hb4 ho4)
    clear ho4 hb4 r0 r1 z0 z1
    obtain ⟨z0, z1⟩ := Row.one (box_at S8.out 1 rfl)
    have S9 := Lib.hid (put_box5 S8.out 1 rfl 0 (.slice a4 n c4))
    go_wp2_with fail
    refine bodyPost_ret (v := .tuple #[.agg #[.slice a4 n c4], .bool false]) (by simp [results, Try.results14, go_sem, z0]) rfl ?_
    unfold GaveRB
    rw [HE.out.1, HE.out.2, ← HN.out]
    exact ⟨a4, c4, rfl, (own_from S9.out 2 rfl), S9.out.old⟩
  | true =>
    obtain ⟨bg, hbg⟩ : ∃ b, getB l s.data.toList = b := ⟨_, rfl⟩
    have HBg := Lib.hid hbg
    clear hbg
    go_wp2_with fail
    go_at_call 34
    refine (HF.out HBr.out _ S3.out.old).mono ?_
    rintro e w4 ⟨b, rfl, hm, hb1, hb2⟩
    have S4 := Lib.hid (push_map S3.out hb2 hm hb1)
    clear hm hb1 hb2 r0 r1 z0 z1
    obtain ⟨r0, r1⟩ := Row.one (box_at S4.out 0 rfl)
    cases bg with
    | false =>
      have HE := Lib.hid (remL_none HBg.out)
      go_wp2_with (at_lookup; refine wpList_lookup_ok_s (map_at S4.out 2 rfl) rfl _ _ rfl rfl s rfl (by have := HW.out; unfold maxLen; omega) _ rfl false HBg.out ?_)
      go_at_call 33
      refine (HL.out _ S4.out.old).mono ?_
      rintro e w5 ⟨a4, c4, rfl, ho4, hb4⟩
      have S8 := Lib.hid (push_own S4.out hb4 ho4)
      clear ho4 hb4 r0 r1
      obtain ⟨z0, z1⟩ := Row.one (box_at S8.out 1 rfl)
      have S9 := Lib.hid (put_box5 S8.out 1 rfl 0 (.slice a4 n c4))
      go_wp2_with fail
      refine bodyPost_ret (v := .tuple #[.agg #[.slice a4 n c4], .bool false]) (by simp [results, Try.results14, go_sem, z0]) rfl ?_
      unfold GaveRB
      rw [HE.out.1, HE.out.2, ← HN.out]
      exact ⟨a4, c4, rfl, (own_from S9.out 3 rfl), S9.out.old⟩
    | true =>
      have HE := Lib.hid (remL_yes HBr.out HBg.out)
      obtain ⟨q, hq⟩ : ∃ q, q = orR (remF l s.data.toList) l := ⟨_, rfl⟩
      obtain ⟨bq, hbq⟩ : ∃ q, q = isR (remF l s.data.toList) := ⟨_, rfl⟩
      have HO' := Lib.hid (HO.out HBr.out)
      rw [← hq, ← hbq] at HO' HE
      clear hq hbq
      go_wp2_with (first
        | (at_lookup; refine wpList_lookup_ok_s (map_at S4.out 2 rfl) rfl _ _ rfl rfl s rfl (by have := HW.out; unfold maxLen; omega) _ rfl true HBg.out ?_)
        | (at_delete; refine wpList_delete_s S4.out 2 rfl rfl _ _ rfl rfl s rfl (by have := HW.out; unfold maxLen; omega) ?_; intro w5 S5'; have S5 := Lib.hid S5'; clear S5' r0 r1; obtain ⟨r0, r1⟩ := Row.one (box_at S5.out 0 rfl)))
      go_at_call 35
      refine (HO'.out b _ (by rw [HG.out]; exact map_at S5.out 2 rfl) S5.out.old).mono ?_
      rintro e w6 h6
      obtain ⟨a6, c6, rfl, S6'⟩ := gaveRB_push S5.out h6
      have S6 := Lib.hid S6'
      clear S6' h6 r0 r1
      obtain ⟨z0, z1⟩ := Row.one (box_at S6.out 1 rfl)
      have S9 := Lib.hid (put_box5 S6.out 1 rfl 0 (.slice a6 q.length c6))
      obtain ⟨nq, hnq⟩ : ∃ n, n = q.length := ⟨_, rfl⟩
      rw [← hnq] at S9 ⊢
      have HNq := Lib.hid hnq
      clear hnq
      go_wp2_with fail
      refine bodyPost_ret (v := .tuple #[.agg #[.slice a6 nq c6], .bool bq]) (by simp [results, Try.results14, go_sem, z0]) rfl ?_
      unfold GaveRB
      rw [HE.out.1, HE.out.2, ← HNq.out]
      exact ⟨a6, c6, rfl, (own_from S9.out 3 rfl), S9.out.old⟩
end Go.Proofs.Ytephiilicebdcaa.L5
