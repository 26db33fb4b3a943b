/-
  The contract of chapter 5's MergeRecords of the specification. Conditions: records of at most 2^40 fields, names of at most 2^48 bytes.
-/
import Derived.Test.YtephiilicebdcaaL5Gm
import Derived.Test.YtephiilicebdcaaL5Mrg
import Derived.Test.YtephiilicebdcaaL5Rd
import Derived.BigQuiet
namespace Go.Proofs.Ytephiilicebdcaa.L5
set_option maxRecDepth 100000
open Go.Op (bytesLess)
open L4 (less_irrefl less_total less_asymm less_trans)
open L4 (boxR push_box box_at)
open Go.ChangeShapes Go.WideShapes Go.ChangeAt Go.RowKit Mem Sl Ex L2 Sv
set_option linter.unusedVariables false
set_option linter.unusedSimpArgs false

theorem string_leq (t : TypeId) (a b : ByteArray) : binOp .leq t (.string a) (.string b) = pure (.bool (bytesLess a.toList b.toList || a.toList == b.toList)) := by simp [binOp, Op.stringOp]
theorem small_mgO {l a b : List F} (ha : Small a) (hb : Small b) : Small (mgO l a b) := fun g hg => by
  obtain ⟨f, hf, e⟩ := mg_mem (pick_name l a b) a b g hg
  rw [e]
  rcases hf with hf | hf
  · exact ha f hf
  · exact hb f hf
theorem len_mgO (l a b : List F) : (mgO l a b).length ≤ a.length + b.length := mg_len _ (pick_len l a b) a b
/-- One step of the merge, taken over by what is there already. -/
theorem mg_step {l a b q : List F} {i k i' k' : Nat} {s : ByteArray} (h : q ++ mg (pickF l a b) (a.drop i) (b.drop k) = mgO l a b) (e : mg (pickF l a b) (a.drop i) (b.drop k) = pickF l a b s ++ mg (pickF l a b) (a.drop i') (b.drop k')) :
    (q ++ pickF l a b s) ++ mg (pickF l a b) (a.drop i') (b.drop k') = mgO l a b := by rw [← h, e, List.append_assoc]
theorem len_part {l a b q r : List F} (h : q ++ r = mgO l a b) : q.length ≤ a.length + b.length := by
  have h1 := len_mgO l a b
  rw [← h, List.length_append] at h1
  omega
/-- The five ways of a step. -/
theorem five (l a b : List F) (i k : Nat) (hi : i ≤ a.length) (hk : k ≤ b.length) (hne : ¬ (i = a.length ∧ k = b.length)) :
    (∃ hi' : i < a.length, k = b.length ∧ mg (pickF l a b) (a.drop i) (b.drop k) = pickF l a b a[i].name ++ mg (pickF l a b) (a.drop (i + 1)) (b.drop k)) ∨
    (∃ hk' : k < b.length, i = a.length ∧ mg (pickF l a b) (a.drop i) (b.drop k) = pickF l a b b[k].name ++ mg (pickF l a b) (a.drop i) (b.drop (k + 1))) ∨
    (∃ (hi' : i < a.length) (hk' : k < b.length), bytesLess b[k].t a[i].t = true ∧ bytesLess a[i].t b[k].t = false ∧ ¬ a[i].t = b[k].t ∧ mg (pickF l a b) (a.drop i) (b.drop k) = pickF l a b b[k].name ++ mg (pickF l a b) (a.drop i) (b.drop (k + 1))) ∨
    (∃ (hi' : i < a.length) (hk' : k < b.length), bytesLess a[i].t b[k].t = true ∧ ¬ a[i].t = b[k].t ∧ mg (pickF l a b) (a.drop i) (b.drop k) = pickF l a b a[i].name ++ mg (pickF l a b) (a.drop (i + 1)) (b.drop k)) ∨
    (∃ (hi' : i < a.length) (hk' : k < b.length), b[k].name = a[i].name ∧ mg (pickF l a b) (a.drop i) (b.drop k) = pickF l a b a[i].name ++ mg (pickF l a b) (a.drop (i + 1)) (b.drop (k + 1))) := by
  by_cases h1 : i < a.length
  · by_cases h2 : k < b.length
    · by_cases h3 : a[i].t = b[k].t
      · exact .inr (.inr (.inr (.inr ⟨h1, h2, (name_of_t h3).symm, mg_same _ _ _ _ _ h1 h2 h3⟩)))
      · cases h4 : bytesLess b[k].t a[i].t with
        | true => exact .inr (.inr (.inl ⟨h1, h2, h4, less_asymm _ _ h4, h3, mg_less _ _ _ _ _ h1 h2 h4⟩))
        | false => exact .inr (.inr (.inr (.inl ⟨h1, h2, less_total _ _ (fun e => h3 e.symm) h4, h3, mg_more _ _ _ _ _ h1 h2 h4 h3⟩)))
    · exact .inl ⟨h1, by omega, mg_left _ _ _ _ _ h1 (by omega)⟩
  · exact .inr (.inl ⟨by omega, by omega, mg_right _ _ _ _ _ (by omega) (by omega)⟩)
set_option maxHeartbeats 16000000 in
theorem specMergeRecords_any (a0 a1 a2 : Option Addr) (c0 c1 c2 : Nat) (l0 l1 l2 : List F) (hl0 : l0.length ≤ 1099511627776) (hl1 : l1.length ≤ 1099511627776) (hl2 : l2.length ≤ 1099511627776) (hs0 : Small l0) (hs1 : Small l1) (hs2 : Small l2) (w : World)
    (hr0 : Reads w w.heap.size a0 (cellsF l0)) (hr1 : Reads w w.heap.size a1 (cellsF l1)) (hr2 : Reads w w.heap.size a2 (cellsF l2)) :
    Calls Try.prog 22 #[.agg #[.slice a0 l0.length c0], .agg #[.slice a1 l1.length c1], .agg #[.slice a2 l2.length c2]] w (GaveRB w (mgL l0 l1 l2) (mgB l0 l1 l2)) := by
  obtain ⟨i0, hi, hz0, hz1, hz2⟩ := fieldInfo
  have HI := Lib.hid (And.intro hi (And.intro hz0 (And.intro hz1 hz2)))
  have HR1 := Lib.hid (fun w' (h : Below w.heap.size w w') => hr1.below h)
  have HR2 := Lib.hid (fun w' (h : Below w.heap.size w w') => hr2.below h)
  have H0 := Lib.hid (fun w' (h : Below w.heap.size w w') => specIsRecord_any a0 c0 l0 hl0 hs0 w' ((hr0.below h).more h.size))
  have H1 := Lib.hid (fun w' (h : Below w.heap.size w w') => specIsRecord_any a1 c1 l1 hl1 hs1 w' ((hr1.below h).more h.size))
  have H2 := Lib.hid (fun w' (h : Below w.heap.size w w') => specIsRecord_any a2 c2 l2 hl2 hs2 w' ((hr2.below h).more h.size))
  have HL := Lib.hid (fun w' (h : Below w.heap.size w w') => l5Copy_any a1 c1 l1 hl1 w' ((hr1.below h).more h.size))
  have HM := Lib.hid (fun (s : ByteArray) w' (h : Below w.heap.size w w') => l5Merge_any a0 a1 a2 c0 c1 c2 l0 l1 l2 s hl0 hl1 hl2 w' ((hr0.below h).more h.size) ((hr1.below h).more h.size) ((hr2.below h).more h.size))
  have HX := Lib.hid (fun (a : Option Addr) (c : Nat) (hlen : (mgO l0 l1 l2).length ≤ 1099511627776) (w' : World) (hr : Reads w' w'.heap.size a (cellsF (mgO l0 l1 l2))) => specIsRecord_any a c (mgO l0 l1 l2) hlen (small_mgO hs1 hs2) w' hr)
  clear hr0 hr1 hr2 hs0 hs1 hs2 hi hz0 hz1 hz2
  obtain ⟨n0, hn0⟩ : ∃ n, n = l0.length := ⟨_, rfl⟩
  obtain ⟨n1, hn1⟩ : ∃ n, n = l1.length := ⟨_, rfl⟩
  obtain ⟨n2, hn2⟩ : ∃ n, n = l2.length := ⟨_, rfl⟩
  rw [← hn0, ← hn1, ← hn2]
  rw [← hn0] at H0
  rw [← hn1] at H1 HL
  rw [← hn2] at H2
  rw [← hn0, ← hn1, ← hn2] at HM
  have HN1 := Lib.hid hn1
  have HN2 := Lib.hid hn2
  clear hn0 hn1 hn2 hl0 hl1 hl2
  obtain ⟨b0, hb0⟩ : ∃ b, isR l0 = b := ⟨_, rfl⟩
  obtain ⟨b1, hb1⟩ : ∃ b, isR l1 = b := ⟨_, rfl⟩
  obtain ⟨b2, hb2⟩ : ∃ b, isR l2 = b := ⟨_, rfl⟩
  rw [hb0] at H0
  rw [hb1] at H1
  rw [hb2] at H2
  have HB := Lib.hid (And.intro hb0 (And.intro hb1 hb2))
  clear hb0 hb1 hb2
  have S0 := Sep.start w
  have S1 := push_box S0 26 #[.slice a0 n0 c0] w.heap.size rfl
  have S2 := push_box S1 26 #[.slice a1 n1 c1] (w.heap.size + 1) (by simp)
  have S3 := push_box S2 26 #[.slice a2 n2 c2] (w.heap.size + 1 + 1) (by simp)
  have S4 := Lib.hid (push_box S3 26 #[.slice none 0 0] (w.heap.size + 1 + 1 + 1) (by simp))
  clear S0 S1 S2 S3
  obtain ⟨W1, hW1⟩ : ∃ u, u = (((w.alloc (.cells #[.slice a0 n0 c0] 26)).alloc (.cells #[.slice a1 n1 c1] 26)).alloc (.cells #[.slice a2 n2 c2] 26)).alloc (.cells #[.slice none 0 0] 26) := ⟨_, rfl⟩
  rw [← hW1] at S4
  go_enter Try.func22, Try.ntmps22
  go_upto_region 1 with fail
  rw [← hW1]
  clear hW1
  obtain ⟨r0, r0'⟩ := Row.one (box_at S4.out 0 rfl)
  obtain ⟨r1, r1'⟩ := Row.one (box_at S4.out 1 rfl)
  obtain ⟨r2, r2'⟩ := Row.one (box_at S4.out 2 rfl)
  go_wp2_with fail
  go_at_call 37
  refine (H0.out _ S4.out.old).mono ?_
  rintro e w3 ⟨rfl, hb⟩
  have S5 := Lib.hid (S4.out.keep hb)
  clear hb S4
  clear r0 r0' r1 r1' r2 r2'
  obtain ⟨r0, r0'⟩ := Row.one (box_at S5.out 0 rfl)
  obtain ⟨r1, r1'⟩ := Row.one (box_at S5.out 1 rfl)
  obtain ⟨r2, r2'⟩ := Row.one (box_at S5.out 2 rfl)
  cases b0 with
  | false =>
    have HE := Lib.hid (show mgL l0 l1 l2 = l1 ∧ mgB l0 l1 l2 = false by unfold mgL mgB; rw [HB.out.1]; exact ⟨rfl, rfl⟩)
    go_wp2_with fail
    go_at_call 36
    refine (HL.out _ S5.out.old).mono ?_
    rintro e w8 ⟨a8, c8, rfl, ho8, hb8⟩
    have S8 := push_own S5.out hb8 ho8
    clear hb8 ho8
    clear r0 r0' r1 r1' r2 r2'
    obtain ⟨z0, z1⟩ := Row.one (box_at S8 3 rfl)
    have S9 := Lib.hid (put_box5 S8 3 rfl 0 (.slice a8 n1 c8))
    go_wp2_with fail
    refine bodyPost_ret (v := .tuple #[.agg #[.slice a8 n1 c8], .bool false]) (by simp [results, Try.results22, go_sem, z0]) rfl ?_
    unfold GaveRB
    rw [HE.out.1, HE.out.2, ← HN1.out]
    exact ⟨a8, c8, rfl, own_from S9.out 4 rfl, S9.out.old⟩
  | true =>
    go_wp2_with fail
    go_at_call 37
    refine (H1.out _ S5.out.old).mono ?_
    rintro e w4 ⟨rfl, hb⟩
    have S6 := Lib.hid (S5.out.keep hb)
    clear hb S5
    clear r0 r0' r1 r1' r2 r2'
    obtain ⟨r0, r0'⟩ := Row.one (box_at S6.out 0 rfl)
    obtain ⟨r1, r1'⟩ := Row.one (box_at S6.out 1 rfl)
    obtain ⟨r2, r2'⟩ := Row.one (box_at S6.out 2 rfl)
    cases b1 with
    | false =>
      have HE := Lib.hid (show mgL l0 l1 l2 = l1 ∧ mgB l0 l1 l2 = false by unfold mgL mgB; rw [HB.out.1, HB.out.2.1]; exact ⟨rfl, rfl⟩)
      go_wp2_with fail
      go_at_call 36
      refine (HL.out _ S6.out.old).mono ?_
      rintro e w8 ⟨a8, c8, rfl, ho8, hb8⟩
      have S8 := push_own S6.out hb8 ho8
      clear hb8 ho8
      clear r0 r0' r1 r1' r2 r2'
      obtain ⟨z0, z1⟩ := Row.one (box_at S8 3 rfl)
      have S9 := Lib.hid (put_box5 S8 3 rfl 0 (.slice a8 n1 c8))
      go_wp2_with fail
      refine bodyPost_ret (v := .tuple #[.agg #[.slice a8 n1 c8], .bool false]) (by simp [results, Try.results22, go_sem, z0]) rfl ?_
      unfold GaveRB
      rw [HE.out.1, HE.out.2, ← HN1.out]
      exact ⟨a8, c8, rfl, own_from S9.out 4 rfl, S9.out.old⟩
    | true =>
      go_wp2_with fail
      go_at_call 37
      refine (H2.out _ S6.out.old).mono ?_
      rintro e w5 ⟨rfl, hb⟩
      have S7 := Lib.hid (S6.out.keep hb)
      clear hb S6
      clear r0 r0' r1 r1' r2 r2'
      obtain ⟨r0, r0'⟩ := Row.one (box_at S7.out 0 rfl)
      obtain ⟨r1, r1'⟩ := Row.one (box_at S7.out 1 rfl)
      obtain ⟨r2, r2'⟩ := Row.one (box_at S7.out 2 rfl)
      cases b2 with
      | false =>
        have HE := Lib.hid (show mgL l0 l1 l2 = l1 ∧ mgB l0 l1 l2 = false by unfold mgL mgB; rw [HB.out.1, HB.out.2.1, HB.out.2.2]; exact ⟨rfl, rfl⟩)
        go_wp2_with fail
        go_at_call 36
        refine (HL.out _ S7.out.old).mono ?_
        rintro e w8 ⟨a8, c8, rfl, ho8, hb8⟩
        have S8 := push_own S7.out hb8 ho8
        clear hb8 ho8
        clear r0 r0' r1 r1' r2 r2'
        obtain ⟨z0, z1⟩ := Row.one (box_at S8 3 rfl)
        have S9 := Lib.hid (put_box5 S8 3 rfl 0 (.slice a8 n1 c8))
        go_wp2_with fail
        refine bodyPost_ret (v := .tuple #[.agg #[.slice a8 n1 c8], .bool false]) (by simp [results, Try.results22, go_sem, z0]) rfl ?_
        unfold GaveRB
        rw [HE.out.1, HE.out.2, ← HN1.out]
        exact ⟨a8, c8, rfl, own_from S9.out 4 rfl, S9.out.old⟩
      | true =>
        have hm1 : (n1 : Int) ≤ 6 := by have h1 := isR_len HB.out.2.1; have h2 := HN1.out; omega
        have hm2 : (n2 : Int) ≤ 6 := by have h1 := isR_len HB.out.2.2; have h2 := HN2.out; omega
        have S9 := Lib.hid (push_own (push_box S7.out 26 #[.slice none 0 0] w5.heap.size rfl) (Below.refl _ _) (OwnV.nil _ _ 64 2))
        clear S7 r0 r0' r1 r1' r2 r2'
        go_wp2_with fail
        go_loopw [9, 10] (fun iv kv wr => ∃ i k : Nat, i ≤ n1 ∧ k ≤ n2 ∧ iv = .int .i64 i ∧ kv = .int .i64 k ∧ Hid (∃ (A : Option Addr) (C m : Nat) (q : List F), m = q.length ∧ q ++ mg (pickF l0 l1 l2) (l1.drop i) (l2.drop k) = mgO l0 l1 l2 ∧ Sep w wr [boxR w.heap.size 26 #[.slice a0 n0 c0], boxR (w.heap.size + 1) 26 #[.slice a1 n1 c1], boxR (w.heap.size + 1 + 1) 26 #[.slice a2 n2 c2], boxR (w.heap.size + 1 + 1 + 1) 26 #[.slice none 0 0], boxR w5.heap.size 26 #[.slice A m C], ownV 64 2 A C m (cellsF q)])) (fun iv kv _ => n1 + n2 - (intOf iv).toNat - (intOf kv).toNat)
        case atStart => exact ⟨0, 0, Nat.zero_le _, Nat.zero_le _, rfl, rfl, none, 0, 0, [], rfl, rfl, S9.out⟩
        case round =>
          obtain ⟨i, k, hi, hk, rfl, rfl, hrel⟩ := hrel
          obtain ⟨A, C, m, q, hm, hq, S⟩ := hrel.out
          have HQ := Lib.hid (And.intro hm hq)
          have hm' : (m : Int) ≤ 12 := by have h1 := len_part hq; have h2 := HN1.out; have h3 := HN2.out; omega
          have S10 := Lib.hid S
          clear hm hq S hrel S9
          by_cases hend : i = n1 ∧ k = n2
          · obtain ⟨rfl, rfl⟩ := hend
            have HE := Lib.hid (show q = mgO l0 l1 l2 by have h := HQ.out.2; rw [mg_end _ _ _ _ _ (by rw [HN1.out]; exact Nat.le_refl _) (by rw [HN2.out]; exact Nat.le_refl _), List.append_nil] at h; exact h)
            have HLn := Lib.hid (show m = (mgO l0 l1 l2).length by rw [HQ.out.1, HE.out])
            have HX' := Lib.hid (fun w' (hr : Reads w' w'.heap.size A (cellsF q)) => HX.out A C (by rw [← HLn.out]; omega) w' (by rw [← HE.out]; exact hr))
            rw [← HLn.out] at HX'
            obtain ⟨bo, hbo⟩ : ∃ b, isR (mgO l0 l1 l2) = b := ⟨_, rfl⟩
            rw [hbo] at HX'
            have hn12 : ¬ ((i : Int) < (i : Int)) := by omega
            have hk12 : ¬ ((k : Int) < (k : Int)) := by omega
            obtain ⟨r0, r0'⟩ := Row.one (box_at S10.out 0 rfl)
            obtain ⟨r1, r1'⟩ := Row.one (box_at S10.out 1 rfl)
            obtain ⟨r2, r2'⟩ := Row.one (box_at S10.out 2 rfl)
            obtain ⟨o0, o1⟩ := Row.one (box_at S10.out 4 rfl)
            go_wp2_with fail
            go_at_call 37
            refine (HX'.out _ (own_at S10.out 5 rfl).reads).mono ?_
            rintro e w6 ⟨rfl, hb⟩
            have S11 := Lib.hid (S10.out.keep hb)
            clear hb S10 o0 o1
            clear r0 r0' r1 r1' r2 r2'
            obtain ⟨r0, r0'⟩ := Row.one (box_at S11.out 0 rfl)
            obtain ⟨r1, r1'⟩ := Row.one (box_at S11.out 1 rfl)
            obtain ⟨r2, r2'⟩ := Row.one (box_at S11.out 2 rfl)
            obtain ⟨o0, o1⟩ := Row.one (box_at S11.out 4 rfl)
            cases bo with
            | false =>
              have HE2 := Lib.hid (show mgL l0 l1 l2 = l1 ∧ mgB l0 l1 l2 = false by unfold mgL mgB; rw [HB.out.1, HB.out.2.1, HB.out.2.2, hbo]; exact ⟨rfl, rfl⟩)
              go_wp2_with fail
              go_at_call 36
              refine (HL.out _ S11.out.old).mono ?_
              rintro e w8 ⟨a8, c8, rfl, ho8, hb8⟩
              have S8 := push_own S11.out hb8 ho8
              clear hb8 ho8
              clear r0 r0' r1 r1' r2 r2'
              obtain ⟨z0, z1⟩ := Row.one (box_at S8 3 rfl)
              have S9 := Lib.hid (put_box5 S8 3 rfl 0 (.slice a8 i c8))
              go_wp2_with fail
              refine bodyPost_ret (v := .tuple #[.agg #[.slice a8 i c8], .bool false]) (by simp [results, Try.results22, go_sem, z0]) rfl ?_
              unfold GaveRB
              rw [HE2.out.1, HE2.out.2, ← HN1.out]
              exact ⟨a8, c8, rfl, own_from S9.out 6 rfl, S9.out.old⟩
            | true =>
              have HE2 := Lib.hid (show mgL l0 l1 l2 = q ∧ mgB l0 l1 l2 = true by unfold mgL mgB; rw [HB.out.1, HB.out.2.1, HB.out.2.2, hbo]; exact ⟨HE.out.symm, rfl⟩)
              obtain ⟨z0, z1⟩ := Row.one (box_at S11.out 3 rfl)
              have S12 := Lib.hid (put_box5 S11.out 3 rfl 0 (.slice A m C))
              go_wp2_with fail
              refine bodyPost_ret (v := .tuple #[.agg #[.slice A m C], .bool true]) (by simp [results, Try.results22, go_sem, z0]) rfl ?_
              unfold GaveRB
              rw [HE2.out.1, HE2.out.2, ← HQ.out.1]
              exact ⟨A, C, rfl, own_from S12.out 5 rfl, S12.out.old⟩
          · have h5 := five l0 l1 l2 i k (by rw [← HN1.out]; exact hi) (by rw [← HN2.out]; exact hk) (by rw [← HN1.out, ← HN2.out]; exact hend)
            clear hend HX
            rcases h5 with ⟨hi', hk', hst⟩ | ⟨hk', hi', hst⟩ | ⟨hi', hk', hlt, hlt2, hne, hst⟩ | ⟨hi', hk', hlt, hne, hst⟩ | ⟨hi', hk', hne, hst⟩
            · -- A
              obtain ⟨ad, rfl, had, h1, h2⟩ := readsF (HR1.out _ S10.out.old) i hi'
              obtain ⟨t, ht⟩ : ∃ t, t = l1[i].name := ⟨_, rfl⟩
              rw [← ht] at h1 hst
              clear h2
              have ik : (i : Int) < (n1 : Int) := by have := HN1.out; omega
              have kk : ¬ (k : Int) < (n2 : Int) := by have := HN2.out; omega
              have kg : (n2 : Int) ≤ (k : Int) := by omega
              have kb : decide ((n2 : Int) ≤ (k : Int)) = true := decide_eq_true kg
              clear ht hi' hk'
              have hle := string_leq
              have HST := Lib.hid (mg_step HQ.out.2 hst)
              clear hst
              obtain ⟨v, hv⟩ : ∃ v, mN l0 l1 l2 t.data.toList = v := ⟨_, rfl⟩
              obtain ⟨bo, hbo⟩ : ∃ b, mB l0 l1 l2 t.data.toList = b := ⟨_, rfl⟩
              have HM' := Lib.hid (HM.out t)
              rw [hv, hbo] at HM'
              have HP := Lib.hid (show pickF l0 l1 l2 t = if bo then [⟨t, v⟩] else [] by unfold pickF; rw [hv, hbo])
              clear hv hbo HM
              obtain ⟨r0, r0'⟩ := Row.one (box_at S10.out 0 rfl)
              obtain ⟨r1, r1'⟩ := Row.one (box_at S10.out 1 rfl)
              obtain ⟨r2, r2'⟩ := Row.one (box_at S10.out 2 rfl)
              obtain ⟨o0, o1⟩ := Row.one (box_at S10.out 4 rfl)
              go_upto_region 8 with fail
              go_quiet (fail)
              go_upto_region 15 with fail
              go_wp2_with fail
              go_at_call 54
              refine (HM'.out _ (show Below w.heap.size w _ from (S10.out.drews _).old)).mono ?_
              rintro e w6 ⟨rfl, hb⟩
              have S11 := Lib.hid ((S10.out.drews _).keep hb)
              clear hb S10 o0 o1
              clear r0 r0' r1 r1' r2 r2'
              obtain ⟨r0, r0'⟩ := Row.one (box_at S11.out 0 rfl)
              obtain ⟨r1, r1'⟩ := Row.one (box_at S11.out 1 rfl)
              obtain ⟨r2, r2'⟩ := Row.one (box_at S11.out 2 rfl)
              obtain ⟨o0, o1⟩ := Row.one (box_at S11.out 4 rfl)
              cases bo with
              | false =>
                go_wp2_with fail
                go_roundw
                case rel => exact ⟨i + 1, k, by omega, by omega, by go_num, by go_num, A, C, m, q, HQ.out.1, (by have h := HST.out; rw [HP.out] at h; simpa using h), S11.out⟩
                case measure => simp [intOf]; omega
              | true =>
                have S12 := Lib.hid (S11.out.alloc (.cells #[.string t, .int .i64 v] 64))
                have R2 := Lib.hid (reads_two w6 t v _ rfl 64)
                go_wp2_with (at_builtin; refine wpList_append_v S12.out 5 rfl rfl _ _ 24 (by rfl) i0 (.agg #[.string ⟨#[]⟩, .int .i64 0]) 24 Try.underlying24 HI.out.1 HI.out.2.1 HI.out.2.2.1 HI.out.2.2.2 rfl (by omega) m (by rfl) rfl (w6.heap.size + 1) (some ⟨w6.heap.size, 0, none⟩) 1 1 1 (cellsF [⟨t, v⟩]) (by rfl) rfl R2.out (by simp) (cellsF_one _) (by unfold maxLen; omega) (by omega) ?_; intro A' C' w7 S13'; have S13 := Lib.hid S13'; clear S13'; obtain ⟨p0, p1⟩ := Row.one (box_at S13.out 4 rfl))
                have S14 := Lib.hid (put_box5 S13.out 4 rfl 0 (.slice A' (m + 1) C'))
                clear p0 p1
                go_roundw
                case rel => exact ⟨i + 1, k, by omega, by omega, by go_num, by go_num, A', C', m + 1, q ++ [⟨t, v⟩], by rw [List.length_append, ← HQ.out.1]; rfl, (by have h := HST.out; rw [HP.out] at h; exact h), by rw [cellsF_append]; exact S14.out⟩
                case measure => simp [intOf]; omega
            · -- B
              obtain ⟨bd, rfl, hbd, h3, h4⟩ := readsF (HR2.out _ S10.out.old) k hk'
              obtain ⟨u, hu⟩ : ∃ u, u = l2[k].name := ⟨_, rfl⟩
              rw [← hu] at h3 hst
              clear h4
              have ik : ¬ (i : Int) < (n1 : Int) := by have := HN1.out; omega
              have kk : (k : Int) < (n2 : Int) := by have := HN2.out; omega
              have kg : ¬ (n2 : Int) ≤ (k : Int) := by omega
              have kb : decide ((n2 : Int) ≤ (k : Int)) = false := decide_eq_false kg
              have ib : decide ((i : Int) < (n1 : Int)) = false := decide_eq_false ik
              clear hu hi' hk'
              have hle := string_leq
              have HST := Lib.hid (mg_step HQ.out.2 hst)
              clear hst
              obtain ⟨v, hv⟩ : ∃ v, mN l0 l1 l2 u.data.toList = v := ⟨_, rfl⟩
              obtain ⟨bo, hbo⟩ : ∃ b, mB l0 l1 l2 u.data.toList = b := ⟨_, rfl⟩
              have HM' := Lib.hid (HM.out u)
              rw [hv, hbo] at HM'
              have HP := Lib.hid (show pickF l0 l1 l2 u = if bo then [⟨u, v⟩] else [] by unfold pickF; rw [hv, hbo])
              clear hv hbo HM
              obtain ⟨r0, r0'⟩ := Row.one (box_at S10.out 0 rfl)
              obtain ⟨r1, r1'⟩ := Row.one (box_at S10.out 1 rfl)
              obtain ⟨r2, r2'⟩ := Row.one (box_at S10.out 2 rfl)
              obtain ⟨o0, o1⟩ := Row.one (box_at S10.out 4 rfl)
              go_upto_region 8 with fail
              go_quiet (fail)
              go_upto_region 15 with fail
              go_wp2_with fail
              go_at_call 54
              refine (HM'.out _ (show Below w.heap.size w _ from (S10.out.drews _).old)).mono ?_
              rintro e w6 ⟨rfl, hb⟩
              have S11 := Lib.hid ((S10.out.drews _).keep hb)
              clear hb S10 o0 o1
              clear r0 r0' r1 r1' r2 r2'
              obtain ⟨r0, r0'⟩ := Row.one (box_at S11.out 0 rfl)
              obtain ⟨r1, r1'⟩ := Row.one (box_at S11.out 1 rfl)
              obtain ⟨r2, r2'⟩ := Row.one (box_at S11.out 2 rfl)
              obtain ⟨o0, o1⟩ := Row.one (box_at S11.out 4 rfl)
              cases bo with
              | false =>
                go_wp2_with fail
                go_roundw
                case rel => exact ⟨i, k + 1, by omega, by omega, by go_num, by go_num, A, C, m, q, HQ.out.1, (by have h := HST.out; rw [HP.out] at h; simpa using h), S11.out⟩
                case measure => simp [intOf]; omega
              | true =>
                have S12 := Lib.hid (S11.out.alloc (.cells #[.string u, .int .i64 v] 64))
                have R2 := Lib.hid (reads_two w6 u v _ rfl 64)
                go_wp2_with (at_builtin; refine wpList_append_v S12.out 5 rfl rfl _ _ 24 (by rfl) i0 (.agg #[.string ⟨#[]⟩, .int .i64 0]) 24 Try.underlying24 HI.out.1 HI.out.2.1 HI.out.2.2.1 HI.out.2.2.2 rfl (by omega) m (by rfl) rfl (w6.heap.size + 1) (some ⟨w6.heap.size, 0, none⟩) 1 1 1 (cellsF [⟨u, v⟩]) (by rfl) rfl R2.out (by simp) (cellsF_one _) (by unfold maxLen; omega) (by omega) ?_; intro A' C' w7 S13'; have S13 := Lib.hid S13'; clear S13'; obtain ⟨p0, p1⟩ := Row.one (box_at S13.out 4 rfl))
                have S14 := Lib.hid (put_box5 S13.out 4 rfl 0 (.slice A' (m + 1) C'))
                clear p0 p1
                go_roundw
                case rel => exact ⟨i, k + 1, by omega, by omega, by go_num, by go_num, A', C', m + 1, q ++ [⟨u, v⟩], by rw [List.length_append, ← HQ.out.1]; rfl, (by have h := HST.out; rw [HP.out] at h; exact h), by rw [cellsF_append]; exact S14.out⟩
                case measure => simp [intOf]; omega
            · -- C
              obtain ⟨ad, rfl, had, h1, h2⟩ := readsF (HR1.out _ S10.out.old) i hi'
              obtain ⟨t, ht⟩ : ∃ t, t = l1[i].name := ⟨_, rfl⟩
              rw [← ht] at h1
              clear h2
              obtain ⟨bd, rfl, hbd, h3, h4⟩ := readsF (HR2.out _ S10.out.old) k hk'
              obtain ⟨u, hu⟩ : ∃ u, u = l2[k].name := ⟨_, rfl⟩
              rw [← hu] at h3 hst
              clear h4
              have l1' : bytesLess t.toList u.toList = false := by rw [ht, hu, ByteArray.toList_eq, ByteArray.toList_eq]; exact hlt2
              have e1 : (t.toList == u.toList) = false := by rw [beq_eq_false_iff_ne, ht, hu, ByteArray.toList_eq, ByteArray.toList_eq]; exact hne
              have ik : (i : Int) < (n1 : Int) := by have := HN1.out; omega
              have kk : (k : Int) < (n2 : Int) := by have := HN2.out; omega
              have kg : ¬ (n2 : Int) ≤ (k : Int) := by omega
              have kb : decide ((n2 : Int) ≤ (k : Int)) = false := decide_eq_false kg
              have ib : decide ((i : Int) < (n1 : Int)) = true := decide_eq_true ik
              clear ht hu hlt hlt2 hne hi' hk'
              have hle := string_leq
              have HST := Lib.hid (mg_step HQ.out.2 hst)
              clear hst
              obtain ⟨v, hv⟩ : ∃ v, mN l0 l1 l2 u.data.toList = v := ⟨_, rfl⟩
              obtain ⟨bo, hbo⟩ : ∃ b, mB l0 l1 l2 u.data.toList = b := ⟨_, rfl⟩
              have HM' := Lib.hid (HM.out u)
              rw [hv, hbo] at HM'
              have HP := Lib.hid (show pickF l0 l1 l2 u = if bo then [⟨u, v⟩] else [] by unfold pickF; rw [hv, hbo])
              clear hv hbo HM
              obtain ⟨r0, r0'⟩ := Row.one (box_at S10.out 0 rfl)
              obtain ⟨r1, r1'⟩ := Row.one (box_at S10.out 1 rfl)
              obtain ⟨r2, r2'⟩ := Row.one (box_at S10.out 2 rfl)
              obtain ⟨o0, o1⟩ := Row.one (box_at S10.out 4 rfl)
              go_upto_region 8 with fail
              go_quiet (fail)
              go_upto_region 15 with fail
              go_wp2_with fail
              go_at_call 54
              refine (HM'.out _ (show Below w.heap.size w _ from (S10.out.drews _).old)).mono ?_
              rintro e w6 ⟨rfl, hb⟩
              have S11 := Lib.hid ((S10.out.drews _).keep hb)
              clear hb S10 o0 o1
              clear r0 r0' r1 r1' r2 r2'
              obtain ⟨r0, r0'⟩ := Row.one (box_at S11.out 0 rfl)
              obtain ⟨r1, r1'⟩ := Row.one (box_at S11.out 1 rfl)
              obtain ⟨r2, r2'⟩ := Row.one (box_at S11.out 2 rfl)
              obtain ⟨o0, o1⟩ := Row.one (box_at S11.out 4 rfl)
              cases bo with
              | false =>
                go_wp2_with fail
                go_roundw
                case rel => exact ⟨i, k + 1, by omega, by omega, by go_num, by go_num, A, C, m, q, HQ.out.1, (by have h := HST.out; rw [HP.out] at h; simpa using h), S11.out⟩
                case measure => simp [intOf]; omega
              | true =>
                have S12 := Lib.hid (S11.out.alloc (.cells #[.string u, .int .i64 v] 64))
                have R2 := Lib.hid (reads_two w6 u v _ rfl 64)
                go_wp2_with (at_builtin; refine wpList_append_v S12.out 5 rfl rfl _ _ 24 (by rfl) i0 (.agg #[.string ⟨#[]⟩, .int .i64 0]) 24 Try.underlying24 HI.out.1 HI.out.2.1 HI.out.2.2.1 HI.out.2.2.2 rfl (by omega) m (by rfl) rfl (w6.heap.size + 1) (some ⟨w6.heap.size, 0, none⟩) 1 1 1 (cellsF [⟨u, v⟩]) (by rfl) rfl R2.out (by simp) (cellsF_one _) (by unfold maxLen; omega) (by omega) ?_; intro A' C' w7 S13'; have S13 := Lib.hid S13'; clear S13'; obtain ⟨p0, p1⟩ := Row.one (box_at S13.out 4 rfl))
                have S14 := Lib.hid (put_box5 S13.out 4 rfl 0 (.slice A' (m + 1) C'))
                clear p0 p1
                go_roundw
                case rel => exact ⟨i, k + 1, by omega, by omega, by go_num, by go_num, A', C', m + 1, q ++ [⟨u, v⟩], by rw [List.length_append, ← HQ.out.1]; rfl, (by have h := HST.out; rw [HP.out] at h; exact h), by rw [cellsF_append]; exact S14.out⟩
                case measure => simp [intOf]; omega
            · -- D
              obtain ⟨ad, rfl, had, h1, h2⟩ := readsF (HR1.out _ S10.out.old) i hi'
              obtain ⟨t, ht⟩ : ∃ t, t = l1[i].name := ⟨_, rfl⟩
              rw [← ht] at h1 hst
              clear h2
              obtain ⟨bd, rfl, hbd, h3, h4⟩ := readsF (HR2.out _ S10.out.old) k hk'
              obtain ⟨u, hu⟩ : ∃ u, u = l2[k].name := ⟨_, rfl⟩
              rw [← hu] at h3
              clear h4
              have l1' : bytesLess t.toList u.toList = true := by rw [ht, hu, ByteArray.toList_eq, ByteArray.toList_eq]; exact hlt
              have e1 : (t.toList == u.toList) = false := by rw [beq_eq_false_iff_ne, ht, hu, ByteArray.toList_eq, ByteArray.toList_eq]; exact hne
              have e2 : (u.toList == t.toList) = false := by rw [beq_eq_false_iff_ne, ht, hu, ByteArray.toList_eq, ByteArray.toList_eq]; exact fun h => hne h.symm
              have ik : (i : Int) < (n1 : Int) := by have := HN1.out; omega
              have kk : (k : Int) < (n2 : Int) := by have := HN2.out; omega
              have kg : ¬ (n2 : Int) ≤ (k : Int) := by omega
              have kb : decide ((n2 : Int) ≤ (k : Int)) = false := decide_eq_false kg
              have ib : decide ((i : Int) < (n1 : Int)) = true := decide_eq_true ik
              clear ht hu hlt hne hi' hk'
              have hle := string_leq
              have HST := Lib.hid (mg_step HQ.out.2 hst)
              clear hst
              obtain ⟨v, hv⟩ : ∃ v, mN l0 l1 l2 t.data.toList = v := ⟨_, rfl⟩
              obtain ⟨bo, hbo⟩ : ∃ b, mB l0 l1 l2 t.data.toList = b := ⟨_, rfl⟩
              have HM' := Lib.hid (HM.out t)
              rw [hv, hbo] at HM'
              have HP := Lib.hid (show pickF l0 l1 l2 t = if bo then [⟨t, v⟩] else [] by unfold pickF; rw [hv, hbo])
              clear hv hbo HM
              obtain ⟨r0, r0'⟩ := Row.one (box_at S10.out 0 rfl)
              obtain ⟨r1, r1'⟩ := Row.one (box_at S10.out 1 rfl)
              obtain ⟨r2, r2'⟩ := Row.one (box_at S10.out 2 rfl)
              obtain ⟨o0, o1⟩ := Row.one (box_at S10.out 4 rfl)
              go_upto_region 8 with fail
              go_quiet (fail)
              go_upto_region 15 with fail
              go_wp2_with fail
              go_at_call 54
              refine (HM'.out _ (show Below w.heap.size w _ from (S10.out.drews _).old)).mono ?_
              rintro e w6 ⟨rfl, hb⟩
              have S11 := Lib.hid ((S10.out.drews _).keep hb)
              clear hb S10 o0 o1
              clear r0 r0' r1 r1' r2 r2'
              obtain ⟨r0, r0'⟩ := Row.one (box_at S11.out 0 rfl)
              obtain ⟨r1, r1'⟩ := Row.one (box_at S11.out 1 rfl)
              obtain ⟨r2, r2'⟩ := Row.one (box_at S11.out 2 rfl)
              obtain ⟨o0, o1⟩ := Row.one (box_at S11.out 4 rfl)
              cases bo with
              | false =>
                go_wp2_with fail
                go_roundw
                case rel => exact ⟨i + 1, k, by omega, by omega, by go_num, by go_num, A, C, m, q, HQ.out.1, (by have h := HST.out; rw [HP.out] at h; simpa using h), S11.out⟩
                case measure => simp [intOf]; omega
              | true =>
                have S12 := Lib.hid (S11.out.alloc (.cells #[.string t, .int .i64 v] 64))
                have R2 := Lib.hid (reads_two w6 t v _ rfl 64)
                go_wp2_with (at_builtin; refine wpList_append_v S12.out 5 rfl rfl _ _ 24 (by rfl) i0 (.agg #[.string ⟨#[]⟩, .int .i64 0]) 24 Try.underlying24 HI.out.1 HI.out.2.1 HI.out.2.2.1 HI.out.2.2.2 rfl (by omega) m (by rfl) rfl (w6.heap.size + 1) (some ⟨w6.heap.size, 0, none⟩) 1 1 1 (cellsF [⟨t, v⟩]) (by rfl) rfl R2.out (by simp) (cellsF_one _) (by unfold maxLen; omega) (by omega) ?_; intro A' C' w7 S13'; have S13 := Lib.hid S13'; clear S13'; obtain ⟨p0, p1⟩ := Row.one (box_at S13.out 4 rfl))
                have S14 := Lib.hid (put_box5 S13.out 4 rfl 0 (.slice A' (m + 1) C'))
                clear p0 p1
                go_roundw
                case rel => exact ⟨i + 1, k, by omega, by omega, by go_num, by go_num, A', C', m + 1, q ++ [⟨t, v⟩], by rw [List.length_append, ← HQ.out.1]; rfl, (by have h := HST.out; rw [HP.out] at h; exact h), by rw [cellsF_append]; exact S14.out⟩
                case measure => simp [intOf]; omega
            · -- E
              obtain ⟨ad, rfl, had, h1, h2⟩ := readsF (HR1.out _ S10.out.old) i hi'
              obtain ⟨t, ht⟩ : ∃ t, t = l1[i].name := ⟨_, rfl⟩
              rw [← ht] at h1 hst
              clear h2
              obtain ⟨bd, rfl, hbd, h3, h4⟩ := readsF (HR2.out _ S10.out.old) k hk'
              rw [hne, ← ht] at h3
              clear h4
              have l1' : bytesLess t.toList t.toList = false := less_irrefl _
              have e1 : (t.toList == t.toList) = true := by simp
              have ik : (i : Int) < (n1 : Int) := by have := HN1.out; omega
              have kk : (k : Int) < (n2 : Int) := by have := HN2.out; omega
              have kg : ¬ (n2 : Int) ≤ (k : Int) := by omega
              have kb : decide ((n2 : Int) ≤ (k : Int)) = false := decide_eq_false kg
              have ib : decide ((i : Int) < (n1 : Int)) = true := decide_eq_true ik
              clear ht hne hi' hk'
              have hle := string_leq
              have HST := Lib.hid (mg_step HQ.out.2 hst)
              clear hst
              obtain ⟨v, hv⟩ : ∃ v, mN l0 l1 l2 t.data.toList = v := ⟨_, rfl⟩
              obtain ⟨bo, hbo⟩ : ∃ b, mB l0 l1 l2 t.data.toList = b := ⟨_, rfl⟩
              have HM' := Lib.hid (HM.out t)
              rw [hv, hbo] at HM'
              have HP := Lib.hid (show pickF l0 l1 l2 t = if bo then [⟨t, v⟩] else [] by unfold pickF; rw [hv, hbo])
              clear hv hbo HM
              obtain ⟨r0, r0'⟩ := Row.one (box_at S10.out 0 rfl)
              obtain ⟨r1, r1'⟩ := Row.one (box_at S10.out 1 rfl)
              obtain ⟨r2, r2'⟩ := Row.one (box_at S10.out 2 rfl)
              obtain ⟨o0, o1⟩ := Row.one (box_at S10.out 4 rfl)
              go_upto_region 8 with fail
              go_quiet (fail)
              go_upto_region 15 with fail
              go_wp2_with fail
              go_at_call 54
              refine (HM'.out _ (show Below w.heap.size w _ from (S10.out.drews _).old)).mono ?_
              rintro e w6 ⟨rfl, hb⟩
              have S11 := Lib.hid ((S10.out.drews _).keep hb)
              clear hb S10 o0 o1
              clear r0 r0' r1 r1' r2 r2'
              obtain ⟨r0, r0'⟩ := Row.one (box_at S11.out 0 rfl)
              obtain ⟨r1, r1'⟩ := Row.one (box_at S11.out 1 rfl)
              obtain ⟨r2, r2'⟩ := Row.one (box_at S11.out 2 rfl)
              obtain ⟨o0, o1⟩ := Row.one (box_at S11.out 4 rfl)
              cases bo with
              | false =>
                go_wp2_with fail
                go_roundw
                case rel => exact ⟨i + 1, k + 1, by omega, by omega, by go_num, by go_num, A, C, m, q, HQ.out.1, (by have h := HST.out; rw [HP.out] at h; simpa using h), S11.out⟩
                case measure => simp [intOf]; omega
              | true =>
                have S12 := Lib.hid (S11.out.alloc (.cells #[.string t, .int .i64 v] 64))
                have R2 := Lib.hid (reads_two w6 t v _ rfl 64)
                go_wp2_with (at_builtin; refine wpList_append_v S12.out 5 rfl rfl _ _ 24 (by rfl) i0 (.agg #[.string ⟨#[]⟩, .int .i64 0]) 24 Try.underlying24 HI.out.1 HI.out.2.1 HI.out.2.2.1 HI.out.2.2.2 rfl (by omega) m (by rfl) rfl (w6.heap.size + 1) (some ⟨w6.heap.size, 0, none⟩) 1 1 1 (cellsF [⟨t, v⟩]) (by rfl) rfl R2.out (by simp) (cellsF_one _) (by unfold maxLen; omega) (by omega) ?_; intro A' C' w7 S13'; have S13 := Lib.hid S13'; clear S13'; obtain ⟨p0, p1⟩ := Row.one (box_at S13.out 4 rfl))
                have S14 := Lib.hid (put_box5 S13.out 4 rfl 0 (.slice A' (m + 1) C'))
                clear p0 p1
                go_roundw
                case rel => exact ⟨i + 1, k + 1, by omega, by omega, by go_num, by go_num, A', C', m + 1, q ++ [⟨t, v⟩], by rw [List.length_append, ← HQ.out.1]; rfl, (by have h := HST.out; rw [HP.out] at h; exact h), by rw [cellsF_append]; exact S14.out⟩
                case measure => simp [intOf]; omega
end Go.Proofs.Ytephiilicebdcaa.L5
