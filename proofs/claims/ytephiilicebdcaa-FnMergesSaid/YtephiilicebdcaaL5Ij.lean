/-
  The contract of chapter 5's MergeRecords of the program. Conditions: records of at most 2^40 fields, names of at most 2^48 bytes. (The region that draws its order is written by my program gen_l5ij.py.)
-/
import Derived.Test.YtephiilicebdcaaL5Ii
import Derived.Test.YtephiilicebdcaaL5Id
import Derived.Test.YtephiilicebdcaaL5Ie
import Derived.Test.YtephiilicebdcaaL5Sm
namespace Go.Proofs.Ytephiilicebdcaa.L5
set_option maxRecDepth 100000
open L4 (boxR push_box box_at)
open Go.ChangeShapes Go.WideShapes Go.ChangeAt Go.RowKit Mem Sl Ex L2 Sv
set_option linter.unusedVariables false
set_option linter.unusedSimpArgs false

theorem run_makeMap_none (t k e : TypeId) (ht : Try.prog.underlying t = some (.map k e)) (w : World) :
    (Instr.makeMap t none).run Try.prog w = .ok (.map (some w.heap.size)) (w.alloc (.map #[] 0)) := by
  simp [Instr.makeMap, run_underlying ht]
theorem MapIs.mono {w : World} {b n m : Nat} {g : List UInt8 → Option Int} (h : MapIs w b n g) (hn : n ≤ m) : MapIs w b m g := by
  obtain ⟨D, h1, h2⟩ := h
  exact ⟨D, h1.mono hn, h2⟩
/-- What the map holds once the names of ls are done. -/
def mOs (l a b ls : List F) : List UInt8 → Option Int := fun s => if (getO ls s).isSome && mB l a b s then some (mN l a b s) else none
theorem mOs_nil (l a b : List F) : mOs l a b [] = fun _ => none := by funext s; simp [mOs, getO_nil]
theorem mOs_step (l a b ls : List F) (j : Nat) (hj : j < ls.length) : mOs l a b (ls.take (j + 1)) = if mB l a b ls[j].t then upd (mOs l a b (ls.take j)) ls[j].t (mN l a b ls[j].t) else mOs l a b (ls.take j) := by
  funext s
  have e : (getO (ls.take (j + 1)) s).isSome = ((getO (ls.take j) s).isSome || decide (ls[j].t = s)) := by
    rw [List.take_succ_eq_append_getElem hj, getO_append, getO_cons, getO_nil, Option.isSome_or]
    by_cases h : ls[j].t = s <;> simp [h]
  by_cases hs : ls[j].t = s
  · subst hs
    have e2 : (getO (ls.take (j + 1)) ls[j].t).isSome = true := by rw [e]; simp
    cases hb : mB l a b ls[j].t
    · simp [mOs, hb]
    · simp [mOs, upd, hb, e2]
  · have e2 : (getO (ls.take (j + 1)) s).isSome = (getO (ls.take j) s).isSome := by rw [e]; simp [hs]
    cases hb : mB l a b ls[j].t
    · simp [mOs, e2]
    · have hs' : ¬ s = ls[j].t := fun h => hs h.symm
      simp [mOs, upd, e2, hs']
theorem mOs_all (l a b : List F) : mOs l a b (a ++ b) = getO (mgO l a b) := by
  rw [getO_mgO]
  funext s
  simp [mOs, mO, hasN, getO_append, Option.isSome_or]
theorem getN_range {l : List F} (h : isR l = true) (s : List UInt8) : 0 ≤ getN l s ∧ getN l s ≤ 1000000000 := by
  unfold getN
  cases hg : getO l s with
  | none => simp
  | some x =>
    unfold getO at hg
    rw [Option.map_eq_some_iff] at hg
    obtain ⟨f, hf, rfl⟩ := hg
    obtain ⟨k, hk, rfl⟩ := List.getElem_of_mem (List.mem_of_find?_eq_some hf)
    exact (isR_at h k hk).2
theorem mN_range {l a b : List F} (h0 : isR l = true) (h1 : isR a = true) (h2 : isR b = true) (s : List UInt8) : 0 ≤ mN l a b s ∧ mN l a b s ≤ 1000000000 := by
  have q0 := getN_range h0 s
  have q1 := getN_range h1 s
  have q2 := getN_range h2 s
  unfold mN mrg
  split
  · exact q2
  · split
    · exact q1
    · show 0 ≤ max _ _ ∧ max _ _ ≤ _
      omega
theorem sep_six {W w : World} {r0 r1 r2 r3 r4 r5 : Res} {ts : List Res} (h : Sep W w (r0 :: r1 :: r2 :: r3 :: r4 :: r5 :: ts)) : Sep W w [r0, r1, r2, r3, r4, r5] :=
  sep_sub h (fun i => i) (fun i r hr => by
    match i, hr with
    | 0, hr => exact hr
    | 1, hr => exact hr
    | 2, hr => exact hr
    | 3, hr => exact hr
    | 4, hr => exact hr
    | 5, hr => exact hr
    | i + 6, hr => simp at hr) (fun i j _ _ e => e)
theorem mgs_yes {l a b : List F} (h0 : isR l = true) (h1 : isR a = true) (h2 : isR b = true) : mgL l a b = orR (mgO l a b) a ∧ mgB l a b = isR (mgO l a b) := by
  unfold mgL mgB orR
  rw [h0, h1, h2]
  exact ⟨rfl, rfl⟩
set_option maxHeartbeats 16000000 in
theorem mergeRecords_any (a0 a1 a2 : Option Addr) (c0 c1 c2 : Nat) (l0 l1 l2 : List F) (hl0 : l0.length ≤ 1099511627776) (hl1 : l1.length ≤ 1099511627776) (hl2 : l2.length ≤ 1099511627776) (hs0 : Small l0) (hs1 : Small l1) (hs2 : Small l2) (w : World)
    (hr0 : Reads w w.heap.size a0 (cellsF l0)) (hr1 : Reads w w.heap.size a1 (cellsF l1)) (hr2 : Reads w w.heap.size a2 (cellsF l2)) :
    Calls Try.prog 21 #[.agg #[.slice a0 l0.length c0], .agg #[.slice a1 l1.length c1], .agg #[.slice a2 l2.length c2]] w (GaveRB w (mgL l0 l1 l2) (mgB l0 l1 l2)) := by
  have H0 := Lib.hid (fun w' (h : Below w.heap.size w w') => isRecord_any a0 c0 l0 hl0 hs0 w' ((hr0.below h).more h.size))
  have H1 := Lib.hid (fun w' (h : Below w.heap.size w w') => isRecord_any a1 c1 l1 hl1 hs1 w' ((hr1.below h).more h.size))
  have H2 := Lib.hid (fun w' (h : Below w.heap.size w w') => isRecord_any a2 c2 l2 hl2 hs2 w' ((hr2.below h).more h.size))
  have HL := Lib.hid (fun w' (h : Below w.heap.size w w') => copyRecord_any a1 c1 l1 hl1 w' ((hr1.below h).more h.size))
  have G0 := Lib.hid (fun (s : ByteArray) w' (h : Below w.heap.size w w') => stateOf_any a0 c0 l0 s hl0 w' ((hr0.below h).more h.size))
  have G1 := Lib.hid (fun (s : ByteArray) w' (h : Below w.heap.size w w') => stateOf_any a1 c1 l1 s hl1 w' ((hr1.below h).more h.size))
  have G2 := Lib.hid (fun (s : ByteArray) w' (h : Below w.heap.size w w') => stateOf_any a2 c2 l2 s hl2 w' ((hr2.below h).more h.size))
  have GM := Lib.hid (fun (s : List UInt8) w' => show Calls Try.prog 52 #[.agg #[.bool (getB l0 s), .int .i64 (getN l0 s)], .agg #[.bool (getB l1 s), .int .i64 (getN l1 s)], .agg #[.bool (getB l2 s), .int .i64 (getN l2 s)]] w' fun e w'' => e = .returned (.agg #[.bool (mB l0 l1 l2 s), .int .i64 (mN l0 l1 l2 s)]) ∧ Below w'.heap.size w' w'' from mergeStates_any _ _ _ _ _ _ w')
  have HO := Lib.hid (fun (h0 : isR l0 = true) (h1 : isR l1 = true) (h2 : isR l2 = true) (b N : Nat) (hN : N ≤ 12) w' (hM : MapIs w' b N (getO (mgO l0 l1 l2))) (h : Below w.heap.size w w') => recordOr_any b N (mgO l0 l1 l2) a1 c1 l1 (asc_mgO (isR_asc h1) (isR_asc h2)) (by omega) (small_mgO hs1 hs2) hl1 w' hM ((hr1.below h).more h.size))
  have HC := Lib.hid (fun (g : Nat) (h1 : isR l1 = true) (h2 : isR l2 = true) w' (hg : Reads w' w'.heap.size (some ⟨g, 0, none⟩) [.slice a1 l1.length c1, .slice a2 l2.length c2]) (h : Below w.heap.size w w') => concat_any g a1 a2 c1 c2 l1 l2 (isR_len h1) (isR_len h2) w' hg ((hr1.below h).more h.size) ((hr2.below h).more h.size))
  have HSM := Lib.hid (And.intro hs1 hs2)
  clear hr0 hr1 hr2 hs0 hs1 hs2
  obtain ⟨n0, hn0⟩ : ∃ n, n = l0.length := ⟨_, rfl⟩
  obtain ⟨n1, hn1⟩ : ∃ n, n = l1.length := ⟨_, rfl⟩
  obtain ⟨n2, hn2⟩ : ∃ n, n = l2.length := ⟨_, rfl⟩
  rw [← hn0, ← hn1, ← hn2]
  rw [← hn0] at H0 G0
  rw [← hn1] at H1 HL G1 HO
  rw [← hn2] at H2 G2
  rw [← hn1, ← hn2] at HC
  have HN1 := Lib.hid hn1
  have HN2 := Lib.hid hn2
  clear hn0 hn1 hn2 hl0 hl1 hl2
  obtain ⟨b0, hb0⟩ : ∃ b, isR l0 = b := ⟨_, rfl⟩
  obtain ⟨b1, hb1⟩ : ∃ b, isR l1 = b := ⟨_, rfl⟩
  obtain ⟨b2, hb2⟩ : ∃ b, isR l2 = b := ⟨_, rfl⟩
  rw [hb0] at H0
  rw [hb1] at H1
  rw [hb2] at H2
  have HB := Lib.hid (And.intro hb0 (And.intro hb1 hb2))
  clear hb0 hb1 hb2
  have S0 := Sep.start w
  have S1 := push_box S0 26 #[.slice a0 n0 c0] w.heap.size rfl
  have S2 := push_box S1 26 #[.slice a1 n1 c1] (w.heap.size + 1) (by simp)
  have S3 := push_box S2 26 #[.slice a2 n2 c2] (w.heap.size + 1 + 1) (by simp)
  have S4 := Lib.hid (push_box S3 26 #[.slice none 0 0] (w.heap.size + 1 + 1 + 1) (by simp))
  clear S0 S1 S2 S3
  obtain ⟨W1, hW1⟩ : ∃ u, u = (((w.alloc (.cells #[.slice a0 n0 c0] 26)).alloc (.cells #[.slice a1 n1 c1] 26)).alloc (.cells #[.slice a2 n2 c2] 26)).alloc (.cells #[.slice none 0 0] 26) := ⟨_, rfl⟩
  rw [← hW1] at S4
  go_enter Try.func21, Try.ntmps21
  go_upto_region 1 with fail
  rw [← hW1]
  clear hW1
  obtain ⟨r0, r0'⟩ := Row.one (box_at S4.out 0 rfl)
  obtain ⟨r1, r1'⟩ := Row.one (box_at S4.out 1 rfl)
  obtain ⟨r2, r2'⟩ := Row.one (box_at S4.out 2 rfl)
  go_wp2_with fail
  go_at_call 18
  refine (H0.out _ S4.out.old).mono ?_
  rintro e w3 ⟨rfl, hb⟩
  have S5 := Lib.hid (S4.out.keep hb)
  clear hb S4
  clear r0 r0' r1 r1' r2 r2'
  obtain ⟨r0, r0'⟩ := Row.one (box_at S5.out 0 rfl)
  obtain ⟨r1, r1'⟩ := Row.one (box_at S5.out 1 rfl)
  obtain ⟨r2, r2'⟩ := Row.one (box_at S5.out 2 rfl)
  cases b0 with
  | false =>
    have HE := Lib.hid (show mgL l0 l1 l2 = l1 ∧ mgB l0 l1 l2 = false by unfold mgL mgB; rw [HB.out.1]; exact ⟨rfl, rfl⟩)
    go_wp2_with fail
    go_at_call 33
    refine (HL.out _ S5.out.old).mono ?_
    rintro e w8 ⟨a8, c8, rfl, ho8, hb8⟩
    have S8 := push_own S5.out hb8 ho8
    clear hb8 ho8
    clear r0 r0' r1 r1' r2 r2'
    obtain ⟨z0, z1⟩ := Row.one (box_at S8 3 rfl)
    have S9 := Lib.hid (put_box5 S8 3 rfl 0 (.slice a8 n1 c8))
    go_wp2_with fail
    refine bodyPost_ret (v := .tuple #[.agg #[.slice a8 n1 c8], .bool false]) (by simp [results, Try.results21, go_sem, z0]) rfl ?_
    unfold GaveRB
    rw [HE.out.1, HE.out.2, ← HN1.out]
    exact ⟨a8, c8, rfl, own_from S9.out 4 rfl, S9.out.old⟩
  | true =>
    go_wp2_with fail
    go_at_call 18
    refine (H1.out _ S5.out.old).mono ?_
    rintro e w4 ⟨rfl, hb⟩
    have S6 := Lib.hid (S5.out.keep hb)
    clear hb S5
    clear r0 r0' r1 r1' r2 r2'
    obtain ⟨r0, r0'⟩ := Row.one (box_at S6.out 0 rfl)
    obtain ⟨r1, r1'⟩ := Row.one (box_at S6.out 1 rfl)
    obtain ⟨r2, r2'⟩ := Row.one (box_at S6.out 2 rfl)
    cases b1 with
    | false =>
      have HE := Lib.hid (show mgL l0 l1 l2 = l1 ∧ mgB l0 l1 l2 = false by unfold mgL mgB; rw [HB.out.1, HB.out.2.1]; exact ⟨rfl, rfl⟩)
      go_wp2_with fail
      go_at_call 33
      refine (HL.out _ S6.out.old).mono ?_
      rintro e w8 ⟨a8, c8, rfl, ho8, hb8⟩
      have S8 := push_own S6.out hb8 ho8
      clear hb8 ho8
      clear r0 r0' r1 r1' r2 r2'
      obtain ⟨z0, z1⟩ := Row.one (box_at S8 3 rfl)
      have S9 := Lib.hid (put_box5 S8 3 rfl 0 (.slice a8 n1 c8))
      go_wp2_with fail
      refine bodyPost_ret (v := .tuple #[.agg #[.slice a8 n1 c8], .bool false]) (by simp [results, Try.results21, go_sem, z0]) rfl ?_
      unfold GaveRB
      rw [HE.out.1, HE.out.2, ← HN1.out]
      exact ⟨a8, c8, rfl, own_from S9.out 4 rfl, S9.out.old⟩
    | true =>
      go_wp2_with fail
      go_at_call 18
      refine (H2.out _ S6.out.old).mono ?_
      rintro e w5 ⟨rfl, hb⟩
      have S7 := Lib.hid (S6.out.keep hb)
      clear hb S6
      clear r0 r0' r1 r1' r2 r2'
      obtain ⟨r0, r0'⟩ := Row.one (box_at S7.out 0 rfl)
      obtain ⟨r1, r1'⟩ := Row.one (box_at S7.out 1 rfl)
      obtain ⟨r2, r2'⟩ := Row.one (box_at S7.out 2 rfl)
      cases b2 with
      | false =>
        have HE := Lib.hid (show mgL l0 l1 l2 = l1 ∧ mgB l0 l1 l2 = false by unfold mgL mgB; rw [HB.out.1, HB.out.2.1, HB.out.2.2]; exact ⟨rfl, rfl⟩)
        go_wp2_with fail
        go_at_call 33
        refine (HL.out _ S7.out.old).mono ?_
        rintro e w8 ⟨a8, c8, rfl, ho8, hb8⟩
        have S8 := push_own S7.out hb8 ho8
        clear hb8 ho8
        clear r0 r0' r1 r1' r2 r2'
        obtain ⟨z0, z1⟩ := Row.one (box_at S8 3 rfl)
        have S9 := Lib.hid (put_box5 S8 3 rfl 0 (.slice a8 n1 c8))
        go_wp2_with fail
        refine bodyPost_ret (v := .tuple #[.agg #[.slice a8 n1 c8], .bool false]) (by simp [results, Try.results21, go_sem, z0]) rfl ?_
        unfold GaveRB
        rw [HE.out.1, HE.out.2, ← HN1.out]
        exact ⟨a8, c8, rfl, own_from S9.out 4 rfl, S9.out.old⟩
      | true =>
        have hm1 : (n1 : Int) ≤ 6 := by have h1 := isR_len HB.out.2.1; have h2 := HN1.out; omega
        have hm2 : (n2 : Int) ≤ 6 := by have h1 := isR_len HB.out.2.2; have h2 := HN2.out; omega
        have S8 := new_map S7.out w5.heap.size rfl
        have S9 := Lib.hid (S8.alloc (.cells #[.slice a1 n1 c1, .slice a2 n2 c2] 24))
        have PR := Lib.hid ((pair_reads (w5.alloc (.map #[] 0)) (.slice a1 n1 c1) (.slice a2 n2 c2) (w5.heap.size + 1) (by simp) 24).more (show (w5.alloc (.map #[] 0)).heap.size + 1 ≤ ((w5.alloc (.map #[] 0)).alloc (.cells #[.slice a1 n1 c1, .slice a2 n2 c2] 24)).heap.size by simp))
        have HC' := Lib.hid (HC.out (w5.heap.size + 1) HB.out.2.1 HB.out.2.2 _ PR.out S9.out.old)
        obtain ⟨s, hs⟩ : ∃ s, s = n1 + n2 := ⟨_, rfl⟩
        rw [← hs] at HC'
        have HSs := Lib.hid (show s = (l1 ++ l2).length by rw [hs, List.length_append, HN1.out, HN2.out])
        have hs' : (s : Int) ≤ 12 := by omega
        clear hs HC PR
        have hmm := fun W => run_makeMap_none 60 9 3 Try.underlying60 W
        go_upto_region 4 with fail
        clear r0 r0' r1 r1' r2 r2'
        obtain ⟨r1, r1'⟩ := Row.one (box_at S8 1 rfl)
        obtain ⟨r2, r2'⟩ := Row.one (box_at S8 2 rfl)
        go_wp2_with fail
        go_at_call 51
        clear hmm
        refine HC'.out.mono ?_
        rintro e w6 ⟨A, C, rfl, ho, hb⟩
        have S10 := Lib.hid (push_own S9.out hb ho)
        clear ho hb S7 S8 S9 HC' r1 r1' r2 r2'
        go_wp2_with fail
        go_loopw [35] (fun iv wr => ∃ j : Nat, j ≤ s ∧ iv = .int .i64 j ∧ Hid (∃ N, N ≤ j ∧ Sep w wr [boxR w.heap.size 26 #[.slice a0 n0 c0], boxR (w.heap.size + 1) 26 #[.slice a1 n1 c1], boxR (w.heap.size + 1 + 1) 26 #[.slice a2 n2 c2], boxR (w.heap.size + 1 + 1 + 1) 26 #[.slice none 0 0], mapR w5.heap.size N (mOs l0 l1 l2 ((l1 ++ l2).take j)), ownV 64 2 A C s (cellsF (l1 ++ l2))])) (fun iv _ => s - (intOf iv).toNat)
        case atStart => exact ⟨0, Nat.zero_le _, rfl, 0, Nat.le_refl _, by rw [List.take_zero, mOs_nil]; exact S10.out⟩
        case round =>
          obtain ⟨j, hj, rfl, hrel⟩ := hrel
          obtain ⟨N, hN, S⟩ := hrel.out
          have S11 := Lib.hid S
          clear S hrel S10
          by_cases hlt : (j : Int) < (s : Int)
          · have hjl : j < (l1 ++ l2).length := by have := HSs.out; omega
            obtain ⟨ad, had0, had, h1, h2⟩ := readsF (own_at S11.out 5 rfl).reads j hjl
            subst had0
            have HU := Lib.hid (mOs_step l0 l1 l2 (l1 ++ l2) j hjl)
            obtain ⟨t, ht⟩ : ∃ t, t = (l1 ++ l2)[j].name := ⟨_, rfl⟩
            obtain ⟨x, hx⟩ : ∃ m, m = (l1 ++ l2)[j].n := ⟨_, rfl⟩
            have HT := Lib.hid (show (l1 ++ l2)[j].t = t.data.toList by rw [ht]; rfl)
            have hsm := Lib.hid (show t.size ≤ 281474976710656 by rw [ht]; rcases List.mem_append.1 (List.getElem_mem hjl) with h | h; exact HSM.out.1 _ h; exact HSM.out.2 _ h)
            rw [HT.out] at HU
            rw [← ht] at h1
            rw [← hx] at h2
            clear ht hx
            have HMN := Lib.hid (mN_range HB.out.1 HB.out.2.1 HB.out.2.2 t.data.toList)
            have GM' := Lib.hid (GM.out t.data.toList)
            have G0' := Lib.hid (G0.out t)
            have G1' := Lib.hid (G1.out t)
            have G2' := Lib.hid (G2.out t)
            clear GM G0 G1 G2
            obtain ⟨x0, hx0⟩ : ∃ v, getN l0 t.data.toList = v := ⟨_, rfl⟩
            obtain ⟨x1, hx1⟩ : ∃ v, getN l1 t.data.toList = v := ⟨_, rfl⟩
            obtain ⟨x2, hx2⟩ : ∃ v, getN l2 t.data.toList = v := ⟨_, rfl⟩
            obtain ⟨y0, hy0⟩ : ∃ v, getB l0 t.data.toList = v := ⟨_, rfl⟩
            obtain ⟨y1, hy1⟩ : ∃ v, getB l1 t.data.toList = v := ⟨_, rfl⟩
            obtain ⟨y2, hy2⟩ : ∃ v, getB l2 t.data.toList = v := ⟨_, rfl⟩
            obtain ⟨v, hv⟩ : ∃ v, mN l0 l1 l2 t.data.toList = v := ⟨_, rfl⟩
            obtain ⟨bo, hbo⟩ : ∃ v, mB l0 l1 l2 t.data.toList = v := ⟨_, rfl⟩
            rw [hx0, hx1, hx2, hy0, hy1, hy2, hv, hbo] at GM'
            rw [hx0, hy0] at G0'
            rw [hx1, hy1] at G1'
            rw [hx2, hy2] at G2'
            rw [hv, hbo] at HU
            rw [hv] at HMN
            clear hx0 hx1 hx2 hy0 hy1 hy2 hv hbo
            have S12 := Lib.hid (push_box S11.out 64 #[.string t, .int .i64 x] wr.heap.size rfl)
            obtain ⟨W2, hW2⟩ : ∃ u, u = wr.alloc (.cells #[.string t, .int .i64 x] 64) := ⟨_, rfl⟩
            rw [← hW2] at S12
            obtain ⟨g, hg⟩ : ∃ g, g = wr.heap.size := ⟨_, rfl⟩
            rw [← hg] at S12
            go_upto_region 7 with fail
            rw [← hW2, ← hg]
            clear hW2 hg h1 h2 had
            go_cut [11] (fun pz wx => ∃ g2, pz = .pointer (some ⟨g2, 0, none⟩) ∧ Hid (Sep w wx [boxR w.heap.size 26 #[.slice a0 n0 c0], boxR (w.heap.size + 1) 26 #[.slice a1 n1 c1], boxR (w.heap.size + 1 + 1) 26 #[.slice a2 n2 c2], boxR (w.heap.size + 1 + 1 + 1) 26 #[.slice none 0 0], mapR w5.heap.size N (mOs l0 l1 l2 ((l1 ++ l2).take j)), ownV 64 2 (some ad) C s (cellsF (l1 ++ l2)), boxR g 64 #[.string t, .int .i64 x], boxR g2 80 #[.bool bo, .int .i64 v]]))
            case first =>
              refine wp_region_held_drew (S := (fun w' => w'.cell? ⟨w.heap.size, 0, none⟩ = some (.slice a0 n0 c0) ∧ w'.cell? ⟨w.heap.size + 1, 0, none⟩ = some (.slice a1 n1 c1) ∧ w'.cell? ⟨w.heap.size + 1 + 1, 0, none⟩ = some (.slice a2 n2 c2) ∧ w'.cell? ⟨g, 0, none⟩ = some (.string t) ∧ w'.cell? ⟨g, 1, none⟩ = some (.int .i64 x))) (by kernel_rfl) ⟨(Row.one (box_at S12.out 0 rfl)).1, (Row.one (box_at S12.out 1 rfl)).1, (Row.one (box_at S12.out 2 rfl)).1, (Row.two (box_at S12.out 6 rfl)).1, (Row.two (box_at S12.out 6 rfl)).2⟩ (fun hS => ?_)
              have SD0 := Lib.hid (S12.out.drews 1)
              rw [show W2.drewN 1 = W2.drew from rfl] at SD0
              clear S12 S11
              generalize W2.drew = wd at hS SD0 ⊢
              refine Reg.take_op (i := 0) (v := ?_) rfl (by kernel_rfl) (by kernel_rfl) (by kernel_rfl) (fun _ _ _ h => h) (by rfl) ?_ (by assumption) ?_
              rotate_left
              · (intro w hSw; (try dsimp only at hSw); go_simp; try with_reducible rfl)
              try simp only [Act.put, List.setIfInBounds_toArray, List.set_cons_zero, List.set_cons_succ]
              refine Reg.take_op (i := 1) (v := ?_) rfl (by kernel_rfl) (by kernel_rfl) (by kernel_rfl) (fun _ _ _ h => h) (by rfl) ?_ (by assumption) ?_
              rotate_left
              · (intro w hSw; (try dsimp only at hSw); go_simp; try with_reducible rfl)
              try simp only [Act.put, List.setIfInBounds_toArray, List.set_cons_zero, List.set_cons_succ]
              refine Reg.take_op (i := 2) (v := ?_) rfl (by kernel_rfl) (by kernel_rfl) (by kernel_rfl) (fun _ _ _ h => h) (by rfl) ?_ (by assumption) ?_
              rotate_left
              · (intro w hSw; (try dsimp only at hSw); go_simp; try with_reducible rfl)
              try simp only [Act.put, List.setIfInBounds_toArray, List.set_cons_zero, List.set_cons_succ]
              refine Reg.take_op (i := 4) (v := ?_) rfl (by kernel_rfl) (by kernel_rfl) (by kernel_rfl) (fun _ _ _ h => h) (by rfl) ?_ (by assumption) ?_
              rotate_left
              · (intro w hSw; (try dsimp only at hSw); go_simp; try with_reducible rfl)
              try simp only [Act.put, List.setIfInBounds_toArray, List.set_cons_zero, List.set_cons_succ]
              refine Reg.take_op (i := 5) (v := ?_) rfl (by kernel_rfl) (by kernel_rfl) (by kernel_rfl) (fun _ _ _ h => h) (by rfl) ?_ (by assumption) ?_
              rotate_left
              · (intro w hSw; (try dsimp only at hSw); go_simp; try with_reducible rfl)
              try simp only [Act.put, List.setIfInBounds_toArray, List.set_cons_zero, List.set_cons_succ]
              refine Reg.take_op (i := 6) (v := ?_) rfl (by kernel_rfl) (by kernel_rfl) (by kernel_rfl) (fun _ _ _ h => h) (by rfl) ?_ (by assumption) ?_
              rotate_left
              · (intro w hSw; (try dsimp only at hSw); go_simp; try with_reducible rfl)
              try simp only [Act.put, List.setIfInBounds_toArray, List.set_cons_zero, List.set_cons_succ]
              refine Reg.take_op (i := 8) (v := ?_) rfl (by kernel_rfl) (by kernel_rfl) (by kernel_rfl) (fun _ _ _ h => h) (by rfl) ?_ (by assumption) ?_
              rotate_left
              · (intro w hSw; (try dsimp only at hSw); go_simp; try with_reducible rfl)
              try simp only [Act.put, List.setIfInBounds_toArray, List.set_cons_zero, List.set_cons_succ]
              refine Reg.take_op (i := 9) (v := ?_) rfl (by kernel_rfl) (by kernel_rfl) (by kernel_rfl) (fun _ _ _ h => h) (by rfl) ?_ (by assumption) ?_
              rotate_left
              · (intro w hSw; (try dsimp only at hSw); go_simp; try with_reducible rfl)
              try simp only [Act.put, List.setIfInBounds_toArray, List.set_cons_zero, List.set_cons_succ]
              refine Reg.take_op (i := 10) (v := ?_) rfl (by kernel_rfl) (by kernel_rfl) (by kernel_rfl) (fun _ _ _ h => h) (by rfl) ?_ (by assumption) ?_
              rotate_left
              · (intro w hSw; (try dsimp only at hSw); go_simp; try with_reducible rfl)
              try simp only [Act.put, List.setIfInBounds_toArray, List.set_cons_zero, List.set_cons_succ]
              refine wpAnyH_ready (rs := [3, 13]) (by kernel_rfl) (by simp) ?_
              refine Reg.cons_op (i := 3) rfl (fun K hK => ?_) ?_
              · go_simp
                go_at_call 53
                refine (G0'.out _ SD0.out.old).mono ?_
                rintro e wq1 ⟨rfl, hb⟩
                have SD1 := Lib.hid (SD0.out.keep hb)
                clear hb
                go_wp2_with fail
                refine hK.out _ _ ⟨(Row.one (box_at SD1.out 0 rfl)).1, (Row.one (box_at SD1.out 1 rfl)).1, (Row.one (box_at SD1.out 2 rfl)).1, (Row.two (box_at SD1.out 6 rfl)).1, (Row.two (box_at SD1.out 6 rfl)).2⟩ (fun hS => ?_)
                clear hK K
                try simp only [Act.put, List.setIfInBounds_toArray, List.set_cons_zero, List.set_cons_succ]
                refine wpAnyH_ready (rs := [7, 13]) (by kernel_rfl) (by simp) ?_
                refine Reg.cons_op (i := 7) rfl (fun K hK => ?_) ?_
                · go_simp
                  go_at_call 53
                  refine (G1'.out _ SD1.out.old).mono ?_
                  rintro e wq2 ⟨rfl, hb⟩
                  have SD2 := Lib.hid (SD1.out.keep hb)
                  clear hb
                  go_wp2_with fail
                  refine hK.out _ _ ⟨(Row.one (box_at SD2.out 0 rfl)).1, (Row.one (box_at SD2.out 1 rfl)).1, (Row.one (box_at SD2.out 2 rfl)).1, (Row.two (box_at SD2.out 6 rfl)).1, (Row.two (box_at SD2.out 6 rfl)).2⟩ (fun hS => ?_)
                  clear hK K
                  try simp only [Act.put, List.setIfInBounds_toArray, List.set_cons_zero, List.set_cons_succ]
                  refine wpAnyH_ready (rs := [11, 13]) (by kernel_rfl) (by simp) ?_
                  refine Reg.cons_op (i := 11) rfl (fun K hK => ?_) ?_
                  · go_simp
                    go_at_call 53
                    refine (G2'.out _ SD2.out.old).mono ?_
                    rintro e wq3 ⟨rfl, hb⟩
                    have SD3 := Lib.hid (SD2.out.keep hb)
                    clear hb
                    go_wp2_with fail
                    refine hK.out _ _ ⟨(Row.one (box_at SD3.out 0 rfl)).1, (Row.one (box_at SD3.out 1 rfl)).1, (Row.one (box_at SD3.out 2 rfl)).1, (Row.two (box_at SD3.out 6 rfl)).1, (Row.two (box_at SD3.out 6 rfl)).2⟩ (fun hS => ?_)
                    clear hK K
                    try simp only [Act.put, List.setIfInBounds_toArray, List.set_cons_zero, List.set_cons_succ]
                    refine wpAnyH_ready (rs := [12, 13]) (by kernel_rfl) (by simp) ?_
                    refine Reg.cons_op (i := 12) rfl (fun K hK => ?_) ?_
                    · go_simp
                      go_at_call 52
                      refine (GM'.out _).mono ?_
                      rintro e wq4 ⟨rfl, hb⟩
                      have SD4 := Lib.hid (SD3.out.keep hb)
                      clear hb
                      go_wp2_with fail
                      refine hK.out _ _ ⟨(Row.one (box_at SD4.out 0 rfl)).1, (Row.one (box_at SD4.out 1 rfl)).1, (Row.one (box_at SD4.out 2 rfl)).1, (Row.two (box_at SD4.out 6 rfl)).1, (Row.two (box_at SD4.out 6 rfl)).2⟩ (fun hS => ?_)
                      clear hK K
                      try simp only [Act.put, List.setIfInBounds_toArray, List.set_cons_zero, List.set_cons_succ]
                      refine Reg.one_op (i := 13) rfl (by kernel_rfl) (fun K hK => ?_)
                      go_simp
                      have SD5 := Lib.hid (push_box SD4.out 80 #[.bool false, .int .i64 0] wq4.heap.size rfl)
                      obtain ⟨g2, hg2⟩ : ∃ g2, g2 = wq4.heap.size := ⟨_, rfl⟩
                      rw [← hg2] at SD5 ⊢
                      clear hg2
                      generalize wq4.alloc (.cells #[.bool false, .int .i64 0] 80) = wq5 at SD5 ⊢
                      refine hK.out _ _ ⟨(Row.one (box_at SD5.out 0 rfl)).1, (Row.one (box_at SD5.out 1 rfl)).1, (Row.one (box_at SD5.out 2 rfl)).1, (Row.two (box_at SD5.out 6 rfl)).1, (Row.two (box_at SD5.out 6 rfl)).2⟩ (fun hS => ?_)
                      clear hK K
                      try simp only [Act.put, List.setIfInBounds_toArray, List.set_cons_zero, List.set_cons_succ]
                      refine Reg.one_op (i := 14) rfl (by kernel_rfl) (fun K hK => ?_)
                      go_simp
                      obtain ⟨z0, z1⟩ := Row.two (box_at SD5.out 7 rfl)
                      have z2 := (box_at SD5.out 7 rfl).free 0
                      have z3 := (box_at SD5.out 7 rfl).free 1
                      have SD6 := Lib.hid (put_two (x' := .bool bo) (y' := .int .i64 v) SD5.out 7 rfl)
                      go_simp
                      refine hK.out _ _ ⟨(Row.one (box_at SD6.out 0 rfl)).1, (Row.one (box_at SD6.out 1 rfl)).1, (Row.one (box_at SD6.out 2 rfl)).1, (Row.two (box_at SD6.out 6 rfl)).1, (Row.two (box_at SD6.out 6 rfl)).2⟩ (fun hS => ?_)
                      clear hK K
                      try simp only [Act.put, List.setIfInBounds_toArray, List.set_cons_zero, List.set_cons_succ]
                      refine wpAnyH_done (by kernel_rfl) ?_ _
                      go_wp2_with fail
                      go_meet
                      case rel => exact ⟨_, rfl, SD6⟩
                    refine Reg.cons_op (i := 13) rfl (fun K hK => ?_) ?_
                    · go_simp
                      have SD4 := Lib.hid (push_box SD3.out 80 #[.bool false, .int .i64 0] wq3.heap.size rfl)
                      obtain ⟨g2, hg2⟩ : ∃ g2, g2 = wq3.heap.size := ⟨_, rfl⟩
                      rw [← hg2] at SD4 ⊢
                      clear hg2
                      generalize wq3.alloc (.cells #[.bool false, .int .i64 0] 80) = wq4 at SD4 ⊢
                      refine hK.out _ _ ⟨(Row.one (box_at SD4.out 0 rfl)).1, (Row.one (box_at SD4.out 1 rfl)).1, (Row.one (box_at SD4.out 2 rfl)).1, (Row.two (box_at SD4.out 6 rfl)).1, (Row.two (box_at SD4.out 6 rfl)).2⟩ (fun hS => ?_)
                      clear hK K
                      try simp only [Act.put, List.setIfInBounds_toArray, List.set_cons_zero, List.set_cons_succ]
                      refine Reg.one_op (i := 12) rfl (by kernel_rfl) (fun K hK => ?_)
                      go_simp
                      go_at_call 52
                      refine (GM'.out _).mono ?_
                      rintro e wq5 ⟨rfl, hb⟩
                      have SD5 := Lib.hid (SD4.out.keep hb)
                      clear hb
                      go_wp2_with fail
                      refine hK.out _ _ ⟨(Row.one (box_at SD5.out 0 rfl)).1, (Row.one (box_at SD5.out 1 rfl)).1, (Row.one (box_at SD5.out 2 rfl)).1, (Row.two (box_at SD5.out 6 rfl)).1, (Row.two (box_at SD5.out 6 rfl)).2⟩ (fun hS => ?_)
                      clear hK K
                      try simp only [Act.put, List.setIfInBounds_toArray, List.set_cons_zero, List.set_cons_succ]
                      refine Reg.one_op (i := 14) rfl (by kernel_rfl) (fun K hK => ?_)
                      go_simp
                      obtain ⟨z0, z1⟩ := Row.two (box_at SD5.out 7 rfl)
                      have z2 := (box_at SD5.out 7 rfl).free 0
                      have z3 := (box_at SD5.out 7 rfl).free 1
                      have SD6 := Lib.hid (put_two (x' := .bool bo) (y' := .int .i64 v) SD5.out 7 rfl)
                      go_simp
                      refine hK.out _ _ ⟨(Row.one (box_at SD6.out 0 rfl)).1, (Row.one (box_at SD6.out 1 rfl)).1, (Row.one (box_at SD6.out 2 rfl)).1, (Row.two (box_at SD6.out 6 rfl)).1, (Row.two (box_at SD6.out 6 rfl)).2⟩ (fun hS => ?_)
                      clear hK K
                      try simp only [Act.put, List.setIfInBounds_toArray, List.set_cons_zero, List.set_cons_succ]
                      refine wpAnyH_done (by kernel_rfl) ?_ _
                      go_wp2_with fail
                      go_meet
                      case rel => exact ⟨_, rfl, SD6⟩
                    exact AllReadyH.nil
                  refine Reg.cons_op (i := 13) rfl (fun K hK => ?_) ?_
                  · go_simp
                    have SD3 := Lib.hid (push_box SD2.out 80 #[.bool false, .int .i64 0] wq2.heap.size rfl)
                    obtain ⟨g2, hg2⟩ : ∃ g2, g2 = wq2.heap.size := ⟨_, rfl⟩
                    rw [← hg2] at SD3 ⊢
                    clear hg2
                    generalize wq2.alloc (.cells #[.bool false, .int .i64 0] 80) = wq3 at SD3 ⊢
                    refine hK.out _ _ ⟨(Row.one (box_at SD3.out 0 rfl)).1, (Row.one (box_at SD3.out 1 rfl)).1, (Row.one (box_at SD3.out 2 rfl)).1, (Row.two (box_at SD3.out 6 rfl)).1, (Row.two (box_at SD3.out 6 rfl)).2⟩ (fun hS => ?_)
                    clear hK K
                    try simp only [Act.put, List.setIfInBounds_toArray, List.set_cons_zero, List.set_cons_succ]
                    refine Reg.one_op (i := 11) rfl (by kernel_rfl) (fun K hK => ?_)
                    go_simp
                    go_at_call 53
                    refine (G2'.out _ SD3.out.old).mono ?_
                    rintro e wq4 ⟨rfl, hb⟩
                    have SD4 := Lib.hid (SD3.out.keep hb)
                    clear hb
                    go_wp2_with fail
                    refine hK.out _ _ ⟨(Row.one (box_at SD4.out 0 rfl)).1, (Row.one (box_at SD4.out 1 rfl)).1, (Row.one (box_at SD4.out 2 rfl)).1, (Row.two (box_at SD4.out 6 rfl)).1, (Row.two (box_at SD4.out 6 rfl)).2⟩ (fun hS => ?_)
                    clear hK K
                    try simp only [Act.put, List.setIfInBounds_toArray, List.set_cons_zero, List.set_cons_succ]
                    refine Reg.one_op (i := 12) rfl (by kernel_rfl) (fun K hK => ?_)
                    go_simp
                    go_at_call 52
                    refine (GM'.out _).mono ?_
                    rintro e wq5 ⟨rfl, hb⟩
                    have SD5 := Lib.hid (SD4.out.keep hb)
                    clear hb
                    go_wp2_with fail
                    refine hK.out _ _ ⟨(Row.one (box_at SD5.out 0 rfl)).1, (Row.one (box_at SD5.out 1 rfl)).1, (Row.one (box_at SD5.out 2 rfl)).1, (Row.two (box_at SD5.out 6 rfl)).1, (Row.two (box_at SD5.out 6 rfl)).2⟩ (fun hS => ?_)
                    clear hK K
                    try simp only [Act.put, List.setIfInBounds_toArray, List.set_cons_zero, List.set_cons_succ]
                    refine Reg.one_op (i := 14) rfl (by kernel_rfl) (fun K hK => ?_)
                    go_simp
                    obtain ⟨z0, z1⟩ := Row.two (box_at SD5.out 7 rfl)
                    have z2 := (box_at SD5.out 7 rfl).free 0
                    have z3 := (box_at SD5.out 7 rfl).free 1
                    have SD6 := Lib.hid (put_two (x' := .bool bo) (y' := .int .i64 v) SD5.out 7 rfl)
                    go_simp
                    refine hK.out _ _ ⟨(Row.one (box_at SD6.out 0 rfl)).1, (Row.one (box_at SD6.out 1 rfl)).1, (Row.one (box_at SD6.out 2 rfl)).1, (Row.two (box_at SD6.out 6 rfl)).1, (Row.two (box_at SD6.out 6 rfl)).2⟩ (fun hS => ?_)
                    clear hK K
                    try simp only [Act.put, List.setIfInBounds_toArray, List.set_cons_zero, List.set_cons_succ]
                    refine wpAnyH_done (by kernel_rfl) ?_ _
                    go_wp2_with fail
                    go_meet
                    case rel => exact ⟨_, rfl, SD6⟩
                  exact AllReadyH.nil
                refine Reg.cons_op (i := 13) rfl (fun K hK => ?_) ?_
                · go_simp
                  have SD2 := Lib.hid (push_box SD1.out 80 #[.bool false, .int .i64 0] wq1.heap.size rfl)
                  obtain ⟨g2, hg2⟩ : ∃ g2, g2 = wq1.heap.size := ⟨_, rfl⟩
                  rw [← hg2] at SD2 ⊢
                  clear hg2
                  generalize wq1.alloc (.cells #[.bool false, .int .i64 0] 80) = wq2 at SD2 ⊢
                  refine hK.out _ _ ⟨(Row.one (box_at SD2.out 0 rfl)).1, (Row.one (box_at SD2.out 1 rfl)).1, (Row.one (box_at SD2.out 2 rfl)).1, (Row.two (box_at SD2.out 6 rfl)).1, (Row.two (box_at SD2.out 6 rfl)).2⟩ (fun hS => ?_)
                  clear hK K
                  try simp only [Act.put, List.setIfInBounds_toArray, List.set_cons_zero, List.set_cons_succ]
                  refine Reg.one_op (i := 7) rfl (by kernel_rfl) (fun K hK => ?_)
                  go_simp
                  go_at_call 53
                  refine (G1'.out _ SD2.out.old).mono ?_
                  rintro e wq3 ⟨rfl, hb⟩
                  have SD3 := Lib.hid (SD2.out.keep hb)
                  clear hb
                  go_wp2_with fail
                  refine hK.out _ _ ⟨(Row.one (box_at SD3.out 0 rfl)).1, (Row.one (box_at SD3.out 1 rfl)).1, (Row.one (box_at SD3.out 2 rfl)).1, (Row.two (box_at SD3.out 6 rfl)).1, (Row.two (box_at SD3.out 6 rfl)).2⟩ (fun hS => ?_)
                  clear hK K
                  try simp only [Act.put, List.setIfInBounds_toArray, List.set_cons_zero, List.set_cons_succ]
                  refine Reg.one_op (i := 11) rfl (by kernel_rfl) (fun K hK => ?_)
                  go_simp
                  go_at_call 53
                  refine (G2'.out _ SD3.out.old).mono ?_
                  rintro e wq4 ⟨rfl, hb⟩
                  have SD4 := Lib.hid (SD3.out.keep hb)
                  clear hb
                  go_wp2_with fail
                  refine hK.out _ _ ⟨(Row.one (box_at SD4.out 0 rfl)).1, (Row.one (box_at SD4.out 1 rfl)).1, (Row.one (box_at SD4.out 2 rfl)).1, (Row.two (box_at SD4.out 6 rfl)).1, (Row.two (box_at SD4.out 6 rfl)).2⟩ (fun hS => ?_)
                  clear hK K
                  try simp only [Act.put, List.setIfInBounds_toArray, List.set_cons_zero, List.set_cons_succ]
                  refine Reg.one_op (i := 12) rfl (by kernel_rfl) (fun K hK => ?_)
                  go_simp
                  go_at_call 52
                  refine (GM'.out _).mono ?_
                  rintro e wq5 ⟨rfl, hb⟩
                  have SD5 := Lib.hid (SD4.out.keep hb)
                  clear hb
                  go_wp2_with fail
                  refine hK.out _ _ ⟨(Row.one (box_at SD5.out 0 rfl)).1, (Row.one (box_at SD5.out 1 rfl)).1, (Row.one (box_at SD5.out 2 rfl)).1, (Row.two (box_at SD5.out 6 rfl)).1, (Row.two (box_at SD5.out 6 rfl)).2⟩ (fun hS => ?_)
                  clear hK K
                  try simp only [Act.put, List.setIfInBounds_toArray, List.set_cons_zero, List.set_cons_succ]
                  refine Reg.one_op (i := 14) rfl (by kernel_rfl) (fun K hK => ?_)
                  go_simp
                  obtain ⟨z0, z1⟩ := Row.two (box_at SD5.out 7 rfl)
                  have z2 := (box_at SD5.out 7 rfl).free 0
                  have z3 := (box_at SD5.out 7 rfl).free 1
                  have SD6 := Lib.hid (put_two (x' := .bool bo) (y' := .int .i64 v) SD5.out 7 rfl)
                  go_simp
                  refine hK.out _ _ ⟨(Row.one (box_at SD6.out 0 rfl)).1, (Row.one (box_at SD6.out 1 rfl)).1, (Row.one (box_at SD6.out 2 rfl)).1, (Row.two (box_at SD6.out 6 rfl)).1, (Row.two (box_at SD6.out 6 rfl)).2⟩ (fun hS => ?_)
                  clear hK K
                  try simp only [Act.put, List.setIfInBounds_toArray, List.set_cons_zero, List.set_cons_succ]
                  refine wpAnyH_done (by kernel_rfl) ?_ _
                  go_wp2_with fail
                  go_meet
                  case rel => exact ⟨_, rfl, SD6⟩
                exact AllReadyH.nil
              refine Reg.cons_op (i := 13) rfl (fun K hK => ?_) ?_
              · go_simp
                have SD1 := Lib.hid (push_box SD0.out 80 #[.bool false, .int .i64 0] wd.heap.size rfl)
                obtain ⟨g2, hg2⟩ : ∃ g2, g2 = wd.heap.size := ⟨_, rfl⟩
                rw [← hg2] at SD1 ⊢
                clear hg2
                generalize wd.alloc (.cells #[.bool false, .int .i64 0] 80) = wq1 at SD1 ⊢
                refine hK.out _ _ ⟨(Row.one (box_at SD1.out 0 rfl)).1, (Row.one (box_at SD1.out 1 rfl)).1, (Row.one (box_at SD1.out 2 rfl)).1, (Row.two (box_at SD1.out 6 rfl)).1, (Row.two (box_at SD1.out 6 rfl)).2⟩ (fun hS => ?_)
                clear hK K
                try simp only [Act.put, List.setIfInBounds_toArray, List.set_cons_zero, List.set_cons_succ]
                refine Reg.one_op (i := 3) rfl (by kernel_rfl) (fun K hK => ?_)
                go_simp
                go_at_call 53
                refine (G0'.out _ SD1.out.old).mono ?_
                rintro e wq2 ⟨rfl, hb⟩
                have SD2 := Lib.hid (SD1.out.keep hb)
                clear hb
                go_wp2_with fail
                refine hK.out _ _ ⟨(Row.one (box_at SD2.out 0 rfl)).1, (Row.one (box_at SD2.out 1 rfl)).1, (Row.one (box_at SD2.out 2 rfl)).1, (Row.two (box_at SD2.out 6 rfl)).1, (Row.two (box_at SD2.out 6 rfl)).2⟩ (fun hS => ?_)
                clear hK K
                try simp only [Act.put, List.setIfInBounds_toArray, List.set_cons_zero, List.set_cons_succ]
                refine Reg.one_op (i := 7) rfl (by kernel_rfl) (fun K hK => ?_)
                go_simp
                go_at_call 53
                refine (G1'.out _ SD2.out.old).mono ?_
                rintro e wq3 ⟨rfl, hb⟩
                have SD3 := Lib.hid (SD2.out.keep hb)
                clear hb
                go_wp2_with fail
                refine hK.out _ _ ⟨(Row.one (box_at SD3.out 0 rfl)).1, (Row.one (box_at SD3.out 1 rfl)).1, (Row.one (box_at SD3.out 2 rfl)).1, (Row.two (box_at SD3.out 6 rfl)).1, (Row.two (box_at SD3.out 6 rfl)).2⟩ (fun hS => ?_)
                clear hK K
                try simp only [Act.put, List.setIfInBounds_toArray, List.set_cons_zero, List.set_cons_succ]
                refine Reg.one_op (i := 11) rfl (by kernel_rfl) (fun K hK => ?_)
                go_simp
                go_at_call 53
                refine (G2'.out _ SD3.out.old).mono ?_
                rintro e wq4 ⟨rfl, hb⟩
                have SD4 := Lib.hid (SD3.out.keep hb)
                clear hb
                go_wp2_with fail
                refine hK.out _ _ ⟨(Row.one (box_at SD4.out 0 rfl)).1, (Row.one (box_at SD4.out 1 rfl)).1, (Row.one (box_at SD4.out 2 rfl)).1, (Row.two (box_at SD4.out 6 rfl)).1, (Row.two (box_at SD4.out 6 rfl)).2⟩ (fun hS => ?_)
                clear hK K
                try simp only [Act.put, List.setIfInBounds_toArray, List.set_cons_zero, List.set_cons_succ]
                refine Reg.one_op (i := 12) rfl (by kernel_rfl) (fun K hK => ?_)
                go_simp
                go_at_call 52
                refine (GM'.out _).mono ?_
                rintro e wq5 ⟨rfl, hb⟩
                have SD5 := Lib.hid (SD4.out.keep hb)
                clear hb
                go_wp2_with fail
                refine hK.out _ _ ⟨(Row.one (box_at SD5.out 0 rfl)).1, (Row.one (box_at SD5.out 1 rfl)).1, (Row.one (box_at SD5.out 2 rfl)).1, (Row.two (box_at SD5.out 6 rfl)).1, (Row.two (box_at SD5.out 6 rfl)).2⟩ (fun hS => ?_)
                clear hK K
                try simp only [Act.put, List.setIfInBounds_toArray, List.set_cons_zero, List.set_cons_succ]
                refine Reg.one_op (i := 14) rfl (by kernel_rfl) (fun K hK => ?_)
                go_simp
                obtain ⟨z0, z1⟩ := Row.two (box_at SD5.out 7 rfl)
                have z2 := (box_at SD5.out 7 rfl).free 0
                have z3 := (box_at SD5.out 7 rfl).free 1
                have SD6 := Lib.hid (put_two (x' := .bool bo) (y' := .int .i64 v) SD5.out 7 rfl)
                go_simp
                refine hK.out _ _ ⟨(Row.one (box_at SD6.out 0 rfl)).1, (Row.one (box_at SD6.out 1 rfl)).1, (Row.one (box_at SD6.out 2 rfl)).1, (Row.two (box_at SD6.out 6 rfl)).1, (Row.two (box_at SD6.out 6 rfl)).2⟩ (fun hS => ?_)
                clear hK K
                try simp only [Act.put, List.setIfInBounds_toArray, List.set_cons_zero, List.set_cons_succ]
                refine wpAnyH_done (by kernel_rfl) ?_ _
                go_wp2_with fail
                go_meet
                case rel => exact ⟨_, rfl, SD6⟩
              exact AllReadyH.nil
            case rest =>
              obtain ⟨g2, rfl, hcut2⟩ := hcut
              have SJ := hcut2
              clear hcut2 S11 S12
              obtain ⟨e0, e1⟩ := Row.two (box_at SJ.out 7 rfl)
              obtain ⟨f0, f1⟩ := Row.two (box_at SJ.out 6 rfl)
              cases bo with
              | false =>
                go_wp2_with fail
                go_roundw
                case rel => exact ⟨j + 1, by omega, by go_num, N, by omega, by rw [HU.out]; exact sep_six SJ.out⟩
                case measure => simp [intOf]; omega
              | true =>
                go_wp2_with (at_mapUpdate; refine wpList_mapUpdate_s SJ.out 4 rfl rfl _ _ _ rfl rfl (by unfold maxLen; omega) t v rfl rfl (by have := hsm.out; unfold maxLen; omega) (wf_mk (by have := HMN.out; omega) (by have := HMN.out; omega)) ?_; intro w14 SK'; have SK := Lib.hid SK'; clear SK')
                go_roundw
                case rel => exact ⟨j + 1, by omega, by go_num, N + 1, by omega, by rw [HU.out]; exact sep_six SK.out⟩
                case measure => simp [intOf]; omega
          · obtain rfl : j = s := by omega
            have HE := Lib.hid (mgs_yes HB.out.1 HB.out.2.1 HB.out.2.2)
            obtain ⟨k, hk⟩ : ∃ q, q = orR (mgO l0 l1 l2) l1 := ⟨_, rfl⟩
            obtain ⟨bq, hbq⟩ : ∃ q, q = isR (mgO l0 l1 l2) := ⟨_, rfl⟩
            have HO' := Lib.hid (HO.out HB.out.1 HB.out.2.1 HB.out.2.2 w5.heap.size N (by omega) _ (by rw [← mOs_all, ← List.take_length (l := l1 ++ l2), ← HSs.out]; exact map_at S11.out 4 rfl) S11.out.old)
            rw [← hk, ← hbq] at HO' HE
            clear hk hbq
            obtain ⟨r1, r1'⟩ := Row.one (box_at S11.out 1 rfl)
            go_wp2_with fail
            go_at_call 35
            refine HO'.out.mono ?_
            rintro e w7 h7
            obtain ⟨a7, c7, rfl, S12'⟩ := gaveRB_push S11.out h7
            have S12 := Lib.hid S12'
            clear S12' h7 r1 r1' HO'
            obtain ⟨z0, z1⟩ := Row.one (box_at S12.out 3 rfl)
            have S13 := Lib.hid (put_box5 S12.out 3 rfl 0 (.slice a7 k.length c7))
            obtain ⟨nq, hnq⟩ : ∃ n, n = k.length := ⟨_, rfl⟩
            rw [← hnq] at S13 ⊢
            have HNq := Lib.hid hnq
            clear hnq
            go_wp2_with fail
            refine bodyPost_ret (v := .tuple #[.agg #[.slice a7 nq c7], .bool bq]) (by simp [results, Try.results21, go_sem, z0]) rfl ?_
            unfold GaveRB
            rw [HE.out.1, HE.out.2, ← HNq.out]
            exact ⟨a7, c7, rfl, (own_from S13.out 6 rfl), S13.out.old⟩
end Go.Proofs.Ytephiilicebdcaa.L5
