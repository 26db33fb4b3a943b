/-
  The law FnRanges answers true for every argument, and leaves its arguments as they were. No condition.
  (The frame is written by my program mk_law.py.)
-/
import Derived.Test.YtenmdecooamaaaaFrame
import Derived.SizedLaws
import Derived.LaidLaws
import Derived.ShutString
import Derived.Stop.LaidErr
import Derived.Lib.LaidTab
import Derived.Test.YtenmdecooamaaaaSd4r
import Derived.Test.YtenmdecooamaaaaSd4b
import Derived.Test.YtenmdecooamaaaaL4Im5
import Derived.Test.YtenmdecooamaaaaL4Im6
import Derived.Test.YtenmdecooamaaaaReg
import Derived.Deep.RegionHeld3
import Derived.Deep.RegionWith
namespace Go.Proofs.Ytenmdecooamaaaa.lawFnRanges
open Go.ChangeShapes Go.WideShapes Go.ChangeAt Go.RowKit
open Go.ChangeMaps (open_string shut_string)
set_option linter.unusedVariables false
theorem own : ownKnob Try.prog.godebug = none := by kernel_rfl
theorem laidOut : laidOutB Try.prog = true := by kernel_rfl
open Mem Sl Ex Sd L2 L4
set_option linter.unusedSimpArgs false
theorem inR_zero (k : K) : inR k ⟨false, false, K.zero, K.zero⟩ = isK k := by unfold inR; cases isK k <;> rfl
theorem inR_one (k : K) : inR k ⟨true, true, k, k⟩ = isK k := by
  unfold inR
  cases h : isK k with
  | false => rfl
  | true =>
    have := (cmpK_zero h h).2 rfl
    simp [this]
theorem reads_take {w : World} {B : Nat} {a : Option Addr} {k : IntKind} {l : List Int} (h : Reads w B a (ints k l)) (n : Nat) : Reads w B a (ints k (l.take n)) := fun j hj => by
  have hj2 : j < l.length := by simp at hj; omega
  obtain ⟨ad, e, hb, hc⟩ := h j (by simpa using hj2)
  refine ⟨ad, e, hb, hc.trans ?_⟩
  congr 1
  simp [ints]
set_option maxRecDepth 100000 in
set_option maxHeartbeats 8000000 in
theorem walk (H : Type) (enc : TypeId × Value → H) (W : World) (base : Nat) (args : Array Value) (ds : List (DataW H)) (p : List MemPlace)
    (hval : ∀ (j : Nat) t v, Try.f3.params[j]? = some t → args[j]? = some v → Value.okWide Try.prog W .any base t v)
    (hA : DataW.TrodAll enc Try.prog W 0 (fun _ => true) true Try.f3.params.toList args.toList ds p)
    (hlt : ∀ x ∈ p, x.block < W.heap.size)
    (hsz : (DataW.weightsEach Try.prog (Try.f3.params.toList ++ Rows.fnRangesSpec.plain.varTypes Try.prog) (ds ++ [])).all (· ≤ reachBytes) = true) :
    Calls Try.prog 3 args W fun e w' => e = .returned (.bool true) ∧ Below W.heap.size W w' := by
  rw [Try.params3] at hA hval hsz
  obtain ⟨v0, d0, rfl, rfl, h0⟩ := trodAll_one hA
  obtain ⟨a0, l0, c0, rfl, hC0, -, hR0, hW0⟩ := Law.open_list Try.underlying22 Try.underlying5 (by kernel_rfl) (hval 0 22 v0 rfl rfl) h0 hlt
  have hby : Mem.Bytes W W.heap.size a0 l0.length := fun j hj => by
    obtain ⟨ad, he, hb, hc⟩ := hR0.int j hj
    have := Law.wf_u8 (hW0 l0[j] (List.getElem_mem hj))
    exact ⟨ad, _, he, hb, hc, this.1, this.2⟩
  obtain ⟨n0, hn0⟩ : ∃ n, n = l0.length := ⟨_, rfl⟩
  rw [← hn0] at hby hC0 ⊢
  clear hn0 hR0 hW0 hA hval hlt hsz h0
  have S0 := Sl.Sep.start W
  by_cases hbig : n0 > 1048576
  · go_enter Try.func3, Try.ntmps3
    go_wp2_with (go_at_call 10; refine (big_s _ S0).mono ?_; rw [decide_eq_true hbig]; rintro e w1 ⟨rfl, S1⟩)
    go_ret
    exact ⟨rfl, S1.old⟩
  · have hsm : n0 ≤ 4611686018427387904 := by omega
    go_enter Try.func3, Try.ntmps3
    go_wp2_with fail
    go_at_call 10
    refine (big_s _ S0).mono ?_
    rw [decide_eq_false hbig]
    rintro e w1 ⟨rfl, S1⟩
    clear S0
    go_wp2_with fail
    go_at_call 11
    refine (drawInRangeOf_s _ hsm hby S1).mono ?_
    rintro e w2 ⟨⟨kd, m0, s0⟩, ⟨hl, hh, ⟨k1, n1, s1⟩, ⟨k2, n2, s2⟩⟩, rfl, hk, ⟨hr1, hr2⟩, S2⟩
    clear S1
    have t0 : s0.size ≤ 13 := hk.2.2.2.2
    have t1 : s1.size = 0 := hr1
    have t2 : s2.size = 0 := hr2
    obtain ⟨i, hi⟩ : ∃ b, isK ⟨kd, m0, s0⟩ = b := ⟨_, rfl⟩
    obtain ⟨g, hg⟩ : ∃ b, inR ⟨kd, m0, s0⟩ ⟨hl, hh, ⟨k1, n1, s1⟩, ⟨k2, n2, s2⟩⟩ = b := ⟨_, rfl⟩
    have C0 := fun w => implInRangeOf_any ⟨kd, m0, s0⟩ ⟨false, false, K.zero, K.zero⟩ (by show s0.size ≤ _; omega) (by decide) (by decide) w
    have C1 := fun w => implInRangeOf_any ⟨kd, m0, s0⟩ ⟨true, true, ⟨kd, m0, s0⟩, ⟨kd, m0, s0⟩⟩ (by show s0.size ≤ _; omega) (by show s0.size ≤ _; omega) (by show s0.size ≤ _; omega) w
    have CG := fun w => implInRangeOf_any ⟨kd, m0, s0⟩ ⟨hl, hh, ⟨k1, n1, s1⟩, ⟨k2, n2, s2⟩⟩ (by show s0.size ≤ _; omega) (by show s1.size ≤ _; omega) (by show s2.size ≤ _; omega) w
    have CS := fun w => specInRangeOf_any ⟨kd, m0, s0⟩ ⟨hl, hh, ⟨k1, n1, s1⟩, ⟨k2, n2, s2⟩⟩ (by show s0.size ≤ _; omega) (by show s1.size ≤ _; omega) (by show s2.size ≤ _; omega) w
    have CI := fun w => specIsKey_any ⟨kd, m0, s0⟩ (by show s0.size ≤ _; omega) w
    rw [inR_zero, hi] at C0
    rw [inR_one, hi] at C1
    rw [hg] at CG CS
    rw [hi] at CI
    simp only [K.v, R.v, K.zero] at C0 C1 CG CS CI
    replace C0 := Lib.hid C0
    replace C1 := Lib.hid C1
    replace CG := Lib.hid CG
    replace CS := Lib.hid CS
    replace CI := Lib.hid CI
    clear hi hg hk hr1 hr2
    simp only [K.v, R.v]
    obtain ⟨A, hA⟩ : ∃ g, g = w2.heap.size := ⟨_, rfl⟩
    obtain ⟨wA, hwA⟩ : ∃ u, u = (w2.alloc (.cells #[.int .i64 kd, .int .i64 m0, .string s0] 25)).alloc (.cells #[.bool hl, .bool hh, .int .i64 k1, .int .i64 n1, .string s1, .int .i64 k2, .int .i64 n2, .string s2] 27) := ⟨_, rfl⟩
    have S3 : Sl.Sep W wA [boxR A 25 #[.int .i64 kd, .int .i64 m0, .string s0], boxR (A + 1) 27 #[.bool hl, .bool hh, .int .i64 k1, .int .i64 n1, .string s1, .int .i64 k2, .int .i64 n2, .string s2]] := by
      rw [hwA]
      exact push_box (push_box S2 _ _ _ hA) _ _ _ (by simp [hA])
    go_wp2_with fail
    go_at_call 12
    rw [← hwA, ← hA]
    clear hwA hA S2
    refine (drawDecodeKey_s _ hsm hby S3).mono ?_
    rintro e w4 ⟨a1, c1, l, n, rfl, ⟨hn, hly, hll⟩, S4⟩
    clear S3
    have hcap := (S4.own 2 rfl).cap
    obtain ⟨p, hp⟩ : ∃ b, decB (l.take n) = b := ⟨_, rfl⟩
    obtain ⟨z, hz⟩ : ∃ k, decK (l.take n) = k := ⟨_, rfl⟩
    have hln : (l.take n).length = n := by simp; omega
    have CD := fun (w : World) (h : Reads w w.heap.size a1 (ints .u8 l)) => implDecodeKey_any a1 c1 (l.take n) w (reads_take h n) (fun y hy => hly y (List.mem_of_mem_take hy)) (by omega) (by omega)
    unfold DkE at CD
    rw [hln, hp, hz] at CD
    have hp2 : p = true → isK z = true ∧ toI (encU z) = l.take n ∧ z.text.size ≤ 12 := fun h => by
      rw [← hp] at h
      unfold decB at h
      obtain ⟨k, hk⟩ := Option.isSome_iff_exists.1 h
      have h1 := (dec_yes hk).1
      rw [hz] at h1
      have h2 := dec_some hk
      rw [← h1] at h2
      have h3 := (isK_iff.1 h2.1).t
      unfold isT at h3
      have h4 : z.t.length ≤ 12 := by simp only [Bool.and_eq_true, decide_eq_true_eq] at h3; exact h3.2
      have h5 : z.t.length = z.text.size := Array.length_toList
      exact ⟨h2.1, by rw [h2.2, toI_toU _ (fun y hy => hly y (List.mem_of_mem_take hy))], by omega⟩
    have HP := Lib.hid hp2
    have HL := Lib.hid (And.intro hln hll)
    clear hz hp hp2 hly hcap
    obtain ⟨kz, nz, sz⟩ := z
    simp only [K.v] at CD
    replace CD := Lib.hid CD
    have hnn : n ≤ 1001 := by omega
    clear hln hn
    go_wp2_with fail
    go_at_call 13
    with_reducible refine (CD.out _ (S4.own 2 rfl).reads).mono ?_
    rintro e w5 ⟨rfl, hb⟩
    have S5 := S4.keep hb
    clear S4 hb
    obtain ⟨D, hD⟩ : ∃ g, g = w5.heap.size := ⟨_, rfl⟩
    obtain ⟨wB, hwB⟩ : ∃ u, u = w5.alloc (.cells #[.int .i64 kz, .int .i64 nz, .string sz] 25) := ⟨_, rfl⟩
    have S6 := push_box S5 25 #[.int .i64 kz, .int .i64 nz, .string sz] D hD
    obtain ⟨f0, f1, f2⟩ := box3 S6 0 rfl
    obtain ⟨g0, g1, g2, g3, g4, g5, g6, g7⟩ := box8 S6 1 rfl
    rw [← hwB] at S6
    go_wp2_with fail
    go_at_call 14
    rw [← hwB, ← hD]
    clear hwB hD S5
    clear f0 f1 f2 g0 g1 g2 g3 g4 g5 g6 g7
    with_reducible refine (C0.out _).mono ?_
    rintro e w7 ⟨rfl, hb⟩
    have S7 := S6.keep hb
    clear S6 hb
    obtain ⟨f0, f1, f2⟩ := box3 S7 0 rfl
    obtain ⟨g0, g1, g2, g3, g4, g5, g6, g7⟩ := box8 S7 1 rfl
    obtain ⟨y0, y1, y2⟩ := box3 S7 3 rfl
    go_wp2_with fail
    go_at_call 14
    with_reducible refine (C1.out _).mono ?_
    rintro e w8 ⟨rfl, hb⟩
    have S8 := S7.keep hb
    clear S7 hb
    clear f0 f1 f2 g0 g1 g2 g3 g4 g5 g6 g7 y0 y1 y2
    obtain ⟨f0, f1, f2⟩ := box3 S8 0 rfl
    obtain ⟨g0, g1, g2, g3, g4, g5, g6, g7⟩ := box8 S8 1 rfl
    obtain ⟨y0, y1, y2⟩ := box3 S8 3 rfl
    go_wp2_with fail
    cases p with
    | false =>
      refine wp_region_held_drew (S := (fun w' => w'.cell? ⟨A, 0, none⟩ = some (.int .i64 kd) ∧ w'.cell? ⟨A, 1, none⟩ = some (.int .i64 m0) ∧ w'.cell? ⟨A, 2, none⟩ = some (.string s0) ∧ w'.cell? ⟨A + 1, 0, none⟩ = some (.bool hl) ∧ w'.cell? ⟨A + 1, 1, none⟩ = some (.bool hh) ∧ w'.cell? ⟨A + 1, 2, none⟩ = some (.int .i64 k1) ∧ w'.cell? ⟨A + 1, 3, none⟩ = some (.int .i64 n1) ∧ w'.cell? ⟨A + 1, 4, none⟩ = some (.string s1) ∧ w'.cell? ⟨A + 1, 5, none⟩ = some (.int .i64 k2) ∧ w'.cell? ⟨A + 1, 6, none⟩ = some (.int .i64 n2) ∧ w'.cell? ⟨A + 1, 7, none⟩ = some (.string s2))) (by kernel_rfl) ⟨f0, f1, f2, g0, g1, g2, g3, g4, g5, g6, g7⟩ (fun hS => ?_)
      have S8d : Sl.Sep W w8.drew _ := S8.drews 1
      clear f0 f1 f2 g0 g1 g2 g3 g4 g5 g6 g7 y0 y1 y2 S8
      generalize w8.drew = wd at hS S8d ⊢
      obtain ⟨f0, f1, f2⟩ := box3 S8d 0 rfl
      obtain ⟨g0, g1, g2, g3, g4, g5, g6, g7⟩ := box8 S8d 1 rfl
      refine Reg.take_op (i := 0) (v := ?_) rfl (by kernel_rfl) (by kernel_rfl) (by kernel_rfl) (fun _ _ _ h => h) (by rfl) ?_ (by assumption) ?_
      rotate_left
      · (intro w hSw; (try dsimp only at hSw); go_simp; try with_reducible rfl)
      try simp only [Act.put, List.setIfInBounds_toArray, List.set_cons_zero, List.set_cons_succ]
      refine Reg.take_op (i := 1) (v := ?_) rfl (by kernel_rfl) (by kernel_rfl) (by kernel_rfl) (fun _ _ _ h => h) (by rfl) ?_ (by assumption) ?_
      rotate_left
      · (intro w hSw; (try dsimp only at hSw); go_simp; try with_reducible rfl)
      try simp only [Act.put, List.setIfInBounds_toArray, List.set_cons_zero, List.set_cons_succ]
      refine Reg.take_op (i := 3) (v := ?_) rfl (by kernel_rfl) (by kernel_rfl) (by kernel_rfl) (fun _ _ _ h => h) (by rfl) ?_ (by assumption) ?_
      rotate_left
      · (intro w hSw; (try dsimp only at hSw); go_simp; try with_reducible rfl)
      try simp only [Act.put, List.setIfInBounds_toArray, List.set_cons_zero, List.set_cons_succ]
      refine Reg.take_op (i := 4) (v := ?_) rfl (by kernel_rfl) (by kernel_rfl) (by kernel_rfl) (fun _ _ _ h => h) (by rfl) ?_ (by assumption) ?_
      rotate_left
      · (intro w hSw; (try dsimp only at hSw); go_simp; try with_reducible rfl)
      try simp only [Act.put, List.setIfInBounds_toArray, List.set_cons_zero, List.set_cons_succ]
      refine Reg.one_op (i := 2) rfl (by kernel_rfl) (fun K hK => ?_)
      go_simp
      go_at_call 14
      with_reducible refine (CG.out _).mono ?_
      rintro e ww ⟨rfl, hb⟩
      have S9 := S8d.keep hb
      clear hb S8d f0 f1 f2 g0 g1 g2 g3 g4 g5 g6 g7
      obtain ⟨f0, f1, f2⟩ := box3 S9 0 rfl
      obtain ⟨g0, g1, g2, g3, g4, g5, g6, g7⟩ := box8 S9 1 rfl
      go_wp2_with fail
      refine hK.out _ _ ⟨f0, f1, f2, g0, g1, g2, g3, g4, g5, g6, g7⟩ (fun hS => ?_)
      clear hK K
      try simp only [Act.put, List.setIfInBounds_toArray, List.set_cons_zero, List.set_cons_succ]
      refine Reg.one_op (i := 5) rfl (by kernel_rfl) (fun K hK => ?_)
      go_simp
      go_at_call 15
      with_reducible refine (CS.out _).mono ?_
      rintro e ww ⟨rfl, hb⟩
      have S10 := S9.keep hb
      clear hb S9 f0 f1 f2 g0 g1 g2 g3 g4 g5 g6 g7
      obtain ⟨f0, f1, f2⟩ := box3 S10 0 rfl
      obtain ⟨g0, g1, g2, g3, g4, g5, g6, g7⟩ := box8 S10 1 rfl
      go_wp2_with fail
      refine hK.out _ _ ⟨f0, f1, f2, g0, g1, g2, g3, g4, g5, g6, g7⟩ (fun hS => ?_)
      clear hK K
      try simp only [Act.put, List.setIfInBounds_toArray, List.set_cons_zero, List.set_cons_succ]
      refine Reg.take_op (i := 6) (v := ?_) rfl (by kernel_rfl) (by kernel_rfl) (by kernel_rfl) (fun _ _ _ h => h) (by rfl) ?_ (by assumption) ?_
      rotate_left
      · (intro w hSw; (try dsimp only at hSw); go_simp; try with_reducible rfl)
      try simp only [Act.put, List.setIfInBounds_toArray, List.set_cons_zero, List.set_cons_succ]
      refine Reg.take_op (i := 7) (v := ?_) rfl (by kernel_rfl) (by kernel_rfl) (by kernel_rfl) (fun _ _ _ h => h) (by rfl) ?_ (by assumption) ?_
      rotate_left
      · (intro w hSw; (try dsimp only at hSw); go_simp; try with_reducible rfl)
      try simp only [Act.put, List.setIfInBounds_toArray, List.set_cons_zero, List.set_cons_succ]
      refine Reg.take_op (i := 8) (v := ?_) rfl (by kernel_rfl) (by kernel_rfl) (by kernel_rfl) (fun _ _ _ h => h) (by rfl) ?_ (by assumption) ?_
      rotate_left
      · (intro w hSw; (try dsimp only at hSw); go_simp; try with_reducible rfl)
      try simp only [Act.put, List.setIfInBounds_toArray, List.set_cons_zero, List.set_cons_succ]
      refine Reg.take_op (i := 9) (v := ?_) rfl (by kernel_rfl) (by kernel_rfl) (by kernel_rfl) (fun _ _ _ h => h) (by rfl) ?_ (by assumption) ?_
      rotate_left
      · (intro w hSw; (try dsimp only at hSw); go_simp; try with_reducible rfl)
      try simp only [Act.put, List.setIfInBounds_toArray, List.set_cons_zero, List.set_cons_succ]
      refine Reg.one_op (i := 10) rfl (by kernel_rfl) (fun K hK => ?_)
      go_simp
      go_at_call 16
      with_reducible refine (CI.out _).mono ?_
      rintro e ww ⟨rfl, hb⟩
      have S11 := S10.keep hb
      clear hb S10 f0 f1 f2 g0 g1 g2 g3 g4 g5 g6 g7
      obtain ⟨f0, f1, f2⟩ := box3 S11 0 rfl
      obtain ⟨g0, g1, g2, g3, g4, g5, g6, g7⟩ := box8 S11 1 rfl
      go_wp2_with fail
      refine hK.out _ _ ⟨f0, f1, f2, g0, g1, g2, g3, g4, g5, g6, g7⟩ (fun hS => ?_)
      clear hK K
      try simp only [Act.put, List.setIfInBounds_toArray, List.set_cons_zero, List.set_cons_succ]
      refine Reg.take_op (i := 11) (v := ?_) rfl (by kernel_rfl) (by kernel_rfl) (by kernel_rfl) (fun _ _ _ h => h) (by rfl) ?_ (by assumption) ?_
      rotate_left
      · (intro w hSw; (try dsimp only at hSw); go_simp; try with_reducible rfl)
      try simp only [Act.put, List.setIfInBounds_toArray, List.set_cons_zero, List.set_cons_succ]
      refine Reg.take_op (i := 12) (v := ?_) rfl (by kernel_rfl) (by kernel_rfl) (by kernel_rfl) (fun _ _ _ h => h) (by rfl) ?_ (by assumption) ?_
      rotate_left
      · (intro w hSw; (try dsimp only at hSw); go_simp; try with_reducible rfl)
      try simp only [Act.put, List.setIfInBounds_toArray, List.set_cons_zero, List.set_cons_succ]
      refine Reg.take_op (i := 13) (v := ?_) rfl (by kernel_rfl) (by kernel_rfl) (by kernel_rfl) (fun _ _ _ h => h) (by rfl) ?_ (by assumption) ?_
      rotate_left
      · (intro w hSw; (try dsimp only at hSw); go_simp; try with_reducible rfl)
      try simp only [Act.put, List.setIfInBounds_toArray, List.set_cons_zero, List.set_cons_succ]
      refine Reg.take_op (i := 14) (v := ?_) rfl (by kernel_rfl) (by kernel_rfl) (by kernel_rfl) (fun _ _ _ h => h) (by rfl) ?_ (by assumption) ?_
      rotate_left
      · (intro w hSw; (try dsimp only at hSw); go_simp; try with_reducible rfl)
      try simp only [Act.put, List.setIfInBounds_toArray, List.set_cons_zero, List.set_cons_succ]
      refine Reg.take_op (i := 15) (v := ?_) rfl (by kernel_rfl) (by kernel_rfl) (by kernel_rfl) (fun _ _ _ h => h) (by rfl) ?_ (by assumption) ?_
      rotate_left
      · (intro w hSw; (try dsimp only at hSw); go_simp; try with_reducible rfl)
      try simp only [Act.put, List.setIfInBounds_toArray, List.set_cons_zero, List.set_cons_succ]
      refine Reg.take_op (i := 16) (v := ?_) rfl (by kernel_rfl) (by kernel_rfl) (by kernel_rfl) (fun _ _ _ h => h) (by rfl) ?_ (by assumption) ?_
      rotate_left
      · (intro w hSw; (try dsimp only at hSw); go_simp; try with_reducible rfl)
      try simp only [Act.put, List.setIfInBounds_toArray, List.set_cons_zero, List.set_cons_succ]
      refine Reg.take_op (i := 17) (v := ?_) rfl (by kernel_rfl) (by kernel_rfl) (by kernel_rfl) (fun _ _ _ h => h) (by rfl) ?_ (by assumption) ?_
      rotate_left
      · (intro w hSw; (try dsimp only at hSw); go_simp; try with_reducible rfl)
      try simp only [Act.put, List.setIfInBounds_toArray, List.set_cons_zero, List.set_cons_succ]
      refine Reg.take_op (i := 18) (v := ?_) rfl (by kernel_rfl) (by kernel_rfl) (by kernel_rfl) (fun _ _ _ h => h) (by rfl) ?_ (by assumption) ?_
      rotate_left
      · (intro w hSw; (try dsimp only at hSw); go_simp; try with_reducible rfl)
      try simp only [Act.put, List.setIfInBounds_toArray, List.set_cons_zero, List.set_cons_succ]
      refine Reg.take_op (i := 19) (v := ?_) rfl (by kernel_rfl) (by kernel_rfl) (by kernel_rfl) (fun _ _ _ h => h) (by rfl) ?_ (by assumption) ?_
      rotate_left
      · (intro w hSw; (try dsimp only at hSw); go_simp; try with_reducible rfl)
      try simp only [Act.put, List.setIfInBounds_toArray, List.set_cons_zero, List.set_cons_succ]
      refine Reg.take_op (i := 20) (v := ?_) rfl (by kernel_rfl) (by kernel_rfl) (by kernel_rfl) (fun _ _ _ h => h) (by rfl) ?_ (by assumption) ?_
      rotate_left
      · (intro w hSw; (try dsimp only at hSw); go_simp; try with_reducible rfl)
      try simp only [Act.put, List.setIfInBounds_toArray, List.set_cons_zero, List.set_cons_succ]
      refine Reg.take_op (i := 21) (v := ?_) rfl (by kernel_rfl) (by kernel_rfl) (by kernel_rfl) (fun _ _ _ h => h) (by rfl) ?_ (by assumption) ?_
      rotate_left
      · (intro w hSw; (try dsimp only at hSw); go_simp; try with_reducible rfl)
      try simp only [Act.put, List.setIfInBounds_toArray, List.set_cons_zero, List.set_cons_succ]
      refine Reg.skip_op (i := 22) rfl (by kernel_rfl) (by kernel_rfl) (by kernel_rfl) (fun _ _ _ h => h) (by rfl) (by assumption) ?_
      try simp only [Act.put, List.setIfInBounds_toArray, List.set_cons_zero, List.set_cons_succ]
      refine Reg.skip_op (i := 24) rfl (by kernel_rfl) (by kernel_rfl) (by kernel_rfl) (fun _ _ _ h => h) (by rfl) (by assumption) ?_
      try simp only [Act.put, List.setIfInBounds_toArray, List.set_cons_zero, List.set_cons_succ]
      refine Reg.skip_one (i := 23) rfl (by kernel_rfl) (by rfl) (by assumption) ?_
      try simp only [Act.put, List.setIfInBounds_toArray, List.set_cons_zero, List.set_cons_succ]
      refine Reg.skip_one (i := 25) rfl (by kernel_rfl) (by rfl) (by assumption) ?_
      try simp only [Act.put, List.setIfInBounds_toArray, List.set_cons_zero, List.set_cons_succ]
      refine Reg.take_op (i := 26) (v := ?_) rfl (by kernel_rfl) (by kernel_rfl) (by kernel_rfl) (fun _ _ _ h => h) (by rfl) ?_ (by assumption) ?_
      rotate_left
      · (intro w hSw; (try dsimp only at hSw); go_simp; try with_reducible rfl)
      try simp only [Act.put, List.setIfInBounds_toArray, List.set_cons_zero, List.set_cons_succ]
      refine Reg.take_op (i := 27) (v := ?_) rfl (by kernel_rfl) (by kernel_rfl) (by kernel_rfl) (fun _ _ _ h => h) (by rfl) ?_ (by assumption) ?_
      rotate_left
      · (intro w hSw; (try dsimp only at hSw); go_simp; try with_reducible rfl)
      try simp only [Act.put, List.setIfInBounds_toArray, List.set_cons_zero, List.set_cons_succ]
      refine Reg.take_op (i := 28) (v := ?_) rfl (by kernel_rfl) (by kernel_rfl) (by kernel_rfl) (fun _ _ _ h => h) (by rfl) ?_ (by assumption) ?_
      rotate_left
      · (intro w hSw; (try dsimp only at hSw); go_simp; try with_reducible rfl)
      try simp only [Act.put, List.setIfInBounds_toArray, List.set_cons_zero, List.set_cons_succ]
      refine wpAnyH_done (by kernel_rfl) ?_ _
      go_wp2_with fail
      go_ret
      exact ⟨rfl, S11.old⟩
    | true =>
      obtain ⟨p1, p2, p3⟩ := HP.out rfl
      have p3' : sz.size ≤ 12 := p3
      have CE := Lib.hid (show ∀ w, Calls Try.prog 18 #[.agg #[.int .i64 kz, .int .i64 nz, .string sz]] w (Gave w w.heap.size 5 .u8 (l.take n)) from fun w => by
        have h := implEncodeKey_any ⟨kz, nz, sz⟩ (by show sz.size ≤ _; omega) w
        rw [p2] at h
        exact h)
      have CB := Lib.hid (show ∀ (w : World) (a3 : Option Addr) (c3 : Nat) (x3 : List Int), Sl.Sep W w ([boxR A 25 #[.int .i64 kd, .int .i64 m0, .string s0], boxR (A + 1) 27 #[.bool hl, .bool hh, .int .i64 k1, .int .i64 n1, .string s1, .int .i64 k2, .int .i64 n2, .string s2], Sl.own 5 .u8 a1 c1 l, boxR D 25 #[.int .i64 kz, .int .i64 nz, .string sz]] ++ [Sl.own 5 .u8 a3 c3 x3]) → x3 = l.take n → Calls Try.prog 17 #[.slice a3 x3.length c3, .slice a1 n c1] w fun e w' => e = .returned (.bool true) ∧ Sl.Sep W w' ([boxR A 25 #[.int .i64 kd, .int .i64 m0, .string s0], boxR (A + 1) 27 #[.bool hl, .bool hh, .int .i64 k1, .int .i64 n1, .string s1, .int .i64 k2, .int .i64 n2, .string s2], Sl.own 5 .u8 a1 c1 l, boxR D 25 #[.int .i64 kz, .int .i64 nz, .string sz]] ++ [Sl.own 5 .u8 a3 c3 x3]) from fun w a3 c3 x3 S e => by
        refine sameBytes_s S _ _ _ _ _ rfl HL.out.1.symm (S.own 4 rfl).reads (reads_take (S.own 2 rfl).reads n) e (by rw [e]; have := HL.out.1; omega))
      clear p1 p2 p3
      go_region_held3 (fun w' => w'.cell? ⟨A, 0, none⟩ = some (.int .i64 kd) ∧ w'.cell? ⟨A, 1, none⟩ = some (.int .i64 m0) ∧ w'.cell? ⟨A, 2, none⟩ = some (.string s0) ∧ w'.cell? ⟨A + 1, 0, none⟩ = some (.bool hl) ∧ w'.cell? ⟨A + 1, 1, none⟩ = some (.bool hh) ∧ w'.cell? ⟨A + 1, 2, none⟩ = some (.int .i64 k1) ∧ w'.cell? ⟨A + 1, 3, none⟩ = some (.int .i64 n1) ∧ w'.cell? ⟨A + 1, 4, none⟩ = some (.string s1) ∧ w'.cell? ⟨A + 1, 5, none⟩ = some (.int .i64 k2) ∧ w'.cell? ⟨A + 1, 6, none⟩ = some (.int .i64 n2) ∧ w'.cell? ⟨A + 1, 7, none⟩ = some (.string s2) ∧ w'.cell? ⟨D, 0, none⟩ = some (.int .i64 kz) ∧ w'.cell? ⟨D, 1, none⟩ = some (.int .i64 nz) ∧ w'.cell? ⟨D, 2, none⟩ = some (.string sz)) (first | exact ⟨f0, f1, f2, g0, g1, g2, g3, g4, g5, g6, g7, y0, y1, y2⟩ | go_keep)
        (first
          | (go_at_call 14; with_reducible refine (CG.out _).mono ?_; rintro e ww ⟨rfl, hb⟩; have S9 := keep_drew S8 hb; obtain ⟨f0, f1, f2⟩ := box3 S9 0 rfl; obtain ⟨g0, g1, g2, g3, g4, g5, g6, g7⟩ := box8 S9 1 rfl; obtain ⟨y0, y1, y2⟩ := box3 S9 3 rfl)
          | (go_at_call 15; with_reducible refine (CS.out _).mono ?_; rintro e ww ⟨rfl, hb⟩; have S10 := S9.keep hb; obtain ⟨f0, f1, f2⟩ := box3 S10 0 rfl; obtain ⟨g0, g1, g2, g3, g4, g5, g6, g7⟩ := box8 S10 1 rfl; obtain ⟨y0, y1, y2⟩ := box3 S10 3 rfl)
          | (go_at_call 16; with_reducible refine (CI.out _).mono ?_; rintro e ww ⟨rfl, hb⟩; have S11 := S10.keep hb; obtain ⟨f0, f1, f2⟩ := box3 S11 0 rfl; obtain ⟨g0, g1, g2, g3, g4, g5, g6, g7⟩ := box8 S11 1 rfl; obtain ⟨y0, y1, y2⟩ := box3 S11 3 rfl)
          | (go_at_call 18; with_reducible refine (gave S11 (CE.out _)).mono ?_; rintro e ww ⟨a3, c3, x3, rfl, hx3, S12⟩; obtain ⟨f0, f1, f2⟩ := box3 S12 0 rfl; obtain ⟨g0, g1, g2, g3, g4, g5, g6, g7⟩ := box8 S12 1 rfl; obtain ⟨y0, y1, y2⟩ := box3 S12 3 rfl)
          | (go_at_call 17; refine (CB.out _ _ _ _ S12 hx3.out).mono ?_; rintro e ww ⟨rfl, S13⟩; obtain ⟨f0, f1, f2⟩ := box3 S13 0 rfl; obtain ⟨g0, g1, g2, g3, g4, g5, g6, g7⟩ := box8 S13 1 rfl; obtain ⟨y0, y1, y2⟩ := box3 S13 3 rfl))
      all_goals
        go_wp2_with fail
        go_ret
        exact ⟨rfl, S13.old⟩

set_option maxRecDepth 100000 in
theorem lifted (os : Os) (started : os.Started) (H : Type) (enc : TypeId × Value → H) :
    ReturnsInHanded {} Try.checked os 3 .any (Rows.fnRangesSpec.pre6 enc Try.prog Try.f3 Rows.fnRangesRow.domain false) (Rows.fnRangesSpec.post enc Try.prog Try.f3 false true false false) := by
  refine returnsInHanded_of_change_sized (C := Try.checked) own started (by kernel_rfl) Try.func3
    (ChangeSpec.witness6 (enc := enc) (C := Try.checked) false ⟨#[], #[.slice none 0 0], []⟩ 8 (by kernel_rfl) (by kernel_rfl) (by kernel_rfl) (by kernel_rfl)) ?_
  intro W base args ds gs before hval0 hW _ hsz0 _
  have hval : ∀ (j : Nat) t v, Try.f3.params[j]? = some t → args[j]? = some v → Value.okWide Try.prog W .any base t v := hval0
  have hW' := hW
  obtain ⟨p, q, hA0, hV, rfl, _, _⟩ := hW
  have hA : DataW.TrodAll enc Try.prog W 0 (fun _ => true) true Try.f3.params.toList args.toList ds p := hA0
  obtain ⟨rfl, rfl⟩ := trodVars_none hV
  have hlt : ∀ x ∈ p, x.block < W.heap.size := fun x hx => hW'.lt x (by simpa using hx)
  simp only [List.append_nil] at hW'
  have hw := walk H enc W base args ds p hval hA hlt hsz0
  have hA1 := hA
  clear hA0 hval0 hsz0 hval hlt
  rw [Try.params3] at hA
  obtain ⟨v0, vs0, d0, ds0, p0, q0, e0, rfl, rfl, h0, hr0⟩ := trodAll_cons hA
  obtain ⟨e1, rfl, rfl⟩ := trodAll_nil hr0
  refine hw.mono fun e W' ⟨he, hb⟩ => ?_
  subst he
  exact ⟨_, rfl, Frame.law_post (tb := 4) rfl hW' hA1 rfl rfl rfl laidOut (by kernel_rfl) (by kernel_rfl) Try.underlying4 hb⟩

theorem holds : Rows.FnRangesSaid :=
  OpenClaim.holds_of_wide 3 Try.f3 rfl rfl rfl rfl rfl rfl rfl ⟨rfl, rfl, rfl, rfl, rfl⟩ rfl rfl rfl rfl rfl (by kernel_rfl) Try.func3 (by kernel_rfl)
    (of_decide_eq_true (by kernel_rfl)) (by unfold Func.isWrapper; first | (rw [if_pos (by decide +kernel)]; kernel_rfl) | (rw [if_neg (by decide +kernel)]; exact ⟨rfl, rfl⟩))
    (fun os started H enc _ => lifted os started H enc)

#print axioms holds
end Go.Proofs.Ytenmdecooamaaaa.lawFnRanges
