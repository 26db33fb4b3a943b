/-
  The law FnKeyedHash answers true for every argument, and leaves its arguments as they were. No condition.
  (The frame is written by my program mk_law.py.)
-/
import Derived.Test.YtkgmiaoecedjdaaFrame
import Derived.SizedLaws
import Derived.LaidLaws
import Derived.ShutString
import Derived.Stop.LaidErr
import Derived.Lib.LaidTab
import Derived.Test.YtkgmiaoecedjdaaSd3
import Derived.Deep.RegionWith
namespace Go.Proofs.Ytkgmiaoecedjdaa.lawFnKeyedHash
open Go.ChangeShapes Go.WideShapes Go.ChangeAt Go.RowKit
open Go.ChangeMaps (open_string shut_string)
set_option linter.unusedVariables false
theorem own : ownKnob Try.prog.godebug = none := by kernel_rfl
theorem laidOut : laidOutB Try.prog = true := by kernel_rfl
open Mem Sl Ex Sd L2
set_option maxRecDepth 100000 in
set_option maxHeartbeats 1000000 in
theorem walk (H : Type) (enc : TypeId × Value → H) (W : World) (base : Nat) (args : Array Value) (ds : List (DataW H)) (p : List MemPlace)
    (hval : ∀ (j : Nat) t v, Try.f4.params[j]? = some t → args[j]? = some v → Value.okWide Try.prog W .any base t v)
    (hA : DataW.TrodAll enc Try.prog W 0 (fun _ => true) true Try.f4.params.toList args.toList ds p)
    (hlt : ∀ x ∈ p, x.block < W.heap.size)
    (hsz : (DataW.weightsEach Try.prog (Try.f4.params.toList ++ Rows.fnKeyedHashSpec.plain.varTypes Try.prog) (ds ++ [])).all (· ≤ reachBytes) = true) :
    Calls Try.prog 4 args W fun e w' => e = .returned (.bool true) ∧ Below W.heap.size W w' := by
  rw [Try.params4] at hA hval hsz
  obtain ⟨v0, d0, rfl, rfl, h0⟩ := trodAll_one hA
  obtain ⟨a0, l0, c0, rfl, hC0, -, hR0, hW0⟩ := Law.open_list Try.underlying22 Try.underlying5 (by kernel_rfl) (hval 0 22 v0 rfl rfl) h0 hlt
  have hby : Mem.Bytes W W.heap.size a0 l0.length := fun j hj => by
    obtain ⟨ad, he, hb, hc⟩ := hR0.int j hj
    have := Law.wf_u8 (hW0 l0[j] (List.getElem_mem hj))
    exact ⟨ad, _, he, hb, hc, this.1, this.2⟩
  obtain ⟨n0, hn0⟩ : ∃ n, n = l0.length := ⟨_, rfl⟩
  rw [← hn0] at hby hC0 ⊢
  clear hn0 hR0 hW0 hA hval hlt hsz h0
  have S0 := Sl.Sep.start W
  by_cases hbig : n0 > 1048576
  · go_enter Try.func4, Try.ntmps4
    go_wp2_with (go_at_call 13; refine (big_s _ S0).mono ?_; rw [decide_eq_true hbig]; rintro e w1 ⟨rfl, S1⟩)
    go_ret
    exact ⟨rfl, S1.old⟩
  · have hsm : n0 ≤ 4611686018427387904 := by omega
    have hsm2 : n0 ≤ 1048576 := by omega
    obtain ⟨i0, hi0, hz0, hz1, hz2⟩ := infoOf _ _ _ _ info64s
    go_enter Try.func4, Try.ntmps4
    go_wp2_with fail
    go_at_call 13
    refine (big_s _ S0).mono ?_
    rw [decide_eq_false hbig]
    rintro e w1 ⟨rfl, S1⟩
    clear S0
    go_wp2_with fail
    go_at_call 18
    refine (drawKeyedHash_s _ hsm hby S1).mono ?_
    rintro e w2 ⟨k, a1, c1, l, rfl, hk, ⟨hw1, hl1⟩, S2⟩
    clear S1
    obtain ⟨x, hx⟩ : ∃ x, L3.kh k l = x := ⟨_, rfl⟩
    obtain ⟨hx0, hx1⟩ : 0 ≤ x ∧ x < 2147483647 := by rw [← hx]; exact L3.kh_range k l
    have HX := Lib.hid hx
    have HC := Lib.hid (L3.implKeyedHash_any k a1 c1 l w2 _ (S2.own 0 rfl).reads (Nat.le_refl _) (by omega))
    rw [hx] at HC
    have hh : ∀ (w1 : World) (a1 : Option Addr) (c1 : Nat), Reads w1 w1.heap.size a1 (ints .i64 ([k] ++ l ++ [k])) → Calls Try.prog 20 #[.slice a1 (l.length + 1 + 1) c1] w1 fun e w' => e = .returned (.int .i64 x) ∧ w1 = w' := fun w1 a1 c1 h1 => by
      have e1 : l.length + 1 + 1 = ([k] ++ l ++ [k]).length := by simp
      have e2 : x = L3.hs ([k] ++ l ++ [k]) := by rw [← hx]; unfold L3.kh; rw [show [k] ++ l ++ [k] = k :: (l ++ [k]) by simp]
      rw [e1, e2]
      exact L3.implHash_any a1 c1 _ w1 _ h1 (by simp; omega)
    have HH := Lib.hid hh
    clear hx hh
    go_wp2_with fail
    go_at_call 19
    refine HC.out.mono ?_
    rintro e w3 ⟨rfl, hb3⟩
    have S3 := S2.keep hb3
    clear S2 hb3 HC
    have S4 := push_lit S3 3 .i64 k
    have d1 : decide (x < 0) = false := decide_eq_false (by omega)
    have d2 : decide (2147483647 ≤ x) = false := decide_eq_false (by omega)
    go_wp2_with (first
      | (at_builtin; refine wpList_append_sepg _ (by rfl) _ _ 28 rfl 3 i0 (.int .i64 0) 8 Try.underlying28 hi0 hz0 hz1 hz2 rfl .i64 _ _ _ [k] rfl rfl W _ S4 1 rfl _ a1 _ c1 l rfl rfl (S4.own 0 rfl).reads (by simp [maxLen]; omega) (by simp; omega) ?_; intro a2 c2 w4 S5)
      | (at_builtin; refine wpList_append_sepg _ (by rfl) _ _ 28 rfl 3 i0 (.int .i64 0) 8 Try.underlying28 hi0 hz0 hz1 hz2 rfl .i64 a2 _ c2 ([k] ++ l) rfl (by rw [List.length_append]; rfl) W _ (S5.alloc _) 1 rfl _ _ 1 1 [_] rfl rfl (reads_one _ _ _ _) (by simp [maxLen]; omega) (by simp; omega) ?_; intro a3 c3 w5 S6))
    go_at_call 20
    refine (HH.out w5 a3 c3 (S6.own 1 rfl).reads).mono ?_
    rintro e w6 ⟨rfl, rfl⟩
    have S7 : Sl.Sep W w5 [Sl.own 3 .i64 a1 c1 l] := drop (rs := [Sl.own 3 .i64 a1 c1 l]) (ts := []) S6
    clear S3 S4 S5 S6 HH
    by_cases hpos : (0 : Int) < (l.length : Int)
    · have S8 := push_made S7 3 .i64
      go_wp2_with (at_builtin; refine wpList_append_sep _ rfl _ _ 28 rfl 3 i0 (.int .i64 0) 8 Try.underlying28 hi0 hz0 hz1 hz2 rfl .i64 _ _ _ [] rfl rfl W _ S8 1 rfl _ a1 _ c1 l rfl rfl (S8.own 0 rfl).reads (by simp [maxLen]; omega) (by simp; omega) ?_; intro a4 c4 w6 S9)
      have S10 : Sl.Sep W w6 [Sl.own 3 .i64 a1 c1 l, Sl.own 3 .i64 a4 c4 l] := S9
      clear S7 S8 S9
      obtain ⟨g, rfl⟩ : ∃ g, a4 = some ⟨g, 0, none⟩ := by
        rcases (S10.own 1 rfl).form with ⟨_, rfl, _⟩ | ⟨g, h, _⟩
        · simp at hpos
        · exact ⟨g, h⟩
      go_at_call 21
      refine (at_s _ hsm2 hby S10 _ (by omega) (by omega)).mono ?_
      rintro e w7 ⟨n7, rfl, ⟨hn70, hn71⟩, S11⟩
      clear S10
      have hq0 := Int.emod_nonneg n7 (show (l.length : Int) ≠ 0 by omega)
      have hq1 := Int.emod_lt_of_pos n7 hpos
      obtain ⟨i, hi⟩ : ∃ i : Nat, (i : Int) = n7 % (l.length : Int) := ⟨(n7 % (l.length : Int)).toNat, by omega⟩
      go_wp2_with fail
      rw [← hi]
      rw [← hi] at hq1
      have hil : i < l.length := by omega
      clear hi hq0
      obtain ⟨v, hv⟩ : ∃ v, v = l[i] := ⟨_, rfl⟩
      obtain ⟨hv0, hv1⟩ := hw1 _ (List.getElem_mem hil)
      rw [← hv] at hv0 hv1
      have HV := Lib.hid hv
      have hc7 := (cell_s S11 1 rfl i hil).1
      rw [← hv] at hc7
      have hm : ∀ (n : Int) (w : World), 0 ≤ n → n ≤ 255 → Calls Try.prog 22 #[.int .i64 (IntKind.i64.wrap (IntKind.i64.wrap (v + 1) + n)), .int .i64 2147483647] w fun e w' => e = .returned (.int .i64 ((v + 1 + n) % 2147483647)) ∧ w = w' := fun n w h0 h1 => by
        have := L1.specMod_any (IntKind.i64.wrap (IntKind.i64.wrap (v + 1) + n)) 2147483647 w
        rw [L3.modM, IntWalk.i64_in (v + 1) ⟨by omega, by omega⟩, IntWalk.i64_in (v + 1 + n) ⟨by omega, by omega⟩] at this
        rw [IntWalk.i64_in (v + 1) ⟨by omega, by omega⟩, IntWalk.i64_in (v + 1 + n) ⟨by omega, by omega⟩]
        exact this
      have HM := Lib.hid hm
      clear hm hv
      have q0 : (0 : Int) ≤ (i : Int) := by omega
      go_region_with (first
          | (go_at_call 21; refine (at_s _ hsm2 hby (drew_s S11) _ (by omega) (by omega)).mono ?_; rintro e w8 ⟨n8, rfl, ⟨hn80, hn81⟩, S12⟩; have hc8 := (cell_s S12 1 rfl i hil).1; rw [← HV.out] at hc8; have hf8 := (cell_s S12 1 rfl i hil).2)
          | (go_at_call 22; refine (HM.out n8 _ hn80 hn81).mono ?_; rintro e w9 ⟨rfl, rfl⟩))
      all_goals
        have S13 := set_s S12 1 rfl i ((v + 1 + n8) % 2147483647)
        have hll : (l.set i ((v + 1 + n8) % 2147483647)).length = l.length := List.length_set
        have hkd := fun h => L3.kh_set k l i ((v + 1 + n8) % 2147483647) hil h
        rw [HX.out, ← HV.out] at hkd
        obtain ⟨y, hy⟩ : ∃ y, L3.kh k (l.set i ((v + 1 + n8) % 2147483647)) = y := ⟨_, rfl⟩
        rw [hy] at hkd
        have hne : (y == x) = false := by
          rw [beq_eq_false_iff_ne]
          intro h
          have h2 := hkd h
          omega
        have HK := Lib.hid (L3.implKeyedHash_any k (some ⟨g, 0, none⟩) c4 (l.set i ((v + 1 + n8) % 2147483647)) _ _ (S13.own 1 rfl).reads (Nat.le_refl _) (by omega))
        rw [hll, hy] at HK
        clear hkd hy hll hc7 hc8 hf8 S11 S12
        go_wp2_with fail
        go_at_call 19
        refine HK.out.mono ?_
        rintro e w10 ⟨rfl, hb10⟩
        have S14 := S13.keep hb10
        clear S13 hb10
        go_wp2_with fail
        go_at_call 23
        refine (drawDeriveFromString_s _ hsm hby S14).mono ?_
        rintro e w20 ⟨k2, s, rfl, hk2, hs, S20⟩
        obtain ⟨z, hz⟩ : ∃ z, L3.derive k2 (L3.strB s) = z := ⟨_, rfl⟩
        have hz2 := L3.derive_range k2 (L3.strB s)
        rw [hz] at hz2
        have HD := Lib.hid (L3.implDeriveFromString_any k2 s w20 (by omega))
        rw [hz] at HD
        have HI := Lib.hid (fun w => L3.implIsValidKey_any z w)
        rw [L1.inB_true.mpr hz2] at HI
        clear hz hz2
        go_wp2_with fail
        go_at_call 25
        refine HD.out.mono ?_
        rintro e w21 ⟨rfl, hb21⟩
        have S21 := S20.keep hb21
        clear S20 hb21
        go_wp2_with fail
        go_at_call 24
        refine (HI.out _).mono ?_
        rintro e w22 ⟨rfl, rfl⟩
        go_wp2_with fail
        go_ret
        exact ⟨rfl, S21.old⟩
    · go_wp2_with fail
      go_at_call 23
      refine (drawDeriveFromString_s _ hsm hby S7).mono ?_
      rintro e w20 ⟨k2, s, rfl, hk2, hs, S20⟩
      obtain ⟨z, hz⟩ : ∃ z, L3.derive k2 (L3.strB s) = z := ⟨_, rfl⟩
      have hz2 := L3.derive_range k2 (L3.strB s)
      rw [hz] at hz2
      have HD := Lib.hid (L3.implDeriveFromString_any k2 s w20 (by omega))
      rw [hz] at HD
      have HI := Lib.hid (fun w => L3.implIsValidKey_any z w)
      rw [L1.inB_true.mpr hz2] at HI
      clear hz hz2
      go_wp2_with fail
      go_at_call 25
      refine HD.out.mono ?_
      rintro e w21 ⟨rfl, hb21⟩
      have S21 := S20.keep hb21
      clear S20 hb21
      go_wp2_with fail
      go_at_call 24
      refine (HI.out _).mono ?_
      rintro e w22 ⟨rfl, rfl⟩
      go_wp2_with fail
      go_ret
      exact ⟨rfl, S21.old⟩

set_option maxRecDepth 100000 in
theorem lifted (os : Os) (started : os.Started) (H : Type) (enc : TypeId × Value → H) :
    ReturnsInHanded {} Try.checked os 4 .any (Rows.fnKeyedHashSpec.pre6 enc Try.prog Try.f4 Rows.fnKeyedHashRow.domain false) (Rows.fnKeyedHashSpec.post enc Try.prog Try.f4 false true false false) := by
  refine returnsInHanded_of_change_sized (C := Try.checked) own started (by kernel_rfl) Try.func4
    (ChangeSpec.witness6 (enc := enc) (C := Try.checked) false ⟨#[], #[.slice none 0 0], []⟩ 8 (by kernel_rfl) (by kernel_rfl) (by kernel_rfl) (by kernel_rfl)) ?_
  intro W base args ds gs before hval0 hW _ hsz0 _
  have hval : ∀ (j : Nat) t v, Try.f4.params[j]? = some t → args[j]? = some v → Value.okWide Try.prog W .any base t v := hval0
  have hW' := hW
  obtain ⟨p, q, hA0, hV, rfl, _, _⟩ := hW
  have hA : DataW.TrodAll enc Try.prog W 0 (fun _ => true) true Try.f4.params.toList args.toList ds p := hA0
  obtain ⟨rfl, rfl⟩ := trodVars_none hV
  have hlt : ∀ x ∈ p, x.block < W.heap.size := fun x hx => hW'.lt x (by simpa using hx)
  simp only [List.append_nil] at hW'
  have hw := walk H enc W base args ds p hval hA hlt hsz0
  have hA1 := hA
  clear hA0 hval0 hsz0 hval hlt
  rw [Try.params4] at hA
  obtain ⟨v0, vs0, d0, ds0, p0, q0, e0, rfl, rfl, h0, hr0⟩ := trodAll_cons hA
  obtain ⟨e1, rfl, rfl⟩ := trodAll_nil hr0
  refine hw.mono fun e W' ⟨he, hb⟩ => ?_
  subst he
  exact ⟨_, rfl, Frame.law_post (tb := 4) rfl hW' hA1 rfl rfl rfl laidOut (by kernel_rfl) (by kernel_rfl) Try.underlying4 hb⟩

theorem holds : Rows.FnKeyedHashSaid :=
  OpenClaim.holds_of_wide 4 Try.f4 rfl rfl rfl rfl rfl rfl rfl ⟨rfl, rfl, rfl, rfl, rfl⟩ rfl rfl rfl rfl rfl (by kernel_rfl) Try.func4 (by kernel_rfl)
    (of_decide_eq_true (by kernel_rfl)) (by unfold Func.isWrapper; first | (rw [if_pos (by decide +kernel)]; kernel_rfl) | (rw [if_neg (by decide +kernel)]; exact ⟨rfl, rfl⟩))
    (fun os started H enc _ => lifted os started H enc)

#print axioms holds
end Go.Proofs.Ytkgmiaoecedjdaa.lawFnKeyedHash
