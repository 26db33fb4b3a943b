/-
  The law FnExactCompareKeys answers true for every argument, and leaves its arguments as they were. No condition.
  (The frame is written by my program mk_law.py.)
-/
import Derived.Test.YtenmdecooamaaaaFrame
import Derived.SizedLaws
import Derived.LaidLaws
import Derived.ShutString
import Derived.Stop.LaidErr
import Derived.Lib.LaidTab
import Derived.Test.YtenmdecooamaaaaLaw
import Derived.Test.YtenmdecooamaaaaL4Open
import Derived.Deep.RegionHeld3
import Derived.Test.YtenmdecooamaaaaL4Im4
import Derived.Test.YtenmdecooamaaaaL4Open
namespace Go.Proofs.Ytenmdecooamaaaa.lawFnExactCompareKeys
open Go.ChangeShapes Go.WideShapes Go.ChangeAt Go.RowKit
open Go.ChangeMaps (open_string shut_string)
set_option linter.unusedVariables false
theorem own : ownKnob Try.prog.godebug = none := by kernel_rfl
theorem laidOut : laidOutB Try.prog = true := by kernel_rfl
open Mem
set_option maxRecDepth 100000 in
set_option maxHeartbeats 1000000 in
theorem walk (H : Type) (enc : TypeId × Value → H) (W : World) (base : Nat) (args : Array Value) (ds : List (DataW H)) (p : List MemPlace)
    (hval : ∀ (j : Nat) t v, Try.f5.params[j]? = some t → args[j]? = some v → Value.okWide Try.prog W .any base t v)
    (hA : DataW.TrodAll enc Try.prog W 0 (fun _ => true) true Try.f5.params.toList args.toList ds p)
    (hlt : ∀ x ∈ p, x.block < W.heap.size)
    (hsz : (DataW.weightsEach Try.prog (Try.f5.params.toList ++ Rows.fnExactCompareKeysSpec.plain.varTypes Try.prog) (ds ++ [])).all (· ≤ reachBytes) = true) :
    Calls Try.prog 5 args W fun e w' => e = .returned (.bool true) ∧ Below W.heap.size W w' := by
  rw [Try.params5] at hA hval hsz
  obtain ⟨v0, vs0, d0, ds0, p0, q0, e0, rfl, rfl, h0, g0⟩ := trodAll_cons hA
  obtain ⟨v1, vs1, d1, ds1, p1, q1, e1, rfl, rfl, h1, g1⟩ := trodAll_cons g0
  obtain ⟨ez, rfl, rfl⟩ := trodAll_nil g1
  subst ez
  subst e1
  obtain rfl : args = #[v0, v1] := Array.toList_inj.1 e0
  clear e0
  obtain ⟨⟨kd0, m0, s0⟩, rfl, T0, N0, M0⟩ := L4.open_key (hval 0 37 v0 rfl rfl) h0
  obtain ⟨⟨kd1, m1, s1⟩, rfl, T1, N1, M1⟩ := L4.open_key (hval 1 37 v1 rfl rfl) h1
  clear hval hA hlt hsz h0 h1
  have D0 := Lib.hid (fun w => L4.toKey_any ⟨kd0, m0, s0⟩ w)
  have D1 := Lib.hid (fun w => L4.toKey_any ⟨kd1, m1, s1⟩ w)
  have S0 := Sl.Sep.start W
  have S1 := L4.push_box S0 37 #[.int .i64 kd0, .int .i64 m0, .string s0] (W.heap.size) (by simp)
  clear S0
  have S2 := L4.push_box S1 37 #[.int .i64 kd1, .int .i64 m1, .string s1] (W.heap.size + 1) (by simp)
  clear S1
  simp only [L4.K.v] at D0
  simp only [L4.K.v] at D1
  simp only [L4.K.v]
  go_enter Try.func5, Try.ntmps5
  obtain ⟨u0, hu0⟩ : ∃ u, L4.left 1048576 (L4.K.text ⟨kd0, m0, s0⟩) = u := ⟨_, rfl⟩
  have C0 := Lib.hid (fun w => L4.szKey_any ⟨kd0, m0, s0⟩ 1048576 T0 (by decide) (by decide) w)
  have X0 : -1 ≤ u0 ∧ u0 ≤ 1048576 := by rw [← hu0]; exact L4.left_range _ _ (by decide)
  have HU0 := Lib.hid hu0
  rw [hu0] at C0
  simp only [L4.K.v] at C0
  clear hu0
  go_wp2_with fail
  go_at_call 19
  refine (C0.out _).mono ?_
  rintro e w1 ⟨rfl, hb⟩
  have S3 := S2.keep hb
  clear S2
  clear hb
  obtain ⟨f0_0, f0_1, f0_2⟩ := L4.box3 S3 0 rfl
  obtain ⟨f1_0, f1_1, f1_2⟩ := L4.box3 S3 1 rfl
  by_cases hneg0 : u0 < 0
  · go_wp2_with fail
    go_ret
    exact ⟨rfl, S3.old⟩
  have Z0 : (s0.size : Int) ≤ 1048576 := by have h9 := L4.left_small (n := 1048576) (s := s0) (by rw [show L4.left 1048576 s0 = u0 from HU0.out]; exact hneg0); omega
  clear C0 HU0
  obtain ⟨u1, hu1⟩ : ∃ u, L4.left u0 (L4.K.text ⟨kd1, m1, s1⟩) = u := ⟨_, rfl⟩
  have B1 : -1 ≤ u0 ∧ u0 ≤ 1048576 := by omega
  have C1 := Lib.hid (fun w => L4.szKey_any ⟨kd1, m1, s1⟩ u0 T1 B1.1 B1.2 w)
  have X1 : -1 ≤ u1 ∧ u1 ≤ 1048576 := by rw [← hu1]; exact L4.left_range _ _ B1.2
  have HU1 := Lib.hid hu1
  rw [hu1] at C1
  simp only [L4.K.v] at C1
  clear hu1
  go_wp2_with fail
  go_at_call 19
  refine (C1.out _).mono ?_
  rintro e w2 ⟨rfl, hb⟩
  clear f0_0 f0_1 f0_2
  clear f1_0 f1_1 f1_2
  have S4 := S3.keep hb
  clear S3
  clear hb
  obtain ⟨f0_0, f0_1, f0_2⟩ := L4.box3 S4 0 rfl
  obtain ⟨f1_0, f1_1, f1_2⟩ := L4.box3 S4 1 rfl
  by_cases hneg1 : u1 < 0
  · go_wp2_with fail
    go_ret
    exact ⟨rfl, S4.old⟩
  have Z1 : (s1.size : Int) ≤ 1048576 := by have h9 := L4.left_small (n := u0) (s := s1) (by rw [show L4.left u0 s1 = u1 from HU1.out]; exact hneg1); omega
  clear C1 HU1
  obtain ⟨r0, hr0⟩ : ∃ r : Int, r = L4.cmpK ⟨kd0, m0, s0⟩ ⟨kd1, m1, s1⟩ := ⟨_, rfl⟩
  have Cspec : ∀ (w : World), Calls Try.prog 22 #[L4.K.v ⟨kd0, m0, s0⟩, L4.K.v ⟨kd1, m1, s1⟩] w fun e w' => e = .returned (.int .i64 r0) ∧ Below w.heap.size w w' := by
    rw [hr0]
    intro w
    exact L4.specCompareKeys_any ⟨kd0, m0, s0⟩ ⟨kd1, m1, s1⟩ (by show s0.size ≤ _; omega) (by show s1.size ≤ _; omega) w
  have Cimpl : ∀ (w : World), Calls Try.prog 23 #[L4.K.v ⟨kd0, m0, s0⟩, L4.K.v ⟨kd1, m1, s1⟩] w fun e w' => e = .returned (.int .i64 r0) ∧ Below w.heap.size w w' := by
    rw [hr0]
    intro w
    exact L4.implCompareKeys_any ⟨kd0, m0, s0⟩ ⟨kd1, m1, s1⟩ (by show s0.size ≤ _; omega) (by show s1.size ≤ _; omega) w
  clear hr0
  simp only [L4.K.v] at Cspec Cimpl
  replace Cspec := Lib.hid Cspec
  replace Cimpl := Lib.hid Cimpl
  go_wp2_with fail
  go_region_held3 (fun w' => w'.cell? ⟨W.heap.size, 0, none⟩ = some (.int .i64 kd0) ∧ w'.cell? ⟨W.heap.size, 1, none⟩ = some (.int .i64 m0) ∧ w'.cell? ⟨W.heap.size, 2, none⟩ = some (.string s0) ∧ w'.cell? ⟨W.heap.size + 1, 0, none⟩ = some (.int .i64 kd1) ∧ w'.cell? ⟨W.heap.size + 1, 1, none⟩ = some (.int .i64 m1) ∧ w'.cell? ⟨W.heap.size + 1, 2, none⟩ = some (.string s1)) (first | exact ⟨f0_0, f0_1, f0_2, f1_0, f1_1, f1_2⟩ | go_keep)
    (first
      | (go_at_call 20; with_reducible refine (D0.out _).mono ?_; rintro e ww ⟨rfl, hb⟩; have SS := (by first | exact Sl.Sep.keep (by assumption) hb | exact L4.keep_drew (by assumption) hb : Sl.Sep W ww _); obtain ⟨f0_0, f0_1, f0_2⟩ := L4.box3 SS 0 rfl; obtain ⟨f1_0, f1_1, f1_2⟩ := L4.box3 SS 1 rfl)
      | (go_at_call 20; with_reducible refine (D1.out _).mono ?_; rintro e ww ⟨rfl, hb⟩; have SS := (by first | exact Sl.Sep.keep (by assumption) hb | exact L4.keep_drew (by assumption) hb : Sl.Sep W ww _); obtain ⟨f0_0, f0_1, f0_2⟩ := L4.box3 SS 0 rfl; obtain ⟨f1_0, f1_1, f1_2⟩ := L4.box3 SS 1 rfl)
      | (go_at_call 22; with_reducible refine (Cspec.out _).mono ?_; rintro e ww ⟨rfl, hb⟩; have SS := Sl.Sep.keep (by assumption) hb; obtain ⟨f0_0, f0_1, f0_2⟩ := L4.box3 SS 0 rfl; obtain ⟨f1_0, f1_1, f1_2⟩ := L4.box3 SS 1 rfl))
  all_goals
    have S5 := SS
    clear SS
    go_wp2_with fail
    go_region_held3 (fun w' => w'.cell? ⟨W.heap.size, 0, none⟩ = some (.int .i64 kd0) ∧ w'.cell? ⟨W.heap.size, 1, none⟩ = some (.int .i64 m0) ∧ w'.cell? ⟨W.heap.size, 2, none⟩ = some (.string s0) ∧ w'.cell? ⟨W.heap.size + 1, 0, none⟩ = some (.int .i64 kd1) ∧ w'.cell? ⟨W.heap.size + 1, 1, none⟩ = some (.int .i64 m1) ∧ w'.cell? ⟨W.heap.size + 1, 2, none⟩ = some (.string s1)) (first | exact ⟨f0_0, f0_1, f0_2, f1_0, f1_1, f1_2⟩ | go_keep)
      (first
        | (go_at_call 20; with_reducible refine (D0.out _).mono ?_; rintro e ww ⟨rfl, hb⟩; have SS := (by first | exact Sl.Sep.keep (by assumption) hb | exact L4.keep_drew (by assumption) hb : Sl.Sep W ww _); obtain ⟨f0_0, f0_1, f0_2⟩ := L4.box3 SS 0 rfl; obtain ⟨f1_0, f1_1, f1_2⟩ := L4.box3 SS 1 rfl)
        | (go_at_call 20; with_reducible refine (D1.out _).mono ?_; rintro e ww ⟨rfl, hb⟩; have SS := (by first | exact Sl.Sep.keep (by assumption) hb | exact L4.keep_drew (by assumption) hb : Sl.Sep W ww _); obtain ⟨f0_0, f0_1, f0_2⟩ := L4.box3 SS 0 rfl; obtain ⟨f1_0, f1_1, f1_2⟩ := L4.box3 SS 1 rfl)
        | (go_at_call 23; with_reducible refine (Cimpl.out _).mono ?_; rintro e ww ⟨rfl, hb⟩; have SS := Sl.Sep.keep (by assumption) hb; obtain ⟨f0_0, f0_1, f0_2⟩ := L4.box3 SS 0 rfl; obtain ⟨f1_0, f1_1, f1_2⟩ := L4.box3 SS 1 rfl))
    all_goals
      have S6 := SS
      clear SS
      go_wp2_with fail
      go_ret
      exact ⟨rfl, S6.old⟩

set_option maxRecDepth 100000 in
theorem lifted (os : Os) (started : os.Started) (H : Type) (enc : TypeId × Value → H) :
    ReturnsInHanded {} Try.checked os 5 .any (Rows.fnExactCompareKeysSpec.pre6 enc Try.prog Try.f5 Rows.fnExactCompareKeysRow.domain false) (Rows.fnExactCompareKeysSpec.post enc Try.prog Try.f5 false true false false) := by
  refine returnsInHanded_of_change_sized (C := Try.checked) own started (by kernel_rfl) Try.func5
    (ChangeSpec.witness6 (enc := enc) (C := Try.checked) false ⟨#[], #[.agg #[.int .i64 0, .int .i64 0, .string ⟨#[]⟩], .agg #[.int .i64 0, .int .i64 0, .string ⟨#[]⟩]], []⟩ 8 (by kernel_rfl) (by kernel_rfl) (by kernel_rfl) (by kernel_rfl)) ?_
  intro W base args ds gs before hval0 hW _ hsz0 _
  have hval : ∀ (j : Nat) t v, Try.f5.params[j]? = some t → args[j]? = some v → Value.okWide Try.prog W .any base t v := hval0
  have hW' := hW
  obtain ⟨p, q, hA0, hV, rfl, _, _⟩ := hW
  have hA : DataW.TrodAll enc Try.prog W 0 (fun _ => true) true Try.f5.params.toList args.toList ds p := hA0
  obtain ⟨rfl, rfl⟩ := trodVars_none hV
  have hlt : ∀ x ∈ p, x.block < W.heap.size := fun x hx => hW'.lt x (by simpa using hx)
  simp only [List.append_nil] at hW'
  have hw := walk H enc W base args ds p hval hA hlt hsz0
  have hA1 := hA
  clear hA0 hval0 hsz0 hval hlt
  rw [Try.params5] at hA
  obtain ⟨v0, vs0, d0, ds0, p0, q0, e0, rfl, rfl, h0, hr0⟩ := trodAll_cons hA
  obtain ⟨v1, vs1, d1, ds1, p1, q1, e1, rfl, rfl, h1, hr1⟩ := trodAll_cons hr0
  obtain ⟨e2, rfl, rfl⟩ := trodAll_nil hr1
  refine hw.mono fun e W' ⟨he, hb⟩ => ?_
  subst he
  exact ⟨_, rfl, Frame.law_post (tb := 4) rfl hW' hA1 rfl rfl rfl laidOut (by kernel_rfl) (by kernel_rfl) Try.underlying4 hb⟩

theorem holds : Rows.FnExactCompareKeysSaid :=
  OpenClaim.holds_of_wide 5 Try.f5 rfl rfl rfl rfl rfl rfl rfl ⟨rfl, rfl, rfl, rfl, rfl⟩ rfl rfl rfl rfl rfl (by kernel_rfl) Try.func5 (by kernel_rfl)
    (of_decide_eq_true (by kernel_rfl)) (by unfold Func.isWrapper; first | (rw [if_pos (by decide +kernel)]; kernel_rfl) | (rw [if_neg (by decide +kernel)]; exact ⟨rfl, rfl⟩))
    (fun os started H enc _ => lifted os started H enc)

#print axioms holds
end Go.Proofs.Ytenmdecooamaaaa.lawFnExactCompareKeys
