/-
  The law FnExactEqualRecords answers true for every argument, and leaves its arguments as they were. No condition.
  (The frame is written by my program mk_law.py.)
-/
import Derived.Test.YtpapncecfleejaaFrame
import Derived.SizedLaws
import Derived.LaidLaws
import Derived.ShutString
import Derived.Stop.LaidErr
import Derived.Lib.LaidTab
import Derived.Test.YtpapncecfleejaaL5Law
import Derived.Deep.RegionHeld3
import Derived.Test.YtpapncecfleejaaL5Ih
namespace Go.Proofs.Ytpapncecfleejaa.lawFnExactEqualRecords
open Go.ChangeShapes Go.WideShapes Go.ChangeAt Go.RowKit
open Go.ChangeMaps (open_string shut_string)
set_option linter.unusedVariables false
theorem own : ownKnob Try.prog.godebug = none := by kernel_rfl
theorem laidOut : laidOutB Try.prog = true := by kernel_rfl
open Mem
theorem drew1 {W w : World} {rs : List Sl.Res} (h : Sl.Sep W w rs) : Sl.Sep W w.drew rs := h.drews 1
set_option maxRecDepth 100000 in
set_option maxHeartbeats 8000000 in
theorem walk (H : Type) (enc : TypeId × Value → H) (W : World) (base : Nat) (args : Array Value) (ds : List (DataW H)) (p : List MemPlace)
    (hval : ∀ (j : Nat) t v, Try.f13.params[j]? = some t → args[j]? = some v → Value.okWide Try.prog W .any base t v)
    (hA : DataW.TrodAll enc Try.prog W 0 (fun _ => true) true Try.f13.params.toList args.toList ds p)
    (hlt : ∀ x ∈ p, x.block < W.heap.size)
    (hsz : (DataW.weightsEach Try.prog (Try.f13.params.toList ++ Rows.fnExactEqualRecordsSpec.plain.varTypes Try.prog) (ds ++ [])).all (· ≤ reachBytes) = true) :
    Calls Try.prog 13 args W fun e w' => e = .returned (.bool true) ∧ Below W.heap.size W w' := by
  rw [Try.params13] at hA hval hsz
  obtain ⟨v0, vs0, d0, ds0, p0, q0, e0, rfl, rfl, h0, g0⟩ := trodAll_cons hA
  obtain ⟨v1, vs1, d1, ds1, p1, q1, e1, rfl, rfl, h1, g1⟩ := trodAll_cons g0
  obtain ⟨ez, rfl, rfl⟩ := trodAll_nil g1
  subst ez
  subst e1
  obtain rfl : args = #[v0, v1] := Array.toList_inj.1 e0
  clear e0
  obtain ⟨a0, l0, c0, rfl, hR0, hW0, M0⟩ := L5.open_record (hval 0 46 v0 rfl rfl) h0 (fun x hx => hlt x (by simp [hx]))
  obtain ⟨a1, l1, c1, rfl, hR1, hW1, M1⟩ := L5.open_record (hval 1 46 v1 rfl rfl) h1 (fun x hx => hlt x (by simp [hx]))
  clear hval hA hlt hsz h0 h1
  have S0 := Sl.Sep.start W
  have S1 := L4.push_box S0 46 #[.slice a0 l0.length c0] (W.heap.size) (by simp)
  clear S0
  have S2 := L4.push_box S1 46 #[.slice a1 l1.length c1] (W.heap.size + 1) (by simp)
  clear S1
  go_enter Try.func13, Try.ntmps13
  go_wp2_with fail
  go_at_call 31
  refine (L5.roomRec S2 hR0 1048576 hW0 M0 (by omega) (by omega)).mono ?_
  rintro e w1 ⟨u0, rfl, ro0, hS⟩
  have S3 := hS
  clear hS
  clear S2
  have f0 := (L5.Row.one (L4.box_at S3 0 rfl)).1
  have f1 := (L5.Row.one (L4.box_at S3 1 rfl)).1
  have X0 : -1 ≤ u0 ∧ u0 ≤ 1048576 := ⟨ro0.1, ro0.2.1⟩
  by_cases neg0 : u0 < 0
  · go_wp2_with fail
    go_ret
    exact ⟨rfl, S3.old⟩
  obtain ⟨L0, SM0⟩ := ro0.out neg0 (by omega)
  clear ro0 hW0 M0
  go_wp2_with fail
  go_at_call 31
  refine (L5.roomRec S3 hR1 u0 hW1 M1 (by omega) (by omega)).mono ?_
  rintro e w2 ⟨u1, rfl, ro1, hS⟩
  clear f0 f1
  have S4 := hS
  clear hS
  clear S3
  have f0 := (L5.Row.one (L4.box_at S4 0 rfl)).1
  have f1 := (L5.Row.one (L4.box_at S4 1 rfl)).1
  have X1 : -1 ≤ u1 ∧ u1 ≤ 1048576 := ⟨ro1.1, ro1.2.1⟩
  by_cases neg1 : u1 < 0
  · go_wp2_with fail
    go_ret
    exact ⟨rfl, S4.old⟩
  obtain ⟨L1, SM1⟩ := ro1.out neg1 (by omega)
  clear ro1 hW1 M1
  obtain ⟨r0, hr0⟩ : ∃ r : Bool, r = L5.eqR l0 l1 := ⟨_, rfl⟩
  have Cspec : ∀ (w : World) (a0 : Option Addr) (c0 : Nat) (a1 : Option Addr) (c1 : Nat), Sl.Reads w w.heap.size a0 (L5.cellsF l0) → l0.length ≤ c0 → (a0 = none → c0 = 0) → Sl.Reads w w.heap.size a1 (L5.cellsF l1) → l1.length ≤ c1 → (a1 = none → c1 = 0) → Calls Try.prog 45 #[.agg #[.slice a0 l0.length c0], .agg #[.slice a1 l1.length c1]] w fun e w' => e = .returned (.bool r0) ∧ Below w.heap.size w w' := by
    rw [hr0]
    intro w a0 c0 a1 c1 hr0 hc0 hz0 hr1 hc1 hz1
    exact L5.specEqualRecords_any a0 a1 c0 c1 l0 l1 (by omega) (by omega) w hr0 hr1
  have Cimpl : ∀ (w : World) (a0 : Option Addr) (c0 : Nat) (a1 : Option Addr) (c1 : Nat), Sl.Reads w w.heap.size a0 (L5.cellsF l0) → l0.length ≤ c0 → (a0 = none → c0 = 0) → Sl.Reads w w.heap.size a1 (L5.cellsF l1) → l1.length ≤ c1 → (a1 = none → c1 = 0) → Calls Try.prog 18 #[.agg #[.slice a0 l0.length c0], .agg #[.slice a1 l1.length c1]] w fun e w' => e = .returned (.bool r0) ∧ Below w.heap.size w w' := by
    rw [hr0]
    intro w a0 c0 a1 c1 hr0 hc0 hz0 hr1 hc1 hz1
    exact L5.equalRecords_any a0 a1 c0 c1 l0 l1 (by omega) (by omega) w hr0 hr1
  clear hr0 SM0 SM1
  replace Cspec := Lib.hid Cspec
  replace Cimpl := Lib.hid Cimpl
  go_wp2_with fail
  have SS := S4
  clear S4
  go_region_held3 (fun w' => w'.cell? ⟨W.heap.size, 0, none⟩ = some (.slice a0 l0.length c0) ∧ w'.cell? ⟨W.heap.size + 1, 0, none⟩ = some (.slice a1 l1.length c1)) (first | exact ⟨f0, f1⟩ | exact f0 | go_keep)
    (first
      | (go_at_call 33; with_reducible refine (L5.copyRec SS hR0 (by omega)).mono ?_; rintro e ww ⟨y2, z2, rfl, hS⟩; have SS := hS; clear hS; have f0 := (L5.Row.one (L4.box_at SS 0 rfl)).1; have f1 := (L5.Row.one (L4.box_at SS 1 rfl)).1)
      | (go_at_call 33; with_reducible refine (L5.copyRec (drew1 SS) hR0 (by omega)).mono ?_; rintro e ww ⟨y2, z2, rfl, hS⟩; have SS := hS; clear hS; have f0 := (L5.Row.one (L4.box_at SS 0 rfl)).1; have f1 := (L5.Row.one (L4.box_at SS 1 rfl)).1)
      | (go_at_call 33; with_reducible refine (L5.copyRec SS hR1 (by omega)).mono ?_; rintro e ww ⟨y3, z3, rfl, hS⟩; have SS := hS; clear hS; have f0 := (L5.Row.one (L4.box_at SS 0 rfl)).1; have f1 := (L5.Row.one (L4.box_at SS 1 rfl)).1)
      | (go_at_call 33; with_reducible refine (L5.copyRec (drew1 SS) hR1 (by omega)).mono ?_; rintro e ww ⟨y3, z3, rfl, hS⟩; have SS := hS; clear hS; have f0 := (L5.Row.one (L4.box_at SS 0 rfl)).1; have f1 := (L5.Row.one (L4.box_at SS 1 rfl)).1)
      | (go_at_call 45; with_reducible refine (Cspec.out _ _ _ _ _ ((Sv.own_at SS 2 rfl).reads) ((Sv.own_at SS 2 rfl).cap) (L5.own_zero (Sv.own_at SS 2 rfl)) ((Sv.own_at SS 3 rfl).reads) ((Sv.own_at SS 3 rfl).cap) (L5.own_zero (Sv.own_at SS 3 rfl))).mono ?_; rintro e ww ⟨rfl, hb⟩; (have SS := Sl.Sep.keep SS hb); clear hb; have f0 := (L5.Row.one (L4.box_at SS 0 rfl)).1; have f1 := (L5.Row.one (L4.box_at SS 1 rfl)).1)
      | (go_at_call 45; with_reducible refine (Cspec.out _ _ _ _ _ ((Sv.own_at (drew1 SS) 2 rfl).reads) ((Sv.own_at (drew1 SS) 2 rfl).cap) (L5.own_zero (Sv.own_at (drew1 SS) 2 rfl)) ((Sv.own_at (drew1 SS) 3 rfl).reads) ((Sv.own_at (drew1 SS) 3 rfl).cap) (L5.own_zero (Sv.own_at (drew1 SS) 3 rfl))).mono ?_; rintro e ww ⟨rfl, hb⟩; (have SS := Sl.Sep.keep (drew1 SS) hb); clear hb; have f0 := (L5.Row.one (L4.box_at SS 0 rfl)).1; have f1 := (L5.Row.one (L4.box_at SS 1 rfl)).1))
  all_goals
    have S5 := SS
    clear SS
    clear f0 f1
    have f0 := (L5.Row.one (L4.box_at S5 0 rfl)).1
    have f1 := (L5.Row.one (L4.box_at S5 1 rfl)).1
    go_wp2_with fail
    go_at_call 33
    refine (L5.copyRec S5 hR0 (by omega)).mono ?_
    rintro e w3 ⟨y4, z4, rfl, hS⟩
    clear f0 f1
    have S6 := hS
    clear hS
    clear S5
    have f0 := (L5.Row.one (L4.box_at S6 0 rfl)).1
    have f1 := (L5.Row.one (L4.box_at S6 1 rfl)).1
    clear f0 f1
    have S7 := L4.push_box S6 26 #[.slice y4 l0.length z4] _ rfl
    clear S6
    have f0 := (L5.Row.one (L4.box_at S7 0 rfl)).1
    have f1 := (L5.Row.one (L4.box_at S7 1 rfl)).1
    have f5 := (L5.Row.one (L4.box_at S7 5 rfl)).1
    go_wp2_with fail
    go_at_call 33
    refine (L5.copyRec S7 hR1 (by omega)).mono ?_
    rintro e w4 ⟨y6, z6, rfl, hS⟩
    clear f0 f1 f5
    have S8 := hS
    clear hS
    clear S7
    have f0 := (L5.Row.one (L4.box_at S8 0 rfl)).1
    have f1 := (L5.Row.one (L4.box_at S8 1 rfl)).1
    have f5 := (L5.Row.one (L4.box_at S8 5 rfl)).1
    clear f0 f1 f5
    have S9 := L4.push_box S8 26 #[.slice y6 l1.length z6] _ rfl
    clear S8
    have f0 := (L5.Row.one (L4.box_at S9 0 rfl)).1
    have f1 := (L5.Row.one (L4.box_at S9 1 rfl)).1
    have f5 := (L5.Row.one (L4.box_at S9 5 rfl)).1
    have f7 := (L5.Row.one (L4.box_at S9 7 rfl)).1
    go_wp2_with fail
    go_at_call 18
    refine (Cimpl.out _ _ _ _ _ ((Sv.own_at S9 4 rfl).reads) ((Sv.own_at S9 4 rfl).cap) (L5.own_zero (Sv.own_at S9 4 rfl)) ((Sv.own_at S9 6 rfl).reads) ((Sv.own_at S9 6 rfl).cap) (L5.own_zero (Sv.own_at S9 6 rfl))).mono ?_
    rintro e w5 ⟨rfl, hb⟩
    clear f0 f1 f5 f7
    have S10 := Sl.Sep.keep S9 hb
    clear S9
    clear hb
    have f0 := (L5.Row.one (L4.box_at S10 0 rfl)).1
    have f1 := (L5.Row.one (L4.box_at S10 1 rfl)).1
    have f5 := (L5.Row.one (L4.box_at S10 5 rfl)).1
    have f7 := (L5.Row.one (L4.box_at S10 7 rfl)).1
    go_wp2_with fail
    have SS := S10
    clear S10
    go_region_held3 (fun w' => w'.cell? ⟨W.heap.size, 0, none⟩ = some (.slice a0 l0.length c0) ∧ w'.cell? ⟨w3.heap.size, 0, none⟩ = some (.slice y4 l0.length z4)) (first | exact ⟨f0, f5⟩ | exact f0 | go_keep)
      (first
        | (go_at_call 33; with_reducible refine (L5.copyRec SS hR0 (by omega)).mono ?_; rintro e ww ⟨y8, z8, rfl, hS⟩; have SS := hS; clear hS; have f0 := (L5.Row.one (L4.box_at SS 0 rfl)).1; have f5 := (L5.Row.one (L4.box_at SS 5 rfl)).1)
        | (go_at_call 33; with_reducible refine (L5.copyRec (drew1 SS) hR0 (by omega)).mono ?_; rintro e ww ⟨y8, z8, rfl, hS⟩; have SS := hS; clear hS; have f0 := (L5.Row.one (L4.box_at SS 0 rfl)).1; have f5 := (L5.Row.one (L4.box_at SS 5 rfl)).1)
        | (go_at_call 34; with_reducible refine (L5.eqRec SS 4 8 rfl rfl (by omega)).mono ?_; rintro e ww ⟨rfl, hS⟩; have SS := hS; clear hS; have f0 := (L5.Row.one (L4.box_at SS 0 rfl)).1; have f5 := (L5.Row.one (L4.box_at SS 5 rfl)).1)
        | (go_at_call 34; with_reducible refine (L5.eqRec (drew1 SS) 4 8 rfl rfl (by omega)).mono ?_; rintro e ww ⟨rfl, hS⟩; have SS := hS; clear hS; have f0 := (L5.Row.one (L4.box_at SS 0 rfl)).1; have f5 := (L5.Row.one (L4.box_at SS 5 rfl)).1))
    all_goals
      have S11 := SS
      clear SS
      clear f0 f1 f5 f7
      have f0 := (L5.Row.one (L4.box_at S11 0 rfl)).1
      have f1 := (L5.Row.one (L4.box_at S11 1 rfl)).1
      have f5 := (L5.Row.one (L4.box_at S11 5 rfl)).1
      have f7 := (L5.Row.one (L4.box_at S11 7 rfl)).1
      go_wp2_with fail
      have SS := S11
      clear S11
      go_region_held3 (fun w' => w'.cell? ⟨W.heap.size + 1, 0, none⟩ = some (.slice a1 l1.length c1) ∧ w'.cell? ⟨w4.heap.size, 0, none⟩ = some (.slice y6 l1.length z6)) (first | exact ⟨f1, f7⟩ | exact f1 | go_keep)
        (first
          | (go_at_call 33; with_reducible refine (L5.copyRec SS hR1 (by omega)).mono ?_; rintro e ww ⟨y9, z9, rfl, hS⟩; have SS := hS; clear hS; have f1 := (L5.Row.one (L4.box_at SS 1 rfl)).1; have f7 := (L5.Row.one (L4.box_at SS 7 rfl)).1)
          | (go_at_call 33; with_reducible refine (L5.copyRec (drew1 SS) hR1 (by omega)).mono ?_; rintro e ww ⟨y9, z9, rfl, hS⟩; have SS := hS; clear hS; have f1 := (L5.Row.one (L4.box_at SS 1 rfl)).1; have f7 := (L5.Row.one (L4.box_at SS 7 rfl)).1)
          | (go_at_call 34; with_reducible refine (L5.eqRec SS 6 9 rfl rfl (by omega)).mono ?_; rintro e ww ⟨rfl, hS⟩; have SS := hS; clear hS; have f1 := (L5.Row.one (L4.box_at SS 1 rfl)).1; have f7 := (L5.Row.one (L4.box_at SS 7 rfl)).1)
          | (go_at_call 34; with_reducible refine (L5.eqRec (drew1 SS) 6 9 rfl rfl (by omega)).mono ?_; rintro e ww ⟨rfl, hS⟩; have SS := hS; clear hS; have f1 := (L5.Row.one (L4.box_at SS 1 rfl)).1; have f7 := (L5.Row.one (L4.box_at SS 7 rfl)).1))
      all_goals
        have S12 := SS
        clear SS
        clear f0 f1 f5 f7
        have f0 := (L5.Row.one (L4.box_at S12 0 rfl)).1
        have f1 := (L5.Row.one (L4.box_at S12 1 rfl)).1
        have f5 := (L5.Row.one (L4.box_at S12 5 rfl)).1
        have f7 := (L5.Row.one (L4.box_at S12 7 rfl)).1
        go_wp2_with fail
        go_ret
        exact ⟨rfl, S12.old⟩

set_option maxRecDepth 100000 in
theorem lifted (os : Os) (started : os.Started) (H : Type) (enc : TypeId × Value → H) :
    ReturnsInHanded {} Try.checked os 13 .any (Rows.fnExactEqualRecordsSpec.pre6 enc Try.prog Try.f13 Rows.fnExactEqualRecordsRow.domain false) (Rows.fnExactEqualRecordsSpec.post enc Try.prog Try.f13 false true false false) := by
  refine returnsInHanded_of_change_sized (C := Try.checked) own started (by kernel_rfl) Try.func13
    (ChangeSpec.witness6 (enc := enc) (C := Try.checked) false ⟨#[], #[.agg #[.slice none 0 0], .agg #[.slice none 0 0]], []⟩ 8 (by kernel_rfl) (by kernel_rfl) (by kernel_rfl) (by kernel_rfl)) ?_
  intro W base args ds gs before hval0 hW _ hsz0 _
  have hval : ∀ (j : Nat) t v, Try.f13.params[j]? = some t → args[j]? = some v → Value.okWide Try.prog W .any base t v := hval0
  have hW' := hW
  obtain ⟨p, q, hA0, hV, rfl, _, _⟩ := hW
  have hA : DataW.TrodAll enc Try.prog W 0 (fun _ => true) true Try.f13.params.toList args.toList ds p := hA0
  obtain ⟨rfl, rfl⟩ := trodVars_none hV
  have hlt : ∀ x ∈ p, x.block < W.heap.size := fun x hx => hW'.lt x (by simpa using hx)
  simp only [List.append_nil] at hW'
  have hw := walk H enc W base args ds p hval hA hlt hsz0
  have hA1 := hA
  clear hA0 hval0 hsz0 hval hlt
  rw [Try.params13] at hA
  obtain ⟨v0, vs0, d0, ds0, p0, q0, e0, rfl, rfl, h0, hr0⟩ := trodAll_cons hA
  obtain ⟨v1, vs1, d1, ds1, p1, q1, e1, rfl, rfl, h1, hr1⟩ := trodAll_cons hr0
  obtain ⟨e2, rfl, rfl⟩ := trodAll_nil hr1
  refine hw.mono fun e W' ⟨he, hb⟩ => ?_
  subst he
  exact ⟨_, rfl, Frame.law_post (tb := 4) rfl hW' hA1 rfl rfl rfl laidOut (by kernel_rfl) (by kernel_rfl) Try.underlying4 hb⟩

theorem holds : Rows.FnExactEqualRecordsSaid :=
  OpenClaim.holds_of_wide 13 Try.f13 rfl rfl rfl rfl rfl rfl rfl ⟨rfl, rfl, rfl, rfl, rfl⟩ rfl rfl rfl rfl rfl (by kernel_rfl) Try.func13 (by kernel_rfl)
    (of_decide_eq_true (by kernel_rfl)) (by unfold Func.isWrapper; first | (rw [if_pos (by decide +kernel)]; kernel_rfl) | (rw [if_neg (by decide +kernel)]; exact ⟨rfl, rfl⟩))
    (fun os started H enc _ => lifted os started H enc)

#print axioms holds
end Go.Proofs.Ytpapncecfleejaa.lawFnExactEqualRecords
