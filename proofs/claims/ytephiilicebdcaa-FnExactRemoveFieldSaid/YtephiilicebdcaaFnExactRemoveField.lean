/-
  The law FnExactRemoveField answers true for every argument, and leaves its arguments as they were. No condition.
  (The frame is written by my program mk_law.py.)
-/
import Derived.Test.YtephiilicebdcaaPa
import Derived.SizedLaws
import Derived.LaidLaws
import Derived.ShutString
import Derived.Stop.LaidErr
import Derived.Lib.LaidTab
import Derived.Test.YtephiilicebdcaaL5Law
import Derived.Deep.RegionHeld3
import Derived.Test.YtephiilicebdcaaL5Ie
namespace Go.Proofs.Ytephiilicebdcaa.lawFnExactRemoveField
open Go.ChangeShapes Go.WideShapes Go.ChangeAt Go.RowKit
open Go.ChangeMaps (open_string shut_string)
set_option linter.unusedVariables false
theorem own : ownKnob Try.prog.godebug = none := by kernel_rfl
theorem laidOut : laidOutB Try.prog = true := by kernel_rfl
open Mem
theorem drew1 {W w : World} {rs : List Sl.Res} (h : Sl.Sep W w rs) : Sl.Sep W w.drew rs := h.drews 1
set_option maxRecDepth 100000 in
set_option maxHeartbeats 8000000 in
theorem walk (H : Type) (enc : TypeId × Value → H) (W : World) (base : Nat) (args : Array Value) (ds : List (DataW H)) (p : List MemPlace)
    (hval : ∀ (j : Nat) t v, Try.f6.params[j]? = some t → args[j]? = some v → Value.okWide Try.prog W .any base t v)
    (hA : DataW.TrodAll enc Try.prog W 0 (fun _ => true) true Try.f6.params.toList args.toList ds p)
    (hlt : ∀ x ∈ p, x.block < W.heap.size)
    (hsz : (DataW.weightsEach Try.prog (Try.f6.params.toList ++ Rows.fnExactRemoveFieldSpec.plain.varTypes Try.prog) (ds ++ [])).all (· ≤ reachBytes) = true) :
    Calls Try.prog 6 args W fun e w' => e = .returned (.bool true) ∧ Below W.heap.size W w' := by
  rw [Try.params6] at hA hval hsz
  obtain ⟨v0, vs0, d0, ds0, p0, q0, e0, rfl, rfl, h0, g0⟩ := trodAll_cons hA
  obtain ⟨v1, vs1, d1, ds1, p1, q1, e1, rfl, rfl, h1, g1⟩ := trodAll_cons g0
  obtain ⟨ez, rfl, rfl⟩ := trodAll_nil g1
  subst ez
  subst e1
  obtain rfl : args = #[v0, v1] := Array.toList_inj.1 e0
  clear e0
  obtain ⟨a0, l0, c0, rfl, hR0, hW0, M0⟩ := L5.open_record (hval 0 45 v0 rfl rfl) h0 (fun x hx => hlt x (by simp [hx]))
  obtain ⟨s1, rfl, -, -, hs1⟩ := open_string Try.underlying9 (hval 1 9 v1 rfl rfl) h1
  clear hval hA hlt hsz h0 h1
  by_cases G1 : (s1.size : Int) > 1048576
  · go_enter Try.func6, Try.ntmps6
    go_wp2_with fail
    go_ret
    exact ⟨rfl, (Below.refl _ _).alloc (Nat.le_refl _) _⟩
  have L1 : s1.size ≤ 1048576 := by omega
  have S0 := Sl.Sep.start W
  have S1 := L4.push_box S0 45 #[.slice a0 l0.length c0] (W.heap.size) (by simp)
  clear S0
  go_enter Try.func6, Try.ntmps6
  go_wp2_with fail
  go_at_call 23
  refine (L5.roomRec S1 hR0 1048576 hW0 M0 (by omega) (by omega)).mono ?_
  rintro e w1 ⟨u0, rfl, ro0, hS⟩
  have S2 := hS
  clear hS
  clear S1
  have f0 := (L5.Row.one (L4.box_at S2 0 rfl)).1
  have X0 : -1 ≤ u0 ∧ u0 ≤ 1048576 := ⟨ro0.1, ro0.2.1⟩
  by_cases neg0 : u0 < 0
  · go_wp2_with fail
    go_ret
    exact ⟨rfl, S2.old⟩
  obtain ⟨L0, SM0⟩ := ro0.out neg0 (by omega)
  clear ro0 hW0 M0
  obtain ⟨r0, hr0⟩ : ∃ r : List L5.F, r = L5.remL l0 s1.data.toList := ⟨_, rfl⟩
  have RL0 : r0.length ≤ 1099511627776 := by rw [hr0]; exact by have := List.length_filter_le (L5.keepF s1.data.toList) l0; unfold L5.remL L5.remF; split <;> omega
  obtain ⟨r1, hr1⟩ : ∃ r : Bool, r = L5.remB l0 s1.data.toList := ⟨_, rfl⟩
  have Cspec : ∀ (w : World) (a0 : Option Addr) (c0 : Nat), Sl.Reads w w.heap.size a0 (L5.cellsF l0) → l0.length ≤ c0 → (a0 = none → c0 = 0) → Calls Try.prog 28 #[.agg #[.slice a0 l0.length c0], .string s1] w fun e w' => ∃ ax0 cx0, e = .returned (.tuple #[.agg #[.slice ax0 r0.length cx0], .bool r1]) ∧ Sv.OwnV w' w.heap.size 64 2 ax0 cx0 r0.length (L5.cellsF r0) ∧ Below w.heap.size w w' := by
    rw [hr0, hr1]
    intro w a0 c0 hr0 hc0 hz0
    exact L5.specRemoveField_any a0 c0 l0 s1 (by omega) SM0 w hr0
  have Cimpl : ∀ (w : World) (a0 : Option Addr) (c0 : Nat), Sl.Reads w w.heap.size a0 (L5.cellsF l0) → l0.length ≤ c0 → (a0 = none → c0 = 0) → Calls Try.prog 14 #[.agg #[.slice a0 l0.length c0], .string s1] w fun e w' => ∃ ax0 cx0, e = .returned (.tuple #[.agg #[.slice ax0 r0.length cx0], .bool r1]) ∧ Sv.OwnV w' w.heap.size 64 2 ax0 cx0 r0.length (L5.cellsF r0) ∧ Below w.heap.size w w' := by
    rw [hr0, hr1]
    intro w a0 c0 hr0 hc0 hz0
    exact L5.removeField_any a0 c0 l0 s1 (by omega) SM0 (by omega) w hr0
  clear hr0 hr1 SM0
  replace Cspec := Lib.hid Cspec
  replace Cimpl := Lib.hid Cimpl
  go_wp2_with fail
  go_at_call 24
  refine (L5.copyRec S2 hR0 (by omega)).mono ?_
  rintro e w2 ⟨y1, z1, rfl, hS⟩
  clear f0
  have S3 := hS
  clear hS
  clear S2
  have f0 := (L5.Row.one (L4.box_at S3 0 rfl)).1
  go_wp2_with fail
  go_at_call 28
  refine (Cspec.out _ _ _ ((Sv.own_at S3 1 rfl).reads) ((Sv.own_at S3 1 rfl).cap) (L5.own_zero (Sv.own_at S3 1 rfl))).mono ?_
  rintro e w3 ⟨y2, z2, rfl, ho, hb⟩
  clear f0
  have S4 := Sv.push_own S3 hb ho
  clear S3
  clear hb ho
  have f0 := (L5.Row.one (L4.box_at S4 0 rfl)).1
  clear f0
  have S5 := L4.push_box S4 26 #[.slice y2 r0.length z2] _ rfl
  clear S4
  have f0 := (L5.Row.one (L4.box_at S5 0 rfl)).1
  have f3 := (L5.Row.one (L4.box_at S5 3 rfl)).1
  go_wp2_with fail
  go_at_call 24
  refine (L5.copyRec S5 hR0 (by omega)).mono ?_
  rintro e w4 ⟨y4, z4, rfl, hS⟩
  clear f0 f3
  have S6 := hS
  clear hS
  clear S5
  have f0 := (L5.Row.one (L4.box_at S6 0 rfl)).1
  have f3 := (L5.Row.one (L4.box_at S6 3 rfl)).1
  clear f0 f3
  have S7 := L4.push_box S6 26 #[.slice y4 l0.length z4] _ rfl
  clear S6
  have f0 := (L5.Row.one (L4.box_at S7 0 rfl)).1
  have f3 := (L5.Row.one (L4.box_at S7 3 rfl)).1
  have f5 := (L5.Row.one (L4.box_at S7 5 rfl)).1
  go_wp2_with fail
  go_at_call 14
  refine (Cimpl.out _ _ _ ((Sv.own_at S7 4 rfl).reads) ((Sv.own_at S7 4 rfl).cap) (L5.own_zero (Sv.own_at S7 4 rfl))).mono ?_
  rintro e w5 ⟨y6, z6, rfl, ho, hb⟩
  clear f0 f3 f5
  have S8 := Sv.push_own S7 hb ho
  clear S7
  clear hb ho
  have f0 := (L5.Row.one (L4.box_at S8 0 rfl)).1
  have f3 := (L5.Row.one (L4.box_at S8 3 rfl)).1
  have f5 := (L5.Row.one (L4.box_at S8 5 rfl)).1
  clear f0 f3 f5
  have S9 := L4.push_box S8 26 #[.slice y6 r0.length z6] _ rfl
  clear S8
  have f0 := (L5.Row.one (L4.box_at S9 0 rfl)).1
  have f3 := (L5.Row.one (L4.box_at S9 3 rfl)).1
  have f5 := (L5.Row.one (L4.box_at S9 5 rfl)).1
  have f7 := (L5.Row.one (L4.box_at S9 7 rfl)).1
  go_wp2_with fail
  go_at_call 25
  refine (L5.eqRec S9 6 2 rfl rfl (by omega)).mono ?_
  rintro e w6 ⟨rfl, hS⟩
  clear f0 f3 f5 f7
  have S10 := hS
  clear hS
  clear S9
  have f0 := (L5.Row.one (L4.box_at S10 0 rfl)).1
  have f3 := (L5.Row.one (L4.box_at S10 3 rfl)).1
  have f5 := (L5.Row.one (L4.box_at S10 5 rfl)).1
  have f7 := (L5.Row.one (L4.box_at S10 7 rfl)).1
  go_wp2_with fail
  have SS := S10
  clear S10
  go_region_held3 (fun w' => w'.cell? ⟨W.heap.size, 0, none⟩ = some (.slice a0 l0.length c0) ∧ w'.cell? ⟨w4.heap.size, 0, none⟩ = some (.slice y4 l0.length z4)) (first | exact ⟨f0, f5⟩ | exact f0 | go_keep)
    (first
      | (go_at_call 24; with_reducible refine (L5.copyRec SS hR0 (by omega)).mono ?_; rintro e ww ⟨y8, z8, rfl, hS⟩; have SS := hS; clear hS; have f0 := (L5.Row.one (L4.box_at SS 0 rfl)).1; have f5 := (L5.Row.one (L4.box_at SS 5 rfl)).1)
      | (go_at_call 24; with_reducible refine (L5.copyRec (drew1 SS) hR0 (by omega)).mono ?_; rintro e ww ⟨y8, z8, rfl, hS⟩; have SS := hS; clear hS; have f0 := (L5.Row.one (L4.box_at SS 0 rfl)).1; have f5 := (L5.Row.one (L4.box_at SS 5 rfl)).1)
      | (go_at_call 25; with_reducible refine (L5.eqRec SS 4 8 rfl rfl (by omega)).mono ?_; rintro e ww ⟨rfl, hS⟩; have SS := hS; clear hS; have f0 := (L5.Row.one (L4.box_at SS 0 rfl)).1; have f5 := (L5.Row.one (L4.box_at SS 5 rfl)).1)
      | (go_at_call 25; with_reducible refine (L5.eqRec (drew1 SS) 4 8 rfl rfl (by omega)).mono ?_; rintro e ww ⟨rfl, hS⟩; have SS := hS; clear hS; have f0 := (L5.Row.one (L4.box_at SS 0 rfl)).1; have f5 := (L5.Row.one (L4.box_at SS 5 rfl)).1))
  all_goals
    have S11 := SS
    clear SS
    clear f0 f3 f5 f7
    have f0 := (L5.Row.one (L4.box_at S11 0 rfl)).1
    have f3 := (L5.Row.one (L4.box_at S11 3 rfl)).1
    have f5 := (L5.Row.one (L4.box_at S11 5 rfl)).1
    have f7 := (L5.Row.one (L4.box_at S11 7 rfl)).1
    go_wp2_with fail
    go_at_call 26
    refine (L5.markRec S11 4 rfl _ (by omega) (by omega) (by omega)).mono ?_
    rintro e w7 ⟨rfl, hS⟩
    clear f0 f3 f5 f7
    have S12 := hS
    clear hS
    clear S11
    have f0 := (L5.Row.one (L4.box_at S12 0 rfl)).1
    have f3 := (L5.Row.one (L4.box_at S12 3 rfl)).1
    have f5 := (L5.Row.one (L4.box_at S12 5 rfl)).1
    have f7 := (L5.Row.one (L4.box_at S12 7 rfl)).1
    go_wp2_with fail
    go_at_call 25
    refine (L5.eqRec S12 6 2 rfl rfl (by omega)).mono ?_
    rintro e w8 ⟨rfl, hS⟩
    clear f0 f3 f5 f7
    have S13 := hS
    clear hS
    clear S12
    have f0 := (L5.Row.one (L4.box_at S13 0 rfl)).1
    have f3 := (L5.Row.one (L4.box_at S13 3 rfl)).1
    have f5 := (L5.Row.one (L4.box_at S13 5 rfl)).1
    have f7 := (L5.Row.one (L4.box_at S13 7 rfl)).1
    go_wp2_with fail
    go_at_call 26
    refine (L5.markRec S13 6 rfl _ (by omega) (by omega) (by omega)).mono ?_
    rintro e w9 ⟨rfl, hS⟩
    clear f0 f3 f5 f7
    have S14 := hS
    clear hS
    clear S13
    have f0 := (L5.Row.one (L4.box_at S14 0 rfl)).1
    have f3 := (L5.Row.one (L4.box_at S14 3 rfl)).1
    have f5 := (L5.Row.one (L4.box_at S14 5 rfl)).1
    have f7 := (L5.Row.one (L4.box_at S14 7 rfl)).1
    go_wp2_with fail
    go_at_call 27
    refine (L5.heldRec S14 6 _ rfl (by omega) (by omega) (by omega)).mono ?_
    rintro e w10 ⟨rfl, hS⟩
    clear f0 f3 f5 f7
    have S15 := hS
    clear hS
    clear S14
    have f0 := (L5.Row.one (L4.box_at S15 0 rfl)).1
    have f3 := (L5.Row.one (L4.box_at S15 3 rfl)).1
    have f5 := (L5.Row.one (L4.box_at S15 5 rfl)).1
    have f7 := (L5.Row.one (L4.box_at S15 7 rfl)).1
    go_wp2_with fail
    go_at_call 24
    refine (L5.copyRec S15 hR0 (by omega)).mono ?_
    rintro e w11 ⟨y9, z9, rfl, hS⟩
    clear f0 f3 f5 f7
    have S16 := hS
    clear hS
    clear S15
    have f0 := (L5.Row.one (L4.box_at S16 0 rfl)).1
    have f3 := (L5.Row.one (L4.box_at S16 3 rfl)).1
    have f5 := (L5.Row.one (L4.box_at S16 5 rfl)).1
    have f7 := (L5.Row.one (L4.box_at S16 7 rfl)).1
    go_wp2_with fail
    go_at_call 14
    refine (Cimpl.out _ _ _ ((Sv.own_at S16 9 rfl).reads) ((Sv.own_at S16 9 rfl).cap) (L5.own_zero (Sv.own_at S16 9 rfl))).mono ?_
    rintro e w12 ⟨y10, z10, rfl, ho, hb⟩
    clear f0 f3 f5 f7
    have S17 := Sv.push_own S16 hb ho
    clear S16
    clear hb ho
    have f0 := (L5.Row.one (L4.box_at S17 0 rfl)).1
    have f3 := (L5.Row.one (L4.box_at S17 3 rfl)).1
    have f5 := (L5.Row.one (L4.box_at S17 5 rfl)).1
    have f7 := (L5.Row.one (L4.box_at S17 7 rfl)).1
    clear f0 f3 f5 f7
    have S18 := L4.push_box S17 26 #[.slice y10 r0.length z10] _ rfl
    clear S17
    have f0 := (L5.Row.one (L4.box_at S18 0 rfl)).1
    have f3 := (L5.Row.one (L4.box_at S18 3 rfl)).1
    have f5 := (L5.Row.one (L4.box_at S18 5 rfl)).1
    have f7 := (L5.Row.one (L4.box_at S18 7 rfl)).1
    have f11 := (L5.Row.one (L4.box_at S18 11 rfl)).1
    go_wp2_with fail
    go_at_call 25
    refine (L5.eqRec S18 10 2 rfl rfl (by omega)).mono ?_
    rintro e w13 ⟨rfl, hS⟩
    clear f0 f3 f5 f7 f11
    have S19 := hS
    clear hS
    clear S18
    have f0 := (L5.Row.one (L4.box_at S19 0 rfl)).1
    have f3 := (L5.Row.one (L4.box_at S19 3 rfl)).1
    have f5 := (L5.Row.one (L4.box_at S19 5 rfl)).1
    have f7 := (L5.Row.one (L4.box_at S19 7 rfl)).1
    have f11 := (L5.Row.one (L4.box_at S19 11 rfl)).1
    go_wp2_with fail
    go_at_call 27
    refine (L5.heldRec S19 6 _ rfl (by omega) (by omega) (by omega)).mono ?_
    rintro e w14 ⟨rfl, hS⟩
    clear f0 f3 f5 f7 f11
    have S20 := hS
    clear hS
    clear S19
    have f0 := (L5.Row.one (L4.box_at S20 0 rfl)).1
    have f3 := (L5.Row.one (L4.box_at S20 3 rfl)).1
    have f5 := (L5.Row.one (L4.box_at S20 5 rfl)).1
    have f7 := (L5.Row.one (L4.box_at S20 7 rfl)).1
    have f11 := (L5.Row.one (L4.box_at S20 11 rfl)).1
    go_wp2_with fail
    go_ret
    exact ⟨rfl, S20.old⟩

set_option maxRecDepth 100000 in
theorem lifted (os : Os) (started : os.Started) (H : Type) (enc : TypeId × Value → H) :
    ReturnsInHanded {} Try.checked os 6 .any (Rows.fnExactRemoveFieldSpec.pre6 enc Try.prog Try.f6 Rows.fnExactRemoveFieldRow.domain false) (Rows.fnExactRemoveFieldSpec.post enc Try.prog Try.f6 false true false false) := by
  refine returnsInHanded_of_change_sized (C := Try.checked) own started (by kernel_rfl) Try.func6
    (ChangeSpec.witness6 (enc := enc) (C := Try.checked) false ⟨#[], #[.agg #[.slice none 0 0], .string ⟨#[]⟩], []⟩ 8 (by kernel_rfl) (by kernel_rfl) (by kernel_rfl) (by kernel_rfl)) ?_
  intro W base args ds gs before hval0 hW _ hsz0 _
  have hval : ∀ (j : Nat) t v, Try.f6.params[j]? = some t → args[j]? = some v → Value.okWide Try.prog W .any base t v := hval0
  have hW' := hW
  obtain ⟨p, q, hA0, hV, rfl, _, _⟩ := hW
  have hA : DataW.TrodAll enc Try.prog W 0 (fun _ => true) true Try.f6.params.toList args.toList ds p := hA0
  obtain ⟨rfl, rfl⟩ := trodVars_none hV
  have hlt : ∀ x ∈ p, x.block < W.heap.size := fun x hx => hW'.lt x (by simpa using hx)
  simp only [List.append_nil] at hW'
  have hw := walk H enc W base args ds p hval hA hlt hsz0
  have hA1 := hA
  clear hA0 hval0 hsz0 hval hlt
  rw [Try.params6] at hA
  obtain ⟨v0, vs0, d0, ds0, p0, q0, e0, rfl, rfl, h0, hr0⟩ := trodAll_cons hA
  obtain ⟨v1, vs1, d1, ds1, p1, q1, e1, rfl, rfl, h1, hr1⟩ := trodAll_cons hr0
  obtain ⟨e2, rfl, rfl⟩ := trodAll_nil hr1
  refine hw.mono fun e W' ⟨he, hb⟩ => ?_
  subst he
  exact ⟨_, rfl, Frame.law_post (tb := 4) rfl hW' hA1 rfl rfl rfl laidOut (by kernel_rfl) (by kernel_rfl) Try.underlying4 hb⟩

theorem holds : Rows.FnExactRemoveFieldSaid :=
  OpenClaim.holds_of_wide 6 Try.f6 rfl rfl rfl rfl rfl rfl rfl ⟨rfl, rfl, rfl, rfl, rfl⟩ rfl rfl rfl rfl rfl (by kernel_rfl) Try.func6 (by kernel_rfl)
    (of_decide_eq_true (by kernel_rfl)) (by unfold Func.isWrapper; first | (rw [if_pos (by decide +kernel)]; kernel_rfl) | (rw [if_neg (by decide +kernel)]; exact ⟨rfl, rfl⟩))
    (fun os started H enc _ => lifted os started H enc)

#print axioms holds
end Go.Proofs.Ytephiilicebdcaa.lawFnExactRemoveField
