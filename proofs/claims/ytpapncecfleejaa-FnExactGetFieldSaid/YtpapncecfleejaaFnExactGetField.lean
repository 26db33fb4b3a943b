/-
  The law FnExactGetField answers true for every argument, and leaves its arguments as they were. No condition.
  (The frame is written by my program mk_law.py.)
-/
import Derived.Test.YtpapncecfleejaaFrame
import Derived.SizedLaws
import Derived.LaidLaws
import Derived.ShutString
import Derived.Stop.LaidErr
import Derived.Lib.LaidTab
import Derived.Test.YtpapncecfleejaaL5Law
import Derived.Deep.RegionHeld3
import Derived.Test.YtpapncecfleejaaL5Ia
namespace Go.Proofs.Ytpapncecfleejaa.lawFnExactGetField
open Go.ChangeShapes Go.WideShapes Go.ChangeAt Go.RowKit
open Go.ChangeMaps (open_string shut_string)
set_option linter.unusedVariables false
theorem own : ownKnob Try.prog.godebug = none := by kernel_rfl
theorem laidOut : laidOutB Try.prog = true := by kernel_rfl
open Mem
theorem drew1 {W w : World} {rs : List Sl.Res} (h : Sl.Sep W w rs) : Sl.Sep W w.drew rs := h.drews 1
set_option maxRecDepth 100000 in
set_option maxHeartbeats 8000000 in
theorem walk (H : Type) (enc : TypeId × Value → H) (W : World) (base : Nat) (args : Array Value) (ds : List (DataW H)) (p : List MemPlace)
    (hval : ∀ (j : Nat) t v, Try.f7.params[j]? = some t → args[j]? = some v → Value.okWide Try.prog W .any base t v)
    (hA : DataW.TrodAll enc Try.prog W 0 (fun _ => true) true Try.f7.params.toList args.toList ds p)
    (hlt : ∀ x ∈ p, x.block < W.heap.size)
    (hsz : (DataW.weightsEach Try.prog (Try.f7.params.toList ++ Rows.fnExactGetFieldSpec.plain.varTypes Try.prog) (ds ++ [])).all (· ≤ reachBytes) = true) :
    Calls Try.prog 7 args W fun e w' => e = .returned (.bool true) ∧ Below W.heap.size W w' := by
  rw [Try.params7] at hA hval hsz
  obtain ⟨v0, vs0, d0, ds0, p0, q0, e0, rfl, rfl, h0, g0⟩ := trodAll_cons hA
  obtain ⟨v1, vs1, d1, ds1, p1, q1, e1, rfl, rfl, h1, g1⟩ := trodAll_cons g0
  obtain ⟨ez, rfl, rfl⟩ := trodAll_nil g1
  subst ez
  subst e1
  obtain rfl : args = #[v0, v1] := Array.toList_inj.1 e0
  clear e0
  obtain ⟨a0, l0, c0, rfl, hR0, hW0, M0⟩ := L5.open_record (hval 0 46 v0 rfl rfl) h0 (fun x hx => hlt x (by simp [hx]))
  obtain ⟨s1, rfl, -, -, hs1⟩ := open_string Try.underlying9 (hval 1 9 v1 rfl rfl) h1
  clear hval hA hlt hsz h0 h1
  by_cases G1 : (s1.size : Int) > 1048576
  · go_enter Try.func7, Try.ntmps7
    go_wp2_with fail
    go_ret
    exact ⟨rfl, (Below.refl _ _).alloc (Nat.le_refl _) _⟩
  have L1 : s1.size ≤ 1048576 := by omega
  have S0 := Sl.Sep.start W
  have S1 := L4.push_box S0 46 #[.slice a0 l0.length c0] (W.heap.size) (by simp)
  clear S0
  go_enter Try.func7, Try.ntmps7
  go_wp2_with fail
  go_at_call 31
  refine (L5.roomRec S1 hR0 1048576 hW0 M0 (by omega) (by omega)).mono ?_
  rintro e w1 ⟨u0, rfl, ro0, hS⟩
  have S2 := hS
  clear hS
  clear S1
  have f0 := (L5.Row.one (L4.box_at S2 0 rfl)).1
  have X0 : -1 ≤ u0 ∧ u0 ≤ 1048576 := ⟨ro0.1, ro0.2.1⟩
  by_cases neg0 : u0 < 0
  · go_wp2_with fail
    go_ret
    exact ⟨rfl, S2.old⟩
  obtain ⟨L0, SM0⟩ := ro0.out neg0 (by omega)
  clear ro0 hW0 M0
  obtain ⟨r0, hr0⟩ : ∃ r : Int, r = L5.getN l0 s1.data.toList := ⟨_, rfl⟩
  obtain ⟨r1, hr1⟩ : ∃ r : Bool, r = L5.getB l0 s1.data.toList := ⟨_, rfl⟩
  have Cspec : ∀ (w : World) (a0 : Option Addr) (c0 : Nat), Sl.Reads w w.heap.size a0 (L5.cellsF l0) → l0.length ≤ c0 → (a0 = none → c0 = 0) → Calls Try.prog 35 #[.agg #[.slice a0 l0.length c0], .string s1] w fun e w' => e = .returned (.tuple #[.int .i64 r0, .bool r1]) ∧ Below w.heap.size w w' := by
    rw [hr0, hr1]
    intro w a0 c0 hr0 hc0 hz0
    exact L5.specGetField_any a0 c0 l0 s1 (by omega) w hr0
  have Cimpl : ∀ (w : World) (a0 : Option Addr) (c0 : Nat), Sl.Reads w w.heap.size a0 (L5.cellsF l0) → l0.length ≤ c0 → (a0 = none → c0 = 0) → Calls Try.prog 19 #[.agg #[.slice a0 l0.length c0], .string s1] w fun e w' => e = .returned (.tuple #[.int .i64 r0, .bool r1]) ∧ Below w.heap.size w w' := by
    rw [hr0, hr1]
    intro w a0 c0 hr0 hc0 hz0
    exact L5.getField_any a0 c0 l0 s1 (by omega) w hr0
  clear hr0 hr1 SM0
  replace Cspec := Lib.hid Cspec
  replace Cimpl := Lib.hid Cimpl
  go_wp2_with fail
  go_at_call 33
  refine (L5.copyRec S2 hR0 (by omega)).mono ?_
  rintro e w2 ⟨y1, z1, rfl, hS⟩
  clear f0
  have S3 := hS
  clear hS
  clear S2
  have f0 := (L5.Row.one (L4.box_at S3 0 rfl)).1
  go_wp2_with fail
  go_at_call 35
  refine (Cspec.out _ _ _ ((Sv.own_at S3 1 rfl).reads) ((Sv.own_at S3 1 rfl).cap) (L5.own_zero (Sv.own_at S3 1 rfl))).mono ?_
  rintro e w3 ⟨rfl, hb⟩
  clear f0
  have S4 := Sl.Sep.keep S3 hb
  clear S3
  clear hb
  have f0 := (L5.Row.one (L4.box_at S4 0 rfl)).1
  go_wp2_with fail
  go_at_call 33
  refine (L5.copyRec S4 hR0 (by omega)).mono ?_
  rintro e w4 ⟨y2, z2, rfl, hS⟩
  clear f0
  have S5 := hS
  clear hS
  clear S4
  have f0 := (L5.Row.one (L4.box_at S5 0 rfl)).1
  clear f0
  have S6 := L4.push_box S5 26 #[.slice y2 l0.length z2] _ rfl
  clear S5
  have f0 := (L5.Row.one (L4.box_at S6 0 rfl)).1
  have f3 := (L5.Row.one (L4.box_at S6 3 rfl)).1
  go_wp2_with fail
  go_at_call 19
  refine (Cimpl.out _ _ _ ((Sv.own_at S6 2 rfl).reads) ((Sv.own_at S6 2 rfl).cap) (L5.own_zero (Sv.own_at S6 2 rfl))).mono ?_
  rintro e w5 ⟨rfl, hb⟩
  clear f0 f3
  have S7 := Sl.Sep.keep S6 hb
  clear S6
  clear hb
  have f0 := (L5.Row.one (L4.box_at S7 0 rfl)).1
  have f3 := (L5.Row.one (L4.box_at S7 3 rfl)).1
  go_wp2_with fail
  have SS := S7
  clear S7
  go_region_held3 (fun w' => w'.cell? ⟨W.heap.size, 0, none⟩ = some (.slice a0 l0.length c0) ∧ w'.cell? ⟨w4.heap.size, 0, none⟩ = some (.slice y2 l0.length z2)) (first | exact ⟨f0, f3⟩ | exact f0 | go_keep)
    (first
      | (go_at_call 33; with_reducible refine (L5.copyRec SS hR0 (by omega)).mono ?_; rintro e ww ⟨y4, z4, rfl, hS⟩; have SS := hS; clear hS; have f0 := (L5.Row.one (L4.box_at SS 0 rfl)).1; have f3 := (L5.Row.one (L4.box_at SS 3 rfl)).1)
      | (go_at_call 33; with_reducible refine (L5.copyRec (drew1 SS) hR0 (by omega)).mono ?_; rintro e ww ⟨y4, z4, rfl, hS⟩; have SS := hS; clear hS; have f0 := (L5.Row.one (L4.box_at SS 0 rfl)).1; have f3 := (L5.Row.one (L4.box_at SS 3 rfl)).1)
      | (go_at_call 34; with_reducible refine (L5.eqRec SS 2 4 rfl rfl (by omega)).mono ?_; rintro e ww ⟨rfl, hS⟩; have SS := hS; clear hS; have f0 := (L5.Row.one (L4.box_at SS 0 rfl)).1; have f3 := (L5.Row.one (L4.box_at SS 3 rfl)).1)
      | (go_at_call 34; with_reducible refine (L5.eqRec (drew1 SS) 2 4 rfl rfl (by omega)).mono ?_; rintro e ww ⟨rfl, hS⟩; have SS := hS; clear hS; have f0 := (L5.Row.one (L4.box_at SS 0 rfl)).1; have f3 := (L5.Row.one (L4.box_at SS 3 rfl)).1))
  all_goals
    have S8 := SS
    clear SS
    clear f0 f3
    have f0 := (L5.Row.one (L4.box_at S8 0 rfl)).1
    have f3 := (L5.Row.one (L4.box_at S8 3 rfl)).1
    go_wp2_with fail
    go_ret
    exact ⟨rfl, S8.old⟩

set_option maxRecDepth 100000 in
theorem lifted (os : Os) (started : os.Started) (H : Type) (enc : TypeId × Value → H) :
    ReturnsInHanded {} Try.checked os 7 .any (Rows.fnExactGetFieldSpec.pre6 enc Try.prog Try.f7 Rows.fnExactGetFieldRow.domain false) (Rows.fnExactGetFieldSpec.post enc Try.prog Try.f7 false true false false) := by
  refine returnsInHanded_of_change_sized (C := Try.checked) own started (by kernel_rfl) Try.func7
    (ChangeSpec.witness6 (enc := enc) (C := Try.checked) false ⟨#[], #[.agg #[.slice none 0 0], .string ⟨#[]⟩], []⟩ 8 (by kernel_rfl) (by kernel_rfl) (by kernel_rfl) (by kernel_rfl)) ?_
  intro W base args ds gs before hval0 hW _ hsz0 _
  have hval : ∀ (j : Nat) t v, Try.f7.params[j]? = some t → args[j]? = some v → Value.okWide Try.prog W .any base t v := hval0
  have hW' := hW
  obtain ⟨p, q, hA0, hV, rfl, _, _⟩ := hW
  have hA : DataW.TrodAll enc Try.prog W 0 (fun _ => true) true Try.f7.params.toList args.toList ds p := hA0
  obtain ⟨rfl, rfl⟩ := trodVars_none hV
  have hlt : ∀ x ∈ p, x.block < W.heap.size := fun x hx => hW'.lt x (by simpa using hx)
  simp only [List.append_nil] at hW'
  have hw := walk H enc W base args ds p hval hA hlt hsz0
  have hA1 := hA
  clear hA0 hval0 hsz0 hval hlt
  rw [Try.params7] at hA
  obtain ⟨v0, vs0, d0, ds0, p0, q0, e0, rfl, rfl, h0, hr0⟩ := trodAll_cons hA
  obtain ⟨v1, vs1, d1, ds1, p1, q1, e1, rfl, rfl, h1, hr1⟩ := trodAll_cons hr0
  obtain ⟨e2, rfl, rfl⟩ := trodAll_nil hr1
  refine hw.mono fun e W' ⟨he, hb⟩ => ?_
  subst he
  exact ⟨_, rfl, Frame.law_post (tb := 4) rfl hW' hA1 rfl rfl rfl laidOut (by kernel_rfl) (by kernel_rfl) Try.underlying4 hb⟩

theorem holds : Rows.FnExactGetFieldSaid :=
  OpenClaim.holds_of_wide 7 Try.f7 rfl rfl rfl rfl rfl rfl rfl ⟨rfl, rfl, rfl, rfl, rfl⟩ rfl rfl rfl rfl rfl (by kernel_rfl) Try.func7 (by kernel_rfl)
    (of_decide_eq_true (by kernel_rfl)) (by unfold Func.isWrapper; first | (rw [if_pos (by decide +kernel)]; kernel_rfl) | (rw [if_neg (by decide +kernel)]; exact ⟨rfl, rfl⟩))
    (fun os started H enc _ => lifted os started H enc)

#print axioms holds
end Go.Proofs.Ytpapncecfleejaa.lawFnExactGetField
