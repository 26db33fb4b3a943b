/-
  The law FnExactDecodeRecord answers true for every argument, and leaves its arguments as they were. No condition.
  (The frame is written by my program mk_law.py.)
-/
import Derived.Test.YtpapncecfleejaaFrame
import Derived.SizedLaws
import Derived.LaidLaws
import Derived.ShutString
import Derived.Stop.LaidErr
import Derived.Lib.LaidTab
import Derived.Test.YtpapncecfleejaaL5Law
import Derived.Deep.RegionHeld3
import Derived.Test.YtpapncecfleejaaL5Ig
namespace Go.Proofs.Ytpapncecfleejaa.lawFnExactDecodeRecord
open Go.ChangeShapes Go.WideShapes Go.ChangeAt Go.RowKit
open Go.ChangeMaps (open_string shut_string)
set_option linter.unusedVariables false
theorem own : ownKnob Try.prog.godebug = none := by kernel_rfl
theorem laidOut : laidOutB Try.prog = true := by kernel_rfl
open Mem
theorem drew1 {W w : World} {rs : List Sl.Res} (h : Sl.Sep W w rs) : Sl.Sep W w.drew rs := h.drews 1
theorem decL_len {l : List Int} (hl : L2.Byt l) : (L5.decL l).length ≤ 1099511627776 := by
  unfold L5.decL
  cases h : L5.decR l with
  | none => simp
  | some fs =>
    have := (L5.isR_iff.1 (L5.decR_out hl h).1).2
    simp only [Option.getD_some]
    omega
set_option maxRecDepth 100000 in
set_option maxHeartbeats 8000000 in
theorem walk (H : Type) (enc : TypeId × Value → H) (W : World) (base : Nat) (args : Array Value) (ds : List (DataW H)) (p : List MemPlace)
    (hval : ∀ (j : Nat) t v, Try.f11.params[j]? = some t → args[j]? = some v → Value.okWide Try.prog W .any base t v)
    (hA : DataW.TrodAll enc Try.prog W 0 (fun _ => true) true Try.f11.params.toList args.toList ds p)
    (hlt : ∀ x ∈ p, x.block < W.heap.size)
    (hsz : (DataW.weightsEach Try.prog (Try.f11.params.toList ++ Rows.fnExactDecodeRecordSpec.plain.varTypes Try.prog) (ds ++ [])).all (· ≤ reachBytes) = true) :
    Calls Try.prog 11 args W fun e w' => e = .returned (.bool true) ∧ Below W.heap.size W w' := by
  rw [Try.params11] at hA hval hsz
  obtain ⟨v0, vs0, d0, ds0, p0, q0, e0, rfl, rfl, h0, g0⟩ := trodAll_cons hA
  obtain ⟨ez, rfl, rfl⟩ := trodAll_nil g0
  subst ez
  obtain rfl : args = #[v0] := Array.toList_inj.1 e0
  clear e0
  obtain ⟨a0, l0, c0, rfl, hC0, -, hR0, hW0⟩ := Law.open_list Try.underlying22 Try.underlying5 (by kernel_rfl) (hval 0 22 v0 rfl rfl) h0 (fun x hx => hlt x (by simp [hx]))
  have W0 := fun x hx => Law.wf_u8 (hW0 x hx)
  clear hW0
  clear hval hA hlt hsz h0
  by_cases G0 : (l0.length : Int) > 1048576
  · go_enter Try.func11, Try.ntmps11
    go_wp2_with fail
    go_ret
    exact ⟨rfl, Below.refl _ _⟩
  have L0 : l0.length ≤ 1048576 := by omega
  have S0 := Sl.Sep.start W
  go_enter Try.func11, Try.ntmps11
  obtain ⟨r0, hr0⟩ : ∃ r : List L5.F, r = L5.decL l0 := ⟨_, rfl⟩
  have RL0 : r0.length ≤ 1099511627776 := by rw [hr0]; exact decL_len W0
  obtain ⟨r1, hr1⟩ : ∃ r : Bool, r = L5.decB l0 := ⟨_, rfl⟩
  have Cspec : ∀ (w : World) (a0 : Option Addr) (c0 : Nat), Sl.Reads w w.heap.size a0 (Sl.ints .u8 l0) → l0.length ≤ c0 → Calls Try.prog 43 #[.slice a0 l0.length c0] w fun e w' => ∃ ax0 cx0, e = .returned (.tuple #[.agg #[.slice ax0 r0.length cx0], .bool r1]) ∧ Sv.OwnV w' w.heap.size 68 2 ax0 cx0 r0.length (L5.cellsF r0) ∧ Below w.heap.size w w' := by
    rw [hr0, hr1]
    intro w a0 c0 hr0 hc0
    exact L5.specDecodeRecord_any a0 c0 l0 w hr0 W0 hc0 (by omega)
  have Cimpl : ∀ (w : World) (a0 : Option Addr) (c0 : Nat), Sl.Reads w w.heap.size a0 (Sl.ints .u8 l0) → l0.length ≤ c0 → Calls Try.prog 21 #[.slice a0 l0.length c0] w fun e w' => ∃ ax0 cx0, e = .returned (.tuple #[.agg #[.slice ax0 r0.length cx0], .bool r1]) ∧ Sv.OwnV w' w.heap.size 68 2 ax0 cx0 r0.length (L5.cellsF r0) ∧ Below w.heap.size w w' := by
    rw [hr0, hr1]
    intro w a0 c0 hr0 hc0
    exact L5.decodeRecord_any a0 c0 l0 w hr0 W0 hc0 (by omega)
  clear hr0 hr1 W0 hC0
  replace Cspec := Lib.hid Cspec
  replace Cimpl := Lib.hid Cimpl
  go_wp2_with fail
  go_at_call 44
  refine (Law.copyByteS S0 hR0 (by omega)).mono ?_
  rintro e w1 ⟨y0, z0, rfl, hS⟩
  have S1 := hS
  clear hS
  clear S0
  go_wp2_with fail
  go_at_call 43
  refine (Cspec.out _ _ _ ((S1.own 0 rfl).reads) ((S1.own 0 rfl).cap)).mono ?_
  rintro e w2 ⟨y1, z1, rfl, ho, hb⟩
  have S2 := Sv.push_own S1 hb ho
  clear S1
  clear hb ho
  have S3 := L4.push_box S2 26 #[.slice y1 r0.length z1] _ rfl
  clear S2
  have f2 := (L5.Row.one (L4.box_at S3 2 rfl)).1
  go_wp2_with fail
  go_at_call 44
  refine (Law.copyByteS S3 hR0 (by omega)).mono ?_
  rintro e w3 ⟨y3, z3, rfl, hS⟩
  clear f2
  have S4 := hS
  clear hS
  clear S3
  have f2 := (L5.Row.one (L4.box_at S4 2 rfl)).1
  go_wp2_with fail
  go_at_call 21
  refine (Cimpl.out _ _ _ ((S4.own 3 rfl).reads) ((S4.own 3 rfl).cap)).mono ?_
  rintro e w4 ⟨y4, z4, rfl, ho, hb⟩
  clear f2
  have S5 := Sv.push_own S4 hb ho
  clear S4
  clear hb ho
  have f2 := (L5.Row.one (L4.box_at S5 2 rfl)).1
  clear f2
  have S6 := L4.push_box S5 26 #[.slice y4 r0.length z4] _ rfl
  clear S5
  have f2 := (L5.Row.one (L4.box_at S6 2 rfl)).1
  have f5 := (L5.Row.one (L4.box_at S6 5 rfl)).1
  go_wp2_with fail
  go_at_call 34
  refine (L5.eqRec S6 4 1 rfl rfl (by omega)).mono ?_
  rintro e w5 ⟨rfl, hS⟩
  clear f2 f5
  have S7 := hS
  clear hS
  clear S6
  have f2 := (L5.Row.one (L4.box_at S7 2 rfl)).1
  have f5 := (L5.Row.one (L4.box_at S7 5 rfl)).1
  go_wp2_with fail
  go_at_call 44
  refine (Law.copyByteS S7 hR0 (by omega)).mono ?_
  rintro e w6 ⟨y6, z6, rfl, hS⟩
  clear f2 f5
  have S8 := hS
  clear hS
  clear S7
  have f2 := (L5.Row.one (L4.box_at S8 2 rfl)).1
  have f5 := (L5.Row.one (L4.box_at S8 5 rfl)).1
  go_wp2_with fail
  go_at_call 40
  refine (Law.eqByteS S8 3 6 rfl rfl (by omega)).mono ?_
  rintro e w7 ⟨rfl, hS⟩
  clear f2 f5
  have S9 := hS
  clear hS
  clear S8
  have f2 := (L5.Row.one (L4.box_at S9 2 rfl)).1
  have f5 := (L5.Row.one (L4.box_at S9 5 rfl)).1
  go_wp2_with fail
  go_at_call 41
  refine (Law.markByteS S9 3 rfl _ (by omega) (by omega) (by omega)).mono ?_
  rintro e w8 ⟨rfl, hS⟩
  clear f2 f5
  have S10 := hS
  clear hS
  clear S9
  have f2 := (L5.Row.one (L4.box_at S10 2 rfl)).1
  have f5 := (L5.Row.one (L4.box_at S10 5 rfl)).1
  go_wp2_with fail
  go_at_call 34
  refine (L5.eqRec S10 4 1 rfl rfl (by omega)).mono ?_
  rintro e w9 ⟨rfl, hS⟩
  clear f2 f5
  have S11 := hS
  clear hS
  clear S10
  have f2 := (L5.Row.one (L4.box_at S11 2 rfl)).1
  have f5 := (L5.Row.one (L4.box_at S11 5 rfl)).1
  go_wp2_with fail
  go_at_call 36
  refine (L5.markRec S11 4 rfl _ (by omega) (by omega) (by omega)).mono ?_
  rintro e w10 ⟨rfl, hS⟩
  clear f2 f5
  have S12 := hS
  clear hS
  clear S11
  have f2 := (L5.Row.one (L4.box_at S12 2 rfl)).1
  have f5 := (L5.Row.one (L4.box_at S12 5 rfl)).1
  go_wp2_with fail
  go_at_call 37
  refine (L5.heldRec S12 4 _ rfl (by omega) (by omega) (by omega)).mono ?_
  rintro e w11 ⟨rfl, hS⟩
  clear f2 f5
  have S13 := hS
  clear hS
  clear S12
  have f2 := (L5.Row.one (L4.box_at S13 2 rfl)).1
  have f5 := (L5.Row.one (L4.box_at S13 5 rfl)).1
  go_wp2_with fail
  go_at_call 44
  refine (Law.copyByteS S13 hR0 (by omega)).mono ?_
  rintro e w12 ⟨y7, z7, rfl, hS⟩
  clear f2 f5
  have S14 := hS
  clear hS
  clear S13
  have f2 := (L5.Row.one (L4.box_at S14 2 rfl)).1
  have f5 := (L5.Row.one (L4.box_at S14 5 rfl)).1
  go_wp2_with fail
  go_at_call 21
  refine (Cimpl.out _ _ _ ((S14.own 7 rfl).reads) ((S14.own 7 rfl).cap)).mono ?_
  rintro e w13 ⟨y8, z8, rfl, ho, hb⟩
  clear f2 f5
  have S15 := Sv.push_own S14 hb ho
  clear S14
  clear hb ho
  have f2 := (L5.Row.one (L4.box_at S15 2 rfl)).1
  have f5 := (L5.Row.one (L4.box_at S15 5 rfl)).1
  clear f2 f5
  have S16 := L4.push_box S15 26 #[.slice y8 r0.length z8] _ rfl
  clear S15
  have f2 := (L5.Row.one (L4.box_at S16 2 rfl)).1
  have f5 := (L5.Row.one (L4.box_at S16 5 rfl)).1
  have f9 := (L5.Row.one (L4.box_at S16 9 rfl)).1
  go_wp2_with fail
  go_at_call 34
  refine (L5.eqRec S16 8 1 rfl rfl (by omega)).mono ?_
  rintro e w14 ⟨rfl, hS⟩
  clear f2 f5 f9
  have S17 := hS
  clear hS
  clear S16
  have f2 := (L5.Row.one (L4.box_at S17 2 rfl)).1
  have f5 := (L5.Row.one (L4.box_at S17 5 rfl)).1
  have f9 := (L5.Row.one (L4.box_at S17 9 rfl)).1
  go_wp2_with fail
  go_at_call 37
  refine (L5.heldRec S17 4 _ rfl (by omega) (by omega) (by omega)).mono ?_
  rintro e w15 ⟨rfl, hS⟩
  clear f2 f5 f9
  have S18 := hS
  clear hS
  clear S17
  have f2 := (L5.Row.one (L4.box_at S18 2 rfl)).1
  have f5 := (L5.Row.one (L4.box_at S18 5 rfl)).1
  have f9 := (L5.Row.one (L4.box_at S18 9 rfl)).1
  go_wp2_with fail
  go_ret
  exact ⟨rfl, S18.old⟩

set_option maxRecDepth 100000 in
theorem lifted (os : Os) (started : os.Started) (H : Type) (enc : TypeId × Value → H) :
    ReturnsInHanded {} Try.checked os 11 .any (Rows.fnExactDecodeRecordSpec.pre6 enc Try.prog Try.f11 Rows.fnExactDecodeRecordRow.domain false) (Rows.fnExactDecodeRecordSpec.post enc Try.prog Try.f11 false true false false) := by
  refine returnsInHanded_of_change_sized (C := Try.checked) own started (by kernel_rfl) Try.func11
    (ChangeSpec.witness6 (enc := enc) (C := Try.checked) false ⟨#[], #[.slice none 0 0], []⟩ 8 (by kernel_rfl) (by kernel_rfl) (by kernel_rfl) (by kernel_rfl)) ?_
  intro W base args ds gs before hval0 hW _ hsz0 _
  have hval : ∀ (j : Nat) t v, Try.f11.params[j]? = some t → args[j]? = some v → Value.okWide Try.prog W .any base t v := hval0
  have hW' := hW
  obtain ⟨p, q, hA0, hV, rfl, _, _⟩ := hW
  have hA : DataW.TrodAll enc Try.prog W 0 (fun _ => true) true Try.f11.params.toList args.toList ds p := hA0
  obtain ⟨rfl, rfl⟩ := trodVars_none hV
  have hlt : ∀ x ∈ p, x.block < W.heap.size := fun x hx => hW'.lt x (by simpa using hx)
  simp only [List.append_nil] at hW'
  have hw := walk H enc W base args ds p hval hA hlt hsz0
  have hA1 := hA
  clear hA0 hval0 hsz0 hval hlt
  rw [Try.params11] at hA
  obtain ⟨v0, vs0, d0, ds0, p0, q0, e0, rfl, rfl, h0, hr0⟩ := trodAll_cons hA
  obtain ⟨e1, rfl, rfl⟩ := trodAll_nil hr0
  refine hw.mono fun e W' ⟨he, hb⟩ => ?_
  subst he
  exact ⟨_, rfl, Frame.law_post (tb := 4) rfl hW' hA1 rfl rfl rfl laidOut (by kernel_rfl) (by kernel_rfl) Try.underlying4 hb⟩

theorem holds : Rows.FnExactDecodeRecordSaid :=
  OpenClaim.holds_of_wide 11 Try.f11 rfl rfl rfl rfl rfl rfl rfl ⟨rfl, rfl, rfl, rfl, rfl⟩ rfl rfl rfl rfl rfl (by kernel_rfl) Try.func11 (by kernel_rfl)
    (of_decide_eq_true (by kernel_rfl)) (by unfold Func.isWrapper; first | (rw [if_pos (by decide +kernel)]; kernel_rfl) | (rw [if_neg (by decide +kernel)]; exact ⟨rfl, rfl⟩))
    (fun os started H enc _ => lifted os started H enc)

#print axioms holds
end Go.Proofs.Ytpapncecfleejaa.lawFnExactDecodeRecord
