/-
  The law FnExactEncodeRecord answers true for every argument, and leaves its arguments as they were. No condition.
  (The frame is written by my program mk_law.py.)
-/
import Derived.Test.YtpapncecfleejaaFrame
import Derived.SizedLaws
import Derived.LaidLaws
import Derived.ShutString
import Derived.Stop.LaidErr
import Derived.Lib.LaidTab
import Derived.Test.YtpapncecfleejaaL5Law
import Derived.Deep.RegionHeld3
import Derived.Test.YtpapncecfleejaaL5If
namespace Go.Proofs.Ytpapncecfleejaa.lawFnExactEncodeRecord
open Go.ChangeShapes Go.WideShapes Go.ChangeAt Go.RowKit
open Go.ChangeMaps (open_string shut_string)
set_option linter.unusedVariables false
theorem own : ownKnob Try.prog.godebug = none := by kernel_rfl
theorem laidOut : laidOutB Try.prog = true := by kernel_rfl
open Mem
theorem drew1 {W w : World} {rs : List Sl.Res} (h : Sl.Sep W w rs) : Sl.Sep W w.drew rs := h.drews 1
theorem encR_len (l : List L5.F) : (L5.encR l).length ≤ 1099511627776 := by
  unfold L5.encR
  split
  · rename_i h
    have h1 := L5.encB_len l (L5.isR_names h)
    have h2 := (L5.isR_iff.1 h).2
    have h3 := L2.enc_len (l.length : Int)
    rw [List.length_append]
    omega
  · simp
set_option maxRecDepth 100000 in
set_option maxHeartbeats 8000000 in
theorem walk (H : Type) (enc : TypeId × Value → H) (W : World) (base : Nat) (args : Array Value) (ds : List (DataW H)) (p : List MemPlace)
    (hval : ∀ (j : Nat) t v, Try.f10.params[j]? = some t → args[j]? = some v → Value.okWide Try.prog W .any base t v)
    (hA : DataW.TrodAll enc Try.prog W 0 (fun _ => true) true Try.f10.params.toList args.toList ds p)
    (hlt : ∀ x ∈ p, x.block < W.heap.size)
    (hsz : (DataW.weightsEach Try.prog (Try.f10.params.toList ++ Rows.fnExactEncodeRecordSpec.plain.varTypes Try.prog) (ds ++ [])).all (· ≤ reachBytes) = true) :
    Calls Try.prog 10 args W fun e w' => e = .returned (.bool true) ∧ Below W.heap.size W w' := by
  rw [Try.params10] at hA hval hsz
  obtain ⟨v0, vs0, d0, ds0, p0, q0, e0, rfl, rfl, h0, g0⟩ := trodAll_cons hA
  obtain ⟨ez, rfl, rfl⟩ := trodAll_nil g0
  subst ez
  obtain rfl : args = #[v0] := Array.toList_inj.1 e0
  clear e0
  obtain ⟨a0, l0, c0, rfl, hR0, hW0, M0⟩ := L5.open_record (hval 0 46 v0 rfl rfl) h0 (fun x hx => hlt x (by simp [hx]))
  clear hval hA hlt hsz h0
  have S0 := Sl.Sep.start W
  have S1 := L4.push_box S0 46 #[.slice a0 l0.length c0] (W.heap.size) (by simp)
  clear S0
  go_enter Try.func10, Try.ntmps10
  go_wp2_with fail
  go_at_call 31
  refine (L5.roomRec S1 hR0 1048576 hW0 M0 (by omega) (by omega)).mono ?_
  rintro e w1 ⟨u0, rfl, ro0, hS⟩
  have S2 := hS
  clear hS
  clear S1
  have f0 := (L5.Row.one (L4.box_at S2 0 rfl)).1
  have X0 : -1 ≤ u0 ∧ u0 ≤ 1048576 := ⟨ro0.1, ro0.2.1⟩
  by_cases neg0 : u0 < 0
  · go_wp2_with fail
    go_ret
    exact ⟨rfl, S2.old⟩
  obtain ⟨L0, SM0⟩ := ro0.out neg0 (by omega)
  clear ro0 hW0 M0
  obtain ⟨r0, hr0⟩ : ∃ r : List Int, r = L5.encR l0 := ⟨_, rfl⟩
  have RL0 : r0.length ≤ 1099511627776 := by rw [hr0]; exact encR_len l0
  have Cspec : ∀ (w : World) (a0 : Option Addr) (c0 : Nat), Sl.Reads w w.heap.size a0 (L5.cellsF l0) → l0.length ≤ c0 → (a0 = none → c0 = 0) → Calls Try.prog 39 #[.agg #[.slice a0 l0.length c0]] w fun e w' => ∃ ax0 cx0, e = .returned (.slice ax0 r0.length cx0) ∧ Sl.Own w' w.heap.size 5 .u8 ax0 cx0 r0 ∧ Below w.heap.size w w' := by
    rw [hr0]
    intro w a0 c0 hr0 hc0 hz0
    exact L5.specEncodeRecord_any a0 c0 l0 (by omega) SM0 w hr0
  have Cimpl : ∀ (w : World) (a0 : Option Addr) (c0 : Nat), Sl.Reads w w.heap.size a0 (L5.cellsF l0) → l0.length ≤ c0 → (a0 = none → c0 = 0) → Calls Try.prog 22 #[.agg #[.slice a0 l0.length c0]] w fun e w' => ∃ ax0 cx0, e = .returned (.slice ax0 r0.length cx0) ∧ Sl.Own w' w.heap.size 5 .u8 ax0 cx0 r0 ∧ Below w.heap.size w w' := by
    rw [hr0]
    intro w a0 c0 hr0 hc0 hz0
    exact L5.encodeRecord_any a0 c0 l0 (by omega) SM0 w hr0
  clear hr0 SM0
  replace Cspec := Lib.hid Cspec
  replace Cimpl := Lib.hid Cimpl
  go_wp2_with fail
  go_at_call 33
  refine (L5.copyRec S2 hR0 (by omega)).mono ?_
  rintro e w2 ⟨y1, z1, rfl, hS⟩
  clear f0
  have S3 := hS
  clear hS
  clear S2
  have f0 := (L5.Row.one (L4.box_at S3 0 rfl)).1
  go_wp2_with fail
  go_at_call 39
  refine (Cspec.out _ _ _ ((Sv.own_at S3 1 rfl).reads) ((Sv.own_at S3 1 rfl).cap) (L5.own_zero (Sv.own_at S3 1 rfl))).mono ?_
  rintro e w3 ⟨y2, z2, rfl, ho, hb⟩
  clear f0
  have S4 := Sl.Sep.pushOwn S3 hb ho
  clear S3
  clear hb ho
  have f0 := (L5.Row.one (L4.box_at S4 0 rfl)).1
  go_wp2_with fail
  go_at_call 33
  refine (L5.copyRec S4 hR0 (by omega)).mono ?_
  rintro e w4 ⟨y3, z3, rfl, hS⟩
  clear f0
  have S5 := hS
  clear hS
  clear S4
  have f0 := (L5.Row.one (L4.box_at S5 0 rfl)).1
  clear f0
  have S6 := L4.push_box S5 26 #[.slice y3 l0.length z3] _ rfl
  clear S5
  have f0 := (L5.Row.one (L4.box_at S6 0 rfl)).1
  have f4 := (L5.Row.one (L4.box_at S6 4 rfl)).1
  go_wp2_with fail
  go_at_call 22
  refine (Cimpl.out _ _ _ ((Sv.own_at S6 3 rfl).reads) ((Sv.own_at S6 3 rfl).cap) (L5.own_zero (Sv.own_at S6 3 rfl))).mono ?_
  rintro e w5 ⟨y5, z5, rfl, ho, hb⟩
  clear f0 f4
  have S7 := Sl.Sep.pushOwn S6 hb ho
  clear S6
  clear hb ho
  have f0 := (L5.Row.one (L4.box_at S7 0 rfl)).1
  have f4 := (L5.Row.one (L4.box_at S7 4 rfl)).1
  go_wp2_with fail
  go_at_call 40
  refine (Law.eqByteS S7 5 2 rfl rfl (by omega)).mono ?_
  rintro e w6 ⟨rfl, hS⟩
  clear f0 f4
  have S8 := hS
  clear hS
  clear S7
  have f0 := (L5.Row.one (L4.box_at S8 0 rfl)).1
  have f4 := (L5.Row.one (L4.box_at S8 4 rfl)).1
  go_wp2_with fail
  have SS := S8
  clear S8
  go_region_held3 (fun w' => w'.cell? ⟨W.heap.size, 0, none⟩ = some (.slice a0 l0.length c0) ∧ w'.cell? ⟨w4.heap.size, 0, none⟩ = some (.slice y3 l0.length z3)) (first | exact ⟨f0, f4⟩ | exact f0 | go_keep)
    (first
      | (go_at_call 33; with_reducible refine (L5.copyRec SS hR0 (by omega)).mono ?_; rintro e ww ⟨y6, z6, rfl, hS⟩; have SS := hS; clear hS; have f0 := (L5.Row.one (L4.box_at SS 0 rfl)).1; have f4 := (L5.Row.one (L4.box_at SS 4 rfl)).1)
      | (go_at_call 33; with_reducible refine (L5.copyRec (drew1 SS) hR0 (by omega)).mono ?_; rintro e ww ⟨y6, z6, rfl, hS⟩; have SS := hS; clear hS; have f0 := (L5.Row.one (L4.box_at SS 0 rfl)).1; have f4 := (L5.Row.one (L4.box_at SS 4 rfl)).1)
      | (go_at_call 34; with_reducible refine (L5.eqRec SS 3 6 rfl rfl (by omega)).mono ?_; rintro e ww ⟨rfl, hS⟩; have SS := hS; clear hS; have f0 := (L5.Row.one (L4.box_at SS 0 rfl)).1; have f4 := (L5.Row.one (L4.box_at SS 4 rfl)).1)
      | (go_at_call 34; with_reducible refine (L5.eqRec (drew1 SS) 3 6 rfl rfl (by omega)).mono ?_; rintro e ww ⟨rfl, hS⟩; have SS := hS; clear hS; have f0 := (L5.Row.one (L4.box_at SS 0 rfl)).1; have f4 := (L5.Row.one (L4.box_at SS 4 rfl)).1))
  all_goals
    have S9 := SS
    clear SS
    clear f0 f4
    have f0 := (L5.Row.one (L4.box_at S9 0 rfl)).1
    have f4 := (L5.Row.one (L4.box_at S9 4 rfl)).1
    go_wp2_with fail
    go_at_call 36
    refine (L5.markRec S9 3 rfl _ (by omega) (by omega) (by omega)).mono ?_
    rintro e w7 ⟨rfl, hS⟩
    clear f0 f4
    have S10 := hS
    clear hS
    clear S9
    have f0 := (L5.Row.one (L4.box_at S10 0 rfl)).1
    have f4 := (L5.Row.one (L4.box_at S10 4 rfl)).1
    go_wp2_with fail
    go_at_call 40
    refine (Law.eqByteS S10 5 2 rfl rfl (by omega)).mono ?_
    rintro e w8 ⟨rfl, hS⟩
    clear f0 f4
    have S11 := hS
    clear hS
    clear S10
    have f0 := (L5.Row.one (L4.box_at S11 0 rfl)).1
    have f4 := (L5.Row.one (L4.box_at S11 4 rfl)).1
    go_wp2_with fail
    go_at_call 41
    refine (Law.markByteS S11 5 rfl _ (by omega) (by omega) (by omega)).mono ?_
    rintro e w9 ⟨rfl, hS⟩
    clear f0 f4
    have S12 := hS
    clear hS
    clear S11
    have f0 := (L5.Row.one (L4.box_at S12 0 rfl)).1
    have f4 := (L5.Row.one (L4.box_at S12 4 rfl)).1
    go_wp2_with fail
    go_at_call 42
    refine (Law.heldByteS S12 5 _ rfl (by omega) (by omega) (by omega)).mono ?_
    rintro e w10 ⟨rfl, hS⟩
    clear f0 f4
    have S13 := hS
    clear hS
    clear S12
    have f0 := (L5.Row.one (L4.box_at S13 0 rfl)).1
    have f4 := (L5.Row.one (L4.box_at S13 4 rfl)).1
    go_wp2_with fail
    go_at_call 33
    refine (L5.copyRec S13 hR0 (by omega)).mono ?_
    rintro e w11 ⟨y7, z7, rfl, hS⟩
    clear f0 f4
    have S14 := hS
    clear hS
    clear S13
    have f0 := (L5.Row.one (L4.box_at S14 0 rfl)).1
    have f4 := (L5.Row.one (L4.box_at S14 4 rfl)).1
    go_wp2_with fail
    go_at_call 22
    refine (Cimpl.out _ _ _ ((Sv.own_at S14 7 rfl).reads) ((Sv.own_at S14 7 rfl).cap) (L5.own_zero (Sv.own_at S14 7 rfl))).mono ?_
    rintro e w12 ⟨y8, z8, rfl, ho, hb⟩
    clear f0 f4
    have S15 := Sl.Sep.pushOwn S14 hb ho
    clear S14
    clear hb ho
    have f0 := (L5.Row.one (L4.box_at S15 0 rfl)).1
    have f4 := (L5.Row.one (L4.box_at S15 4 rfl)).1
    go_wp2_with fail
    go_at_call 40
    refine (Law.eqByteS S15 8 2 rfl rfl (by omega)).mono ?_
    rintro e w13 ⟨rfl, hS⟩
    clear f0 f4
    have S16 := hS
    clear hS
    clear S15
    have f0 := (L5.Row.one (L4.box_at S16 0 rfl)).1
    have f4 := (L5.Row.one (L4.box_at S16 4 rfl)).1
    go_wp2_with fail
    go_at_call 42
    refine (Law.heldByteS S16 5 _ rfl (by omega) (by omega) (by omega)).mono ?_
    rintro e w14 ⟨rfl, hS⟩
    clear f0 f4
    have S17 := hS
    clear hS
    clear S16
    have f0 := (L5.Row.one (L4.box_at S17 0 rfl)).1
    have f4 := (L5.Row.one (L4.box_at S17 4 rfl)).1
    go_wp2_with fail
    go_ret
    exact ⟨rfl, S17.old⟩

set_option maxRecDepth 100000 in
theorem lifted (os : Os) (started : os.Started) (H : Type) (enc : TypeId × Value → H) :
    ReturnsInHanded {} Try.checked os 10 .any (Rows.fnExactEncodeRecordSpec.pre6 enc Try.prog Try.f10 Rows.fnExactEncodeRecordRow.domain false) (Rows.fnExactEncodeRecordSpec.post enc Try.prog Try.f10 false true false false) := by
  refine returnsInHanded_of_change_sized (C := Try.checked) own started (by kernel_rfl) Try.func10
    (ChangeSpec.witness6 (enc := enc) (C := Try.checked) false ⟨#[], #[.agg #[.slice none 0 0]], []⟩ 8 (by kernel_rfl) (by kernel_rfl) (by kernel_rfl) (by kernel_rfl)) ?_
  intro W base args ds gs before hval0 hW _ hsz0 _
  have hval : ∀ (j : Nat) t v, Try.f10.params[j]? = some t → args[j]? = some v → Value.okWide Try.prog W .any base t v := hval0
  have hW' := hW
  obtain ⟨p, q, hA0, hV, rfl, _, _⟩ := hW
  have hA : DataW.TrodAll enc Try.prog W 0 (fun _ => true) true Try.f10.params.toList args.toList ds p := hA0
  obtain ⟨rfl, rfl⟩ := trodVars_none hV
  have hlt : ∀ x ∈ p, x.block < W.heap.size := fun x hx => hW'.lt x (by simpa using hx)
  simp only [List.append_nil] at hW'
  have hw := walk H enc W base args ds p hval hA hlt hsz0
  have hA1 := hA
  clear hA0 hval0 hsz0 hval hlt
  rw [Try.params10] at hA
  obtain ⟨v0, vs0, d0, ds0, p0, q0, e0, rfl, rfl, h0, hr0⟩ := trodAll_cons hA
  obtain ⟨e1, rfl, rfl⟩ := trodAll_nil hr0
  refine hw.mono fun e W' ⟨he, hb⟩ => ?_
  subst he
  exact ⟨_, rfl, Frame.law_post (tb := 4) rfl hW' hA1 rfl rfl rfl laidOut (by kernel_rfl) (by kernel_rfl) Try.underlying4 hb⟩

theorem holds : Rows.FnExactEncodeRecordSaid :=
  OpenClaim.holds_of_wide 10 Try.f10 rfl rfl rfl rfl rfl rfl rfl ⟨rfl, rfl, rfl, rfl, rfl⟩ rfl rfl rfl rfl rfl (by kernel_rfl) Try.func10 (by kernel_rfl)
    (of_decide_eq_true (by kernel_rfl)) (by unfold Func.isWrapper; first | (rw [if_pos (by decide +kernel)]; kernel_rfl) | (rw [if_neg (by decide +kernel)]; exact ⟨rfl, rfl⟩))
    (fun os started H enc _ => lifted os started H enc)

#print axioms holds
end Go.Proofs.Ytpapncecfleejaa.lawFnExactEncodeRecord
