/-
  The law FnExactDecodeKey answers true for every argument, and leaves its arguments as they were. No condition.
  (The frame is written by my program mk_law.py.)
-/
import Derived.Test.YtenmdecooamaaaaFrame
import Derived.SizedLaws
import Derived.LaidLaws
import Derived.ShutString
import Derived.Stop.LaidErr
import Derived.Lib.LaidTab
import Derived.Test.YtenmdecooamaaaaLaw
import Derived.Test.YtenmdecooamaaaaL4Open
import Derived.Deep.RegionHeld3
import Derived.Test.YtenmdecooamaaaaL4Im5
import Derived.Test.YtenmdecooamaaaaL4Open
import Derived.Test.YtenmdecooamaaaaL4Dec
namespace Go.Proofs.Ytenmdecooamaaaa.lawFnExactDecodeKey
open Go.ChangeShapes Go.WideShapes Go.ChangeAt Go.RowKit
open Go.ChangeMaps (open_string shut_string)
set_option linter.unusedVariables false
theorem own : ownKnob Try.prog.godebug = none := by kernel_rfl
theorem laidOut : laidOutB Try.prog = true := by kernel_rfl
open Mem
set_option maxRecDepth 100000 in
set_option maxHeartbeats 1000000 in
theorem walk (H : Type) (enc : TypeId × Value → H) (W : World) (base : Nat) (args : Array Value) (ds : List (DataW H)) (p : List MemPlace)
    (hval : ∀ (j : Nat) t v, Try.f7.params[j]? = some t → args[j]? = some v → Value.okWide Try.prog W .any base t v)
    (hA : DataW.TrodAll enc Try.prog W 0 (fun _ => true) true Try.f7.params.toList args.toList ds p)
    (hlt : ∀ x ∈ p, x.block < W.heap.size)
    (hsz : (DataW.weightsEach Try.prog (Try.f7.params.toList ++ Rows.fnExactDecodeKeySpec.plain.varTypes Try.prog) (ds ++ [])).all (· ≤ reachBytes) = true) :
    Calls Try.prog 7 args W fun e w' => e = .returned (.bool true) ∧ Below W.heap.size W w' := by
  rw [Try.params7] at hA hval hsz
  obtain ⟨v0, vs0, d0, ds0, p0, q0, e0, rfl, rfl, h0, g0⟩ := trodAll_cons hA
  obtain ⟨ez, rfl, rfl⟩ := trodAll_nil g0
  subst ez
  obtain rfl : args = #[v0] := Array.toList_inj.1 e0
  clear e0
  obtain ⟨a0, l0, c0, rfl, hC0, -, hR0, hW0⟩ := Law.open_list Try.underlying22 Try.underlying5 (by kernel_rfl) (hval 0 22 v0 rfl rfl) h0 (fun x hx => hlt x (by simp [hx]))
  have W0 := fun x hx => Law.wf_u8 (hW0 x hx)
  clear hW0
  clear hval hA hlt hsz h0
  by_cases G0 : (l0.length : Int) > 1048576
  · go_enter Try.func7, Try.ntmps7
    go_wp2_with fail
    go_ret
    exact ⟨rfl, Below.refl _ _⟩
  have L0 : l0.length ≤ 1048576 := by omega
  have S0 := Sl.Sep.start W
  go_enter Try.func7, Try.ntmps7
  obtain ⟨r0, hr0⟩ : ∃ r : L4.K, r = L4.decK l0 := ⟨_, rfl⟩
  obtain ⟨r1, hr1⟩ : ∃ r : Bool, r = L4.decB l0 := ⟨_, rfl⟩
  have Cspec : ∀ (w : World) (a0 : Option Addr) (c0 : Nat), Sl.Reads w w.heap.size a0 (Sl.ints .u8 l0) → l0.length ≤ c0 → Calls Try.prog 28 #[.slice a0 l0.length c0] w fun e w' => e = .returned (.tuple #[L4.K.v r0, .bool r1]) ∧ Below w.heap.size w w' := by
    rw [hr0, hr1]
    intro w a0 c0 hr0 hc0
    exact L4.specDecodeKey_any a0 c0 l0 w hr0 W0 hc0 (by omega)
  have Cimpl : ∀ (w : World) (a0 : Option Addr) (c0 : Nat), Sl.Reads w w.heap.size a0 (Sl.ints .u8 l0) → l0.length ≤ c0 → Calls Try.prog 13 #[.slice a0 l0.length c0] w fun e w' => e = .returned (.tuple #[L4.K.v r0, .bool r1]) ∧ Below w.heap.size w w' := by
    rw [hr0, hr1]
    intro w a0 c0 hr0 hc0
    exact L4.implDecodeKey_any a0 c0 l0 w hr0 W0 hc0 (by omega)
  clear hr0 hr1 W0 hC0
  obtain ⟨kd9, m9, s9⟩ := r0
  simp only [L4.K.v] at Cspec Cimpl
  replace Cspec := Lib.hid Cspec
  replace Cimpl := Lib.hid Cimpl
  go_wp2_with fail
  go_at_call 29
  refine (Law.copyByteS S0 hR0 (by omega)).mono ?_
  rintro e w1 ⟨y0, z0, rfl, hS⟩
  have S1 := hS
  clear S0
  clear hS
  go_wp2_with fail
  go_at_call 28
  refine (Cspec.out _ _ _ (S1.own 0 rfl).reads (S1.own 0 rfl).cap).mono ?_
  rintro e w2 ⟨rfl, hb⟩
  have S2 := S1.keep hb
  clear S1
  clear hb
  have S3 := L4.push_box S2 25 #[.int .i64 kd9, .int .i64 m9, .string s9] _ rfl
  clear S2
  obtain ⟨f1_0, f1_1, f1_2⟩ := L4.box3 S3 1 rfl
  go_wp2_with fail
  go_at_call 29
  refine (Law.copyByteS S3 hR0 (by omega)).mono ?_
  rintro e w3 ⟨y2, z2, rfl, hS⟩
  clear f1_0 f1_1 f1_2
  have S4 := hS
  clear S3
  obtain ⟨f1_0, f1_1, f1_2⟩ := L4.box3 S4 1 rfl
  clear hS
  go_wp2_with fail
  go_at_call 13
  refine (Cimpl.out _ _ _ (S4.own 2 rfl).reads (S4.own 2 rfl).cap).mono ?_
  rintro e w4 ⟨rfl, hb⟩
  clear f1_0 f1_1 f1_2
  have S5 := S4.keep hb
  clear S4
  clear hb
  obtain ⟨f1_0, f1_1, f1_2⟩ := L4.box3 S5 1 rfl
  clear f1_0 f1_1 f1_2
  have S6 := L4.push_box S5 25 #[.int .i64 kd9, .int .i64 m9, .string s9] _ rfl
  clear S5
  obtain ⟨f1_0, f1_1, f1_2⟩ := L4.box3 S6 1 rfl
  obtain ⟨f3_0, f3_1, f3_2⟩ := L4.box3 S6 3 rfl
  go_wp2_with fail
  go_at_call 30
  refine (L4.eqKey_any ⟨kd9, m9, s9⟩ _).mono ?_
  rintro e w5 ⟨rfl, hb⟩
  clear f1_0 f1_1 f1_2
  clear f3_0 f3_1 f3_2
  have S7 := S6.keep hb
  clear S6
  clear hb
  obtain ⟨f1_0, f1_1, f1_2⟩ := L4.box3 S7 1 rfl
  obtain ⟨f3_0, f3_1, f3_2⟩ := L4.box3 S7 3 rfl
  go_wp2_with fail
  go_at_call 29
  refine (Law.copyByteS S7 hR0 (by omega)).mono ?_
  rintro e w6 ⟨y4, z4, rfl, hS⟩
  clear f1_0 f1_1 f1_2
  clear f3_0 f3_1 f3_2
  have S8 := hS
  clear S7
  obtain ⟨f1_0, f1_1, f1_2⟩ := L4.box3 S8 1 rfl
  obtain ⟨f3_0, f3_1, f3_2⟩ := L4.box3 S8 3 rfl
  clear hS
  go_wp2_with fail
  go_at_call 25
  refine (Law.eqByteS S8 2 4 rfl rfl (by omega)).mono ?_
  rintro e w7 ⟨rfl, hS⟩
  clear f1_0 f1_1 f1_2
  clear f3_0 f3_1 f3_2
  have S9 := hS
  clear S8
  obtain ⟨f1_0, f1_1, f1_2⟩ := L4.box3 S9 1 rfl
  obtain ⟨f3_0, f3_1, f3_2⟩ := L4.box3 S9 3 rfl
  clear hS
  go_wp2_with fail
  go_ret
  exact ⟨rfl, S9.old⟩

set_option maxRecDepth 100000 in
theorem lifted (os : Os) (started : os.Started) (H : Type) (enc : TypeId × Value → H) :
    ReturnsInHanded {} Try.checked os 7 .any (Rows.fnExactDecodeKeySpec.pre6 enc Try.prog Try.f7 Rows.fnExactDecodeKeyRow.domain false) (Rows.fnExactDecodeKeySpec.post enc Try.prog Try.f7 false true false false) := by
  refine returnsInHanded_of_change_sized (C := Try.checked) own started (by kernel_rfl) Try.func7
    (ChangeSpec.witness6 (enc := enc) (C := Try.checked) false ⟨#[], #[.slice none 0 0], []⟩ 8 (by kernel_rfl) (by kernel_rfl) (by kernel_rfl) (by kernel_rfl)) ?_
  intro W base args ds gs before hval0 hW _ hsz0 _
  have hval : ∀ (j : Nat) t v, Try.f7.params[j]? = some t → args[j]? = some v → Value.okWide Try.prog W .any base t v := hval0
  have hW' := hW
  obtain ⟨p, q, hA0, hV, rfl, _, _⟩ := hW
  have hA : DataW.TrodAll enc Try.prog W 0 (fun _ => true) true Try.f7.params.toList args.toList ds p := hA0
  obtain ⟨rfl, rfl⟩ := trodVars_none hV
  have hlt : ∀ x ∈ p, x.block < W.heap.size := fun x hx => hW'.lt x (by simpa using hx)
  simp only [List.append_nil] at hW'
  have hw := walk H enc W base args ds p hval hA hlt hsz0
  have hA1 := hA
  clear hA0 hval0 hsz0 hval hlt
  rw [Try.params7] at hA
  obtain ⟨v0, vs0, d0, ds0, p0, q0, e0, rfl, rfl, h0, hr0⟩ := trodAll_cons hA
  obtain ⟨e1, rfl, rfl⟩ := trodAll_nil hr0
  refine hw.mono fun e W' ⟨he, hb⟩ => ?_
  subst he
  exact ⟨_, rfl, Frame.law_post (tb := 4) rfl hW' hA1 rfl rfl rfl laidOut (by kernel_rfl) (by kernel_rfl) Try.underlying4 hb⟩

theorem holds : Rows.FnExactDecodeKeySaid :=
  OpenClaim.holds_of_wide 7 Try.f7 rfl rfl rfl rfl rfl rfl rfl ⟨rfl, rfl, rfl, rfl, rfl⟩ rfl rfl rfl rfl rfl (by kernel_rfl) Try.func7 (by kernel_rfl)
    (of_decide_eq_true (by kernel_rfl)) (by unfold Func.isWrapper; first | (rw [if_pos (by decide +kernel)]; kernel_rfl) | (rw [if_neg (by decide +kernel)]; exact ⟨rfl, rfl⟩))
    (fun os started H enc _ => lifted os started H enc)

#print axioms holds
end Go.Proofs.Ytenmdecooamaaaa.lawFnExactDecodeKey
