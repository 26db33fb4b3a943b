/-
  The law FnExactFormatKey answers true for every argument, and leaves its arguments as they were. Condition: the package-level variables that the row lists read as listed when the call begins; the card ties them to the program's text.
  (The frame is written by my program mk_law.py.)
-/
import Derived.Test.YtenmdecooamaaaaDoorFrame
import Derived.SizedLaws
import Derived.LaidLaws
import Derived.ShutString
import Derived.Stop.LaidErr
import Derived.Lib.LaidTab
import Derived.Test.YtenmdecooamaaaaDoorL1Impl
import Derived.Test.YtenmdecooamaaaaDoorLaw
import Derived.Test.YtenmdecooamaaaaDoorL4Open
import Derived.Deep.RegionHeld3
import Derived.Test.YtenmdecooamaaaaDoorL4Ix
import Derived.Test.YtenmdecooamaaaaDoorL4Open
import Derived.Test.YtenmdecooamaaaaDoorL4Fk
import Derived.LaidMore
import Derived.Stop.Joined
import Derived.SevenTiedAt
import Derived.Test.YtenmdecooamaaaaDoorCards
import Derived.Test.YtenmdecooamaaaaDoorTie
namespace Go.Proofs.YtenmdecooamaaaaDoor.lawFnExactFormatKey
open Go.ChangeShapes Go.WideShapes Go.ChangeAt Go.RowKit
open Go.ChangeMaps (open_string shut_string)
set_option linter.unusedVariables false
theorem own : ownKnob Tryd.prog.godebug = none := by kernel_rfl
theorem laidOut : laidOutB Tryd.prog = true := by kernel_rfl
open Mem
theorem tab_of (W : World) (h : laidMetH Tryd.prog Rows.fnExactFormatKeyRow.laid W) : L1.Tab W := by
  rw [MakeChecks.laidMetH_plain _ _ _ (by kernel_rfl)] at h
  exact Lib.tabIs_of_head (rest := []) (g := 3) (by kernel_rfl) (by kernel_rfl) Tryd.underlying104 Tryd.underlying84 (by kernel_rfl) (by kernel_rfl) h.tail.tail
set_option maxRecDepth 100000 in
set_option maxHeartbeats 1000000 in
theorem walk (H : Type) (enc : TypeId × Value → H) (W : World) (base : Nat) (args : Array Value) (ds : List (DataW H)) (p : List MemPlace)
    (hval : ∀ (j : Nat) t v, Tryd.f4.params[j]? = some t → args[j]? = some v → Value.okWide Tryd.prog W .any base t v)
    (hA : DataW.TrodAll enc Tryd.prog W 0 (fun _ => true) true Tryd.f4.params.toList args.toList ds p)
    (hlt : ∀ x ∈ p, x.block < W.heap.size)
    (hsz : (DataW.weightsEach Tryd.prog (Tryd.f4.params.toList ++ Rows.fnExactFormatKeySpec.plain.varTypes Tryd.prog) (ds ++ [])).all (· ≤ reachBytes) = true)
    (hL : laidMetH Tryd.prog Rows.fnExactFormatKeyRow.laid W) :
    Calls Tryd.prog 4 args W fun e w' => e = .returned (.bool true) ∧ Below W.heap.size W w' := by
  rw [Tryd.params4] at hA hval hsz
  have HT := Lib.hid (tab_of W hL)
  clear hL
  obtain ⟨v0, vs0, d0, ds0, p0, q0, e0, rfl, rfl, h0, g0⟩ := trodAll_cons hA
  obtain ⟨ez, rfl, rfl⟩ := trodAll_nil g0
  subst ez
  obtain rfl : args = #[v0] := Array.toList_inj.1 e0
  clear e0
  obtain ⟨⟨kd0, m0, s0⟩, rfl, T0, N0, M0⟩ := L4.open_key (hval 0 37 v0 rfl rfl) h0
  clear hval hA hlt hsz h0
  have D0 := Lib.hid (fun w => L4.toKey_any ⟨kd0, m0, s0⟩ w)
  have S0 := Sl.Sep.start W
  have S1 := L4.push_box S0 37 #[.int .i64 kd0, .int .i64 m0, .string s0] (W.heap.size) (by simp)
  clear S0
  simp only [L4.K.v] at D0
  simp only [L4.K.v]
  go_enter Tryd.func4, Tryd.ntmps4
  obtain ⟨u0, hu0⟩ : ∃ u, L4.left 1048576 (L4.K.text ⟨kd0, m0, s0⟩) = u := ⟨_, rfl⟩
  have C0 := Lib.hid (fun w => L4.szKey_any ⟨kd0, m0, s0⟩ 1048576 T0 (by decide) (by decide) w)
  have X0 : -1 ≤ u0 ∧ u0 ≤ 1048576 := by rw [← hu0]; exact L4.left_range _ _ (by decide)
  have HU0 := Lib.hid hu0
  rw [hu0] at C0
  simp only [L4.K.v] at C0
  clear hu0
  go_wp2_with fail
  go_at_call 17
  refine (C0.out _).mono ?_
  rintro e w1 ⟨rfl, hb⟩
  have S2 := S1.keep hb
  clear S1
  clear hb
  obtain ⟨f0_0, f0_1, f0_2⟩ := L4.box3 S2 0 rfl
  by_cases hneg0 : u0 < 0
  · go_wp2_with fail
    go_ret
    exact ⟨rfl, S2.old⟩
  have Z0 : (s0.size : Int) ≤ 1048576 := by have h9 := L4.left_small (n := 1048576) (s := s0) (by rw [show L4.left 1048576 s0 = u0 from HU0.out]; exact hneg0); omega
  clear C0 HU0
  obtain ⟨r0, hr0⟩ : ∃ r : ByteArray, r = L4.strU (L4.fmtU ⟨kd0, m0, s0⟩) := ⟨_, rfl⟩
  have Cspec : ∀ (w : World), Calls Tryd.prog 18 #[L4.K.v ⟨kd0, m0, s0⟩] w fun e w' => e = .returned (.string r0) ∧ Below w.heap.size w w' := by
    rw [hr0]
    intro w
    exact L4.specFormatKey_any ⟨kd0, m0, s0⟩ (by show s0.size ≤ _; omega) w
  have Cimpl : ∀ (w : World), L1.Tab w → Calls Tryd.prog 13 #[L4.K.v ⟨kd0, m0, s0⟩] w fun e w' => e = .returned (.string r0) ∧ Below w.heap.size w w' := by
    rw [hr0]
    intro w ht
    exact L4.implFormatKey_any ⟨kd0, m0, s0⟩ (by show s0.size ≤ _; omega) w ht
  clear hr0
  simp only [L4.K.v] at Cspec Cimpl
  replace Cspec := Lib.hid Cspec
  replace Cimpl := Lib.hid Cimpl
  go_wp2_with fail
  go_at_call 19
  refine (D0.out _).mono ?_
  rintro e w2 ⟨rfl, hb⟩
  clear f0_0 f0_1 f0_2
  have S3 := S2.keep hb
  clear S2
  clear hb
  obtain ⟨f0_0, f0_1, f0_2⟩ := L4.box3 S3 0 rfl
  go_wp2_with fail
  go_at_call 18
  refine (Cspec.out _).mono ?_
  rintro e w3 ⟨rfl, hb⟩
  clear f0_0 f0_1 f0_2
  have S4 := S3.keep hb
  clear S3
  clear hb
  obtain ⟨f0_0, f0_1, f0_2⟩ := L4.box3 S4 0 rfl
  go_wp2_with fail
  go_at_call 19
  refine (D0.out _).mono ?_
  rintro e w4 ⟨rfl, hb⟩
  clear f0_0 f0_1 f0_2
  have S5 := S4.keep hb
  clear S4
  clear hb
  obtain ⟨f0_0, f0_1, f0_2⟩ := L4.box3 S5 0 rfl
  go_wp2_with fail
  go_at_call 13
  refine (Cimpl.out _ (HT.out.below S5.old)).mono ?_
  rintro e w5 ⟨rfl, hb⟩
  clear f0_0 f0_1 f0_2
  have S6 := S5.keep hb
  clear S5
  clear hb
  obtain ⟨f0_0, f0_1, f0_2⟩ := L4.box3 S6 0 rfl
  go_wp2_with fail
  go_ret
  exact ⟨rfl, S6.old⟩

theorem door_met (os : Os) (args : Array Value) : laidMetH Tryd.prog Rows.fnExactFormatKeyRow.laid ((World.doorLaid Tryd.prog 2000 os).forCall (fun _ _ => 0) ⟨#[], args, []⟩).memory := by
  rw [MakeChecks.laidMetH_plain _ _ _ (by kernel_rfl)]
  exact laidMet_of_run' 8 (by kernel_rfl) (by kernel_rfl)
set_option maxRecDepth 100000 in
theorem lifted (os : Os) (started : os.Started) (H : Type) (enc : TypeId × Value → H) :
    ReturnsInHanded {} Tryd.checked os 4 .any (fun w args => (Rows.fnExactFormatKeySpec.pre enc Tryd.prog Tryd.f4 Rows.fnExactFormatKeyRow.domain false w args ∧ laidMetH Tryd.prog Rows.fnExactFormatKeyRow.laid w) ∧ sizedMet enc Tryd.prog Tryd.f4 (OpenSpec.ofChange Rows.fnExactFormatKeySpec) false w args)
      (Rows.fnExactFormatKeySpec.post enc Tryd.prog Tryd.f4 false true false false) := by
  refine returnsInHanded_of_change_and (C := Tryd.checked) (X := fun w _ => laidMetH Tryd.prog Rows.fnExactFormatKeyRow.laid w) (fun _ _ _ hh h => h.of_heap hh) own started (by kernel_rfl) Tryd.func4
    (ChangeSpec.witness_shaped (enc := enc) (C := Tryd.checked) (os := os) (X := fun w _ => laidMetH Tryd.prog Rows.fnExactFormatKeyRow.laid w) false (World.doorLaid Tryd.prog 2000 os) #[.agg #[.int .i64 0, .int .i64 0, .string ⟨#[]⟩]] 8 rfl (World.shaped_of_RefB (by kernel_rfl) (by kernel_rfl)) (by kernel_rfl) (by kernel_rfl) (by kernel_rfl) (door_met os _)) ?_
  intro W base args ds gs before hval0 hW _ hsz0 hL _
  have hval : ∀ (j : Nat) t v, Tryd.f4.params[j]? = some t → args[j]? = some v → Value.okWide Tryd.prog W .any base t v := hval0
  have hW' := hW
  obtain ⟨p, q, hA0, hV, rfl, _, _⟩ := hW
  have hA : DataW.TrodAll enc Tryd.prog W 0 (fun _ => true) true Tryd.f4.params.toList args.toList ds p := hA0
  obtain ⟨rfl, rfl⟩ := trodVars_none hV
  have hlt : ∀ x ∈ p, x.block < W.heap.size := fun x hx => hW'.lt x (by simpa using hx)
  simp only [List.append_nil] at hW'
  have hw := walk H enc W base args ds p hval hA hlt hsz0 hL
  have hA1 := hA
  clear hA0 hval0 hsz0 hval hlt
  rw [Tryd.params4] at hA
  obtain ⟨v0, vs0, d0, ds0, p0, q0, e0, rfl, rfl, h0, hr0⟩ := trodAll_cons hA
  obtain ⟨e1, rfl, rfl⟩ := trodAll_nil hr0
  refine hw.mono fun e W' ⟨he, hb⟩ => ?_
  subst he
  exact ⟨_, rfl, Frame.law_post (tb := 4) rfl hW' hA1 rfl rfl rfl laidOut (by kernel_rfl) (by kernel_rfl) Tryd.underlying4 hb⟩

theorem holds : Rows.FnExactFormatKeySaid :=
  OpenClaim.holds_of_wide 4 Tryd.f4 rfl rfl rfl rfl rfl rfl rfl ⟨rfl, rfl, rfl, rfl, rfl⟩ rfl rfl rfl rfl rfl (by kernel_rfl) Tryd.func4 (by kernel_rfl)
    (of_decide_eq_true (by kernel_rfl)) (by unfold Func.isWrapper; first | (rw [if_pos (by decide +kernel)]; kernel_rfl) | (rw [if_neg (by decide +kernel)]; exact ⟨rfl, rfl⟩))
    (fun os started H enc _ => lifted os started H enc)

theorem card : Rows.FnExactFormatKeyCardSaid :=
  Claim7.holds_tied_plain_at .later [] [.data, .data, .data] true (true, "bea731e61a822c1c45dfa29ff2fd7be7c6d777118a0003de4d2cb5d4a06a7ec2") true
    holds (fun _ h => by cases h) (by kernel_rfl) (fun _ h => by cases h) fnExactFormatKey_row_tie rfl ⟨rfl, rfl⟩ (by kernel_rfl) rfl
    (fun f fn hf hfn => by
      obtain rfl : f = 4 := Option.some.inj ((show Tryd.prog.funcNamed "loop.example/g00583/laws.FnExactFormatKey" = some 4 by kernel_rfl).symm.trans hf) |>.symm
      obtain rfl : fn = Tryd.f4 := (Option.some.inj (Tryd.func4.symm.trans hfn)).symm
      exact ⟨by kernel_rfl, fun j t ht => by
        rw [Tryd.params4] at ht
        have hm : t ∈ [37] := by simpa using Array.mem_of_getElem? ht
        have hall : ([37].all fun u => !Tryd.prog.wantsStandIn u) = true := by kernel_rfl
        exact (show Tryd.prog.wantsStandIn t = false by simpa using List.all_eq_true.1 hall t hm)⟩)
    (by kernel_rfl)
#print axioms card
end Go.Proofs.YtenmdecooamaaaaDoor.lawFnExactFormatKey
