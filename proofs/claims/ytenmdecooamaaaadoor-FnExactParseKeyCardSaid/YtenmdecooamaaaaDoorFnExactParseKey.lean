/-
  The law FnExactParseKey answers true for every argument, and leaves its arguments as they were. Condition: the package-level variables that the row lists read as listed when the call begins; the card ties them to the program's text.
  (The frame is written by my program mk_law.py.)
-/
import Derived.Test.YtenmdecooamaaaaDoorFrame
import Derived.SizedLaws
import Derived.LaidLaws
import Derived.ShutString
import Derived.Stop.LaidErr
import Derived.Lib.LaidTab
import Derived.Stop.LaidErr
import Derived.Test.YtenmdecooamaaaaDoorL1Impl
import Derived.Test.YtenmdecooamaaaaDoorLaw
import Derived.Test.YtenmdecooamaaaaDoorL4Open
import Derived.Deep.RegionHeld3
import Derived.Test.YtenmdecooamaaaaDoorL4Iy
import Derived.Test.YtenmdecooamaaaaDoorL4Open
import Derived.Test.YtenmdecooamaaaaDoorL4Pk
import Derived.LaidMore
import Derived.Stop.Joined
import Derived.SevenTiedAt
import Derived.Test.YtenmdecooamaaaaDoorCards
import Derived.Test.YtenmdecooamaaaaDoorTie
namespace Go.Proofs.YtenmdecooamaaaaDoor.lawFnExactParseKey
open Go.ChangeShapes Go.WideShapes Go.ChangeAt Go.RowKit
open Go.ChangeMaps (open_string shut_string)
set_option linter.unusedVariables false
theorem own : ownKnob Tryd.prog.godebug = none := by kernel_rfl
theorem laidOut : laidOutB Tryd.prog = true := by kernel_rfl
open Mem
theorem star : "*" ++ "errors.errorString" = "*errors.errorString" := by decide
theorem rowES (u : TypeId) (h : Tryd.prog.typeName? 3 u = some "*errors.errorString") : u = 95 :=
  typeName_ptr_named (nm := "errors.errorString") (by rw [star]; kernel_rfl) (by kernel_rfl) (by decide) u (by rw [star]; exact h)
theorem tab_of (W : World) (h : laidMetH Tryd.prog Rows.fnExactParseKeyRow.laid W) : L1.Tab W ∧ L1.Sents W := by
  rw [MakeChecks.laidMetH_plain _ _ _ (by kernel_rfl)] at h
  refine ⟨Lib.tabIs_of_head (rest := [_, _]) (g := 3) (by kernel_rfl) (by kernel_rfl) Tryd.underlying104 Tryd.underlying84 (by kernel_rfl) (by kernel_rfl) h.tail.tail, ?_, ?_⟩
  · obtain ⟨a, s, hv, -, -, -⟩ := laid_sentinel (g := 1) (tp := 95) h.tail.tail.tail.tail (by kernel_rfl) (by kernel_rfl) Tryd.underlying55 rowES Tryd.underlying95 Tryd.underlying97 rfl rfl Tryd.underlying9 (by kernel_rfl) (by kernel_rfl)
    exact ⟨_, _, hv⟩
  · obtain ⟨a, s, hv, -, -, -⟩ := laid_sentinel (g := 2) (tp := 95) h.tail.tail.tail (by kernel_rfl) (by kernel_rfl) Tryd.underlying55 rowES Tryd.underlying95 Tryd.underlying97 rfl rfl Tryd.underlying9 (by kernel_rfl) (by kernel_rfl)
    exact ⟨_, _, hv⟩
set_option maxRecDepth 100000 in
set_option maxHeartbeats 1000000 in
theorem walk (H : Type) (enc : TypeId × Value → H) (W : World) (base : Nat) (args : Array Value) (ds : List (DataW H)) (p : List MemPlace)
    (hval : ∀ (j : Nat) t v, Tryd.f5.params[j]? = some t → args[j]? = some v → Value.okWide Tryd.prog W .any base t v)
    (hA : DataW.TrodAll enc Tryd.prog W 0 (fun _ => true) true Tryd.f5.params.toList args.toList ds p)
    (hlt : ∀ x ∈ p, x.block < W.heap.size)
    (hsz : (DataW.weightsEach Tryd.prog (Tryd.f5.params.toList ++ Rows.fnExactParseKeySpec.plain.varTypes Tryd.prog) (ds ++ [])).all (· ≤ reachBytes) = true)
    (hL : laidMetH Tryd.prog Rows.fnExactParseKeyRow.laid W) :
    Calls Tryd.prog 5 args W fun e w' => e = .returned (.bool true) ∧ Below W.heap.size W w' := by
  rw [Tryd.params5] at hA hval hsz
  have HT := Lib.hid (tab_of W hL)
  clear hL
  obtain ⟨v0, vs0, d0, ds0, p0, q0, e0, rfl, rfl, h0, g0⟩ := trodAll_cons hA
  obtain ⟨ez, rfl, rfl⟩ := trodAll_nil g0
  subst ez
  obtain rfl : args = #[v0] := Array.toList_inj.1 e0
  clear e0
  obtain ⟨s0, rfl, -, -, hs0⟩ := open_string Tryd.underlying9 (hval 0 9 v0 rfl rfl) h0
  clear hval hA hlt hsz h0
  by_cases G0 : (s0.size : Int) > 1048576
  · go_enter Tryd.func5, Tryd.ntmps5
    go_wp2_with fail
    go_ret
    exact ⟨rfl, Below.refl _ _⟩
  have L0 : s0.size ≤ 1048576 := by omega
  have S0 := Sl.Sep.start W
  go_enter Tryd.func5, Tryd.ntmps5
  obtain ⟨r0, hr0⟩ : ∃ r : L4.K, r = L4.parK s0 := ⟨_, rfl⟩
  obtain ⟨r1, hr1⟩ : ∃ r : Bool, r = L4.parB s0 := ⟨_, rfl⟩
  have Cspec : ∀ (w : World), Calls Tryd.prog 15 #[.string s0] w fun e w' => e = .returned (.tuple #[L4.K.v r0, .bool r1]) ∧ Below w.heap.size w w' := by
    rw [hr0, hr1]
    intro w
    exact L4.specParseKey_any s0 (by omega) w
  have Cimpl : ∀ (w : World), L1.Tab w → L1.Sents w → Calls Tryd.prog 12 #[.string s0] w fun e w' => e = .returned (.tuple #[L4.K.v r0, .bool r1]) ∧ Below w.heap.size w w' := by
    rw [hr0, hr1]
    intro w ht hse
    exact L4.implParseKey_any s0 (by omega) w ht hse
  clear hr0 hr1
  obtain ⟨kd9, m9, s9⟩ := r0
  simp only [L4.K.v] at Cspec Cimpl
  replace Cspec := Lib.hid Cspec
  replace Cimpl := Lib.hid Cimpl
  go_wp2_with fail
  go_at_call 15
  refine (Cspec.out _).mono ?_
  rintro e w1 ⟨rfl, hb⟩
  have S1 := S0.keep hb
  clear S0
  clear hb
  have S2 := L4.push_box S1 25 #[.int .i64 kd9, .int .i64 m9, .string s9] _ rfl
  clear S1
  obtain ⟨f0_0, f0_1, f0_2⟩ := L4.box3 S2 0 rfl
  go_wp2_with fail
  go_at_call 12
  refine (Cimpl.out _ (HT.out.1.below S2.old) (HT.out.2.below S2.old)).mono ?_
  rintro e w2 ⟨rfl, hb⟩
  clear f0_0 f0_1 f0_2
  have S3 := S2.keep hb
  clear S2
  clear hb
  obtain ⟨f0_0, f0_1, f0_2⟩ := L4.box3 S3 0 rfl
  clear f0_0 f0_1 f0_2
  have S4 := L4.push_box S3 25 #[.int .i64 kd9, .int .i64 m9, .string s9] _ rfl
  clear S3
  obtain ⟨f0_0, f0_1, f0_2⟩ := L4.box3 S4 0 rfl
  obtain ⟨f1_0, f1_1, f1_2⟩ := L4.box3 S4 1 rfl
  go_wp2_with fail
  go_at_call 20
  refine (L4.eqKey_any ⟨kd9, m9, s9⟩ _).mono ?_
  rintro e w3 ⟨rfl, hb⟩
  clear f0_0 f0_1 f0_2
  clear f1_0 f1_1 f1_2
  have S5 := S4.keep hb
  clear S4
  clear hb
  obtain ⟨f0_0, f0_1, f0_2⟩ := L4.box3 S5 0 rfl
  obtain ⟨f1_0, f1_1, f1_2⟩ := L4.box3 S5 1 rfl
  go_wp2_with fail
  go_ret
  exact ⟨rfl, S5.old⟩

theorem door_met (os : Os) (args : Array Value) : laidMetH Tryd.prog Rows.fnExactParseKeyRow.laid ((World.doorLaid Tryd.prog 2000 os).forCall (fun _ _ => 0) ⟨#[], args, []⟩).memory := by
  rw [MakeChecks.laidMetH_plain _ _ _ (by kernel_rfl)]
  exact laidMet_of_run' 8 (by kernel_rfl) (by kernel_rfl)
set_option maxRecDepth 100000 in
theorem lifted (os : Os) (started : os.Started) (H : Type) (enc : TypeId × Value → H) :
    ReturnsInHanded {} Tryd.checked os 5 .any (fun w args => (Rows.fnExactParseKeySpec.pre enc Tryd.prog Tryd.f5 Rows.fnExactParseKeyRow.domain false w args ∧ laidMetH Tryd.prog Rows.fnExactParseKeyRow.laid w) ∧ sizedMet enc Tryd.prog Tryd.f5 (OpenSpec.ofChange Rows.fnExactParseKeySpec) false w args)
      (Rows.fnExactParseKeySpec.post enc Tryd.prog Tryd.f5 false true false false) := by
  refine returnsInHanded_of_change_and (C := Tryd.checked) (X := fun w _ => laidMetH Tryd.prog Rows.fnExactParseKeyRow.laid w) (fun _ _ _ hh h => h.of_heap hh) own started (by kernel_rfl) Tryd.func5
    (ChangeSpec.witness_shaped (enc := enc) (C := Tryd.checked) (os := os) (X := fun w _ => laidMetH Tryd.prog Rows.fnExactParseKeyRow.laid w) false (World.doorLaid Tryd.prog 2000 os) #[.string ⟨#[]⟩] 8 rfl (World.shaped_of_RefB (by kernel_rfl) (by kernel_rfl)) (by kernel_rfl) (by kernel_rfl) (by kernel_rfl) (door_met os _)) ?_
  intro W base args ds gs before hval0 hW _ hsz0 hL _
  have hval : ∀ (j : Nat) t v, Tryd.f5.params[j]? = some t → args[j]? = some v → Value.okWide Tryd.prog W .any base t v := hval0
  have hW' := hW
  obtain ⟨p, q, hA0, hV, rfl, _, _⟩ := hW
  have hA : DataW.TrodAll enc Tryd.prog W 0 (fun _ => true) true Tryd.f5.params.toList args.toList ds p := hA0
  obtain ⟨rfl, rfl⟩ := trodVars_none hV
  have hlt : ∀ x ∈ p, x.block < W.heap.size := fun x hx => hW'.lt x (by simpa using hx)
  simp only [List.append_nil] at hW'
  have hw := walk H enc W base args ds p hval hA hlt hsz0 hL
  have hA1 := hA
  clear hA0 hval0 hsz0 hval hlt
  rw [Tryd.params5] at hA
  obtain ⟨v0, vs0, d0, ds0, p0, q0, e0, rfl, rfl, h0, hr0⟩ := trodAll_cons hA
  obtain ⟨e1, rfl, rfl⟩ := trodAll_nil hr0
  refine hw.mono fun e W' ⟨he, hb⟩ => ?_
  subst he
  exact ⟨_, rfl, Frame.law_post (tb := 4) rfl hW' hA1 rfl rfl rfl laidOut (by kernel_rfl) (by kernel_rfl) Tryd.underlying4 hb⟩

theorem holds : Rows.FnExactParseKeySaid :=
  OpenClaim.holds_of_wide 5 Tryd.f5 rfl rfl rfl rfl rfl rfl rfl ⟨rfl, rfl, rfl, rfl, rfl⟩ rfl rfl rfl rfl rfl (by kernel_rfl) Tryd.func5 (by kernel_rfl)
    (of_decide_eq_true (by kernel_rfl)) (by unfold Func.isWrapper; first | (rw [if_pos (by decide +kernel)]; kernel_rfl) | (rw [if_neg (by decide +kernel)]; exact ⟨rfl, rfl⟩))
    (fun os started H enc _ => lifted os started H enc)

theorem card : Rows.FnExactParseKeyCardSaid :=
  Claim7.holds_tied_plain_at .later [] [.data, .data, .data, .sentinel, .sentinel] true (true, "bea731e61a822c1c45dfa29ff2fd7be7c6d777118a0003de4d2cb5d4a06a7ec2") true
    holds (fun _ h => by cases h) (by kernel_rfl) (fun _ h => by cases h) fnExactParseKey_row_tie rfl ⟨rfl, rfl⟩ (by kernel_rfl) rfl
    (fun f fn hf hfn => by
      obtain rfl : f = 5 := Option.some.inj ((show Tryd.prog.funcNamed "loop.example/g00583/laws.FnExactParseKey" = some 5 by kernel_rfl).symm.trans hf) |>.symm
      obtain rfl : fn = Tryd.f5 := (Option.some.inj (Tryd.func5.symm.trans hfn)).symm
      exact ⟨by kernel_rfl, fun j t ht => by
        rw [Tryd.params5] at ht
        have hm : t ∈ [9] := by simpa using Array.mem_of_getElem? ht
        have hall : ([9].all fun u => !Tryd.prog.wantsStandIn u) = true := by kernel_rfl
        exact (show Tryd.prog.wantsStandIn t = false by simpa using List.all_eq_true.1 hall t hm)⟩)
    (by kernel_rfl)
#print axioms card
end Go.Proofs.YtenmdecooamaaaaDoor.lawFnExactParseKey
