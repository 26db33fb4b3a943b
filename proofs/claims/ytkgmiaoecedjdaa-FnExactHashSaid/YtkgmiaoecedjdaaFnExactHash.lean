/-
  The law FnExactHash answers true for every argument, and leaves its arguments as they were. No condition.
  (The frame is written by my program mk_law.py.)
-/
import Derived.Test.YtkgmiaoecedjdaaFrame
import Derived.SizedLaws
import Derived.LaidLaws
import Derived.ShutString
import Derived.Stop.LaidErr
import Derived.Lib.LaidTab
import Derived.Test.YtkgmiaoecedjdaaLaw
import Derived.Test.YtkgmiaoecedjdaaL3Enc
namespace Go.Proofs.Ytkgmiaoecedjdaa.lawFnExactHash
open Go.ChangeShapes Go.WideShapes Go.ChangeAt Go.RowKit
open Go.ChangeMaps (open_string shut_string)
set_option linter.unusedVariables false
theorem own : ownKnob Try.prog.godebug = none := by kernel_rfl
theorem laidOut : laidOutB Try.prog = true := by kernel_rfl
set_option maxRecDepth 100000 in
set_option maxHeartbeats 1000000 in
theorem walk (H : Type) (enc : TypeId × Value → H) (W : World) (base : Nat) (args : Array Value) (ds : List (DataW H)) (p : List MemPlace)
    (hval : ∀ (j : Nat) t v, Try.f5.params[j]? = some t → args[j]? = some v → Value.okWide Try.prog W .any base t v)
    (hA : DataW.TrodAll enc Try.prog W 0 (fun _ => true) true Try.f5.params.toList args.toList ds p)
    (hlt : ∀ x ∈ p, x.block < W.heap.size)
    (hsz : (DataW.weightsEach Try.prog (Try.f5.params.toList ++ Rows.fnExactHashSpec.plain.varTypes Try.prog) (ds ++ [])).all (· ≤ reachBytes) = true) :
    Calls Try.prog 5 args W fun e w' => e = .returned (.bool true) ∧ Below W.heap.size W w' := by
  rw [Try.params5] at hA hval hsz
  obtain ⟨v0, vs0, d0, ds0, p0, q0, e0, rfl, rfl, h0, g0⟩ := trodAll_cons hA
  obtain ⟨ez, rfl, rfl⟩ := trodAll_nil g0
  subst ez
  obtain rfl : args = #[v0] := Array.toList_inj.1 e0
  clear e0
  obtain ⟨a0, l0, c0, rfl, hC0, -, hR0, hW0⟩ := Law.open_list Try.underlying28 Try.underlying3 (by kernel_rfl) (hval 0 28 v0 rfl rfl) h0 (fun x hx => hlt x (by simp [hx]))
  have W0 := fun x hx => Law.wf_i64 (hW0 x hx)
  clear hW0
  clear hval hA hlt hsz h0
  by_cases G0 : (l0.length : Int) > 1048576
  · go_enter Try.func5, Try.ntmps5
    go_wp2_with fail
    go_ret
    exact ⟨rfl, Below.refl _ _⟩
  have L0 : l0.length ≤ 1048576 := by omega
  obtain ⟨r0, hr0⟩ : ∃ r : Int, r = L3.hs l0 := ⟨_, rfl⟩
  have Cspec : ∀ (w : World) (a0 : Option Addr) (c0 : Nat), Sl.Reads w w.heap.size a0 (Sl.ints .i64 l0) → l0.length ≤ c0 → Calls Try.prog 26 #[.slice a0 l0.length c0] w fun e w' => e = .returned (.int .i64 r0) ∧ Below w.heap.size w w' := by
    rw [hr0]
    intro w a0 c0 hr0 hc0
    exact (L3.specHash_any a0 c0 l0 w _ hr0 (by omega)).mono fun _ _ ⟨he, hw⟩ => ⟨he, by rw [← hw]; exact Below.refl _ _⟩
  have Cimpl : ∀ (w : World) (a0 : Option Addr) (c0 : Nat), Sl.Reads w w.heap.size a0 (Sl.ints .i64 l0) → l0.length ≤ c0 → Calls Try.prog 20 #[.slice a0 l0.length c0] w fun e w' => e = .returned (.int .i64 r0) ∧ Below w.heap.size w w' := by
    rw [hr0]
    intro w a0 c0 hr0 hc0
    exact (L3.implHash_any a0 c0 l0 w _ hr0 (by omega)).mono fun _ _ ⟨he, hw⟩ => ⟨he, by rw [← hw]; exact Below.refl _ _⟩
  clear hr0 W0 hC0
  have S0 := Sl.Sep.start W
  go_enter Try.func5, Try.ntmps5
  go_wp2_with fail
  go_at_call 27
  refine (Law.copyIntS S0 hR0 (by omega)).mono ?_
  rintro e w1 ⟨y0, z0, rfl, S1⟩
  clear S0
  go_wp2_with fail
  go_at_call 26
  refine (Cspec _ _ _ (S1.own 0 rfl).reads (S1.own 0 rfl).cap).mono ?_
  rintro e w2 ⟨rfl, hb⟩
  have S2 := S1.keep hb
  clear hb
  clear S1
  go_wp2_with fail
  go_at_call 27
  refine (Law.copyIntS S2 hR0 (by omega)).mono ?_
  rintro e w3 ⟨y1, z1, rfl, S3⟩
  clear S2
  go_wp2_with fail
  go_at_call 20
  refine (Cimpl _ _ _ (S3.own 1 rfl).reads (S3.own 1 rfl).cap).mono ?_
  rintro e w4 ⟨rfl, hb⟩
  have S4 := S3.keep hb
  clear hb
  clear S3
  go_wp2_with fail
  go_at_call 27
  refine (Law.copyIntS S4 hR0 (by omega)).mono ?_
  rintro e w5 ⟨y2, z2, rfl, S5⟩
  clear S4
  go_wp2_with fail
  go_at_call 28
  refine (Law.eqIntS S5 1 2 rfl rfl (by omega)).mono ?_
  rintro e w6 ⟨rfl, S6⟩
  clear S5
  go_wp2_with fail
  go_ret
  exact ⟨rfl, S6.old⟩

set_option maxRecDepth 100000 in
theorem lifted (os : Os) (started : os.Started) (H : Type) (enc : TypeId × Value → H) :
    ReturnsInHanded {} Try.checked os 5 .any (Rows.fnExactHashSpec.pre6 enc Try.prog Try.f5 Rows.fnExactHashRow.domain false) (Rows.fnExactHashSpec.post enc Try.prog Try.f5 false true false false) := by
  refine returnsInHanded_of_change_sized (C := Try.checked) own started (by kernel_rfl) Try.func5
    (ChangeSpec.witness6 (enc := enc) (C := Try.checked) false ⟨#[], #[.slice none 0 0], []⟩ 8 (by kernel_rfl) (by kernel_rfl) (by kernel_rfl) (by kernel_rfl)) ?_
  intro W base args ds gs before hval0 hW _ hsz0 _
  have hval : ∀ (j : Nat) t v, Try.f5.params[j]? = some t → args[j]? = some v → Value.okWide Try.prog W .any base t v := hval0
  have hW' := hW
  obtain ⟨p, q, hA0, hV, rfl, _, _⟩ := hW
  have hA : DataW.TrodAll enc Try.prog W 0 (fun _ => true) true Try.f5.params.toList args.toList ds p := hA0
  obtain ⟨rfl, rfl⟩ := trodVars_none hV
  have hlt : ∀ x ∈ p, x.block < W.heap.size := fun x hx => hW'.lt x (by simpa using hx)
  simp only [List.append_nil] at hW'
  have hw := walk H enc W base args ds p hval hA hlt hsz0
  have hA1 := hA
  clear hA0 hval0 hsz0 hval hlt
  rw [Try.params5] at hA
  obtain ⟨v0, vs0, d0, ds0, p0, q0, e0, rfl, rfl, h0, hr0⟩ := trodAll_cons hA
  obtain ⟨e1, rfl, rfl⟩ := trodAll_nil hr0
  refine hw.mono fun e W' ⟨he, hb⟩ => ?_
  subst he
  exact ⟨_, rfl, Frame.law_post (tb := 4) rfl hW' hA1 rfl rfl rfl laidOut (by kernel_rfl) (by kernel_rfl) Try.underlying4 hb⟩

theorem holds : Rows.FnExactHashSaid :=
  OpenClaim.holds_of_wide 5 Try.f5 rfl rfl rfl rfl rfl rfl rfl ⟨rfl, rfl, rfl, rfl, rfl⟩ rfl rfl rfl rfl rfl (by kernel_rfl) Try.func5 (by kernel_rfl)
    (of_decide_eq_true (by kernel_rfl)) (by unfold Func.isWrapper; first | (rw [if_pos (by decide +kernel)]; kernel_rfl) | (rw [if_neg (by decide +kernel)]; exact ⟨rfl, rfl⟩))
    (fun os started H enc _ => lifted os started H enc)

#print axioms holds
end Go.Proofs.Ytkgmiaoecedjdaa.lawFnExactHash
