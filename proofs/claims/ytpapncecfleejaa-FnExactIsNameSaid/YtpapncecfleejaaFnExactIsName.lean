/-
  The law FnExactIsName answers true for every argument, and leaves its arguments as they were. No condition.
  (The frame is written by my program mk_law.py.)
-/
import Derived.Test.YtpapncecfleejaaFrame
import Derived.SizedLaws
import Derived.LaidLaws
import Derived.ShutString
import Derived.Stop.LaidErr
import Derived.Lib.LaidTab
import Derived.Test.YtpapncecfleejaaLaw
import Derived.Test.YtpapncecfleejaaL5Sp
import Derived.Test.YtpapncecfleejaaL5Ia
namespace Go.Proofs.Ytpapncecfleejaa.lawFnExactIsName
open Go.ChangeShapes Go.WideShapes Go.ChangeAt Go.RowKit
open Go.ChangeMaps (open_string shut_string)
set_option linter.unusedVariables false
theorem own : ownKnob Try.prog.godebug = none := by kernel_rfl
theorem laidOut : laidOutB Try.prog = true := by kernel_rfl
set_option maxRecDepth 100000 in
set_option maxHeartbeats 8000000 in
theorem walk (H : Type) (enc : TypeId × Value → H) (W : World) (base : Nat) (args : Array Value) (ds : List (DataW H)) (p : List MemPlace)
    (hval : ∀ (j : Nat) t v, Try.f5.params[j]? = some t → args[j]? = some v → Value.okWide Try.prog W .any base t v)
    (hA : DataW.TrodAll enc Try.prog W 0 (fun _ => true) true Try.f5.params.toList args.toList ds p)
    (hlt : ∀ x ∈ p, x.block < W.heap.size)
    (hsz : (DataW.weightsEach Try.prog (Try.f5.params.toList ++ Rows.fnExactIsNameSpec.plain.varTypes Try.prog) (ds ++ [])).all (· ≤ reachBytes) = true) :
    Calls Try.prog 5 args W fun e w' => e = .returned (.bool true) ∧ Below W.heap.size W w' := by
  rw [Try.params5] at hA hval hsz
  obtain ⟨v0, vs0, d0, ds0, p0, q0, e0, rfl, rfl, h0, g0⟩ := trodAll_cons hA
  obtain ⟨ez, rfl, rfl⟩ := trodAll_nil g0
  subst ez
  obtain rfl : args = #[v0] := Array.toList_inj.1 e0
  clear e0
  obtain ⟨s0, rfl, -, -, hs0⟩ := open_string Try.underlying9 (hval 0 9 v0 rfl rfl) h0
  clear hval hA hlt hsz h0
  by_cases G0 : (s0.size : Int) > 1048576
  · go_enter Try.func5, Try.ntmps5
    go_wp2_with fail
    go_ret
    exact ⟨rfl, Below.refl _ _⟩
  have L0 : s0.size ≤ 1048576 := by omega
  obtain ⟨r0, hr0⟩ : ∃ r : Bool, r = L5.isN s0.data.toList := ⟨_, rfl⟩
  have Cspec : ∀ (w : World), Calls Try.prog 29 #[.string s0] w fun e w' => e = .returned (.bool r0) ∧ Below w.heap.size w w' := by
    rw [hr0]
    intro w
    exact (L5.specIsName_any s0 (by omega) w).mono fun _ _ ⟨h1, h2⟩ => ⟨h1, by rw [← h2]; exact Below.refl _ _⟩
  have Cimpl : ∀ (w : World), Calls Try.prog 30 #[.string s0] w fun e w' => e = .returned (.bool r0) ∧ Below w.heap.size w w' := by
    rw [hr0]
    intro w
    exact (L5.isName_any s0 (by omega) w).mono fun _ _ ⟨h1, h2⟩ => ⟨h1, by rw [← h2]; exact Below.refl _ _⟩
  clear hr0
  have S0 := Sl.Sep.start W
  go_enter Try.func5, Try.ntmps5
  go_wp2_with fail
  go_at_call 29
  refine (Cspec _).mono ?_
  rintro e w1 ⟨rfl, hb⟩
  have S1 := S0.keep hb
  clear hb
  clear S0
  go_wp2_with fail
  go_at_call 30
  refine (Cimpl _).mono ?_
  rintro e w2 ⟨rfl, hb⟩
  have S2 := S1.keep hb
  clear hb
  clear S1
  go_wp2_with fail
  go_ret
  exact ⟨rfl, S2.old⟩

set_option maxRecDepth 100000 in
theorem lifted (os : Os) (started : os.Started) (H : Type) (enc : TypeId × Value → H) :
    ReturnsInHanded {} Try.checked os 5 .any (Rows.fnExactIsNameSpec.pre6 enc Try.prog Try.f5 Rows.fnExactIsNameRow.domain false) (Rows.fnExactIsNameSpec.post enc Try.prog Try.f5 false true false false) := by
  refine returnsInHanded_of_change_sized (C := Try.checked) own started (by kernel_rfl) Try.func5
    (ChangeSpec.witness6 (enc := enc) (C := Try.checked) false ⟨#[], #[.string ⟨#[]⟩], []⟩ 8 (by kernel_rfl) (by kernel_rfl) (by kernel_rfl) (by kernel_rfl)) ?_
  intro W base args ds gs before hval0 hW _ hsz0 _
  have hval : ∀ (j : Nat) t v, Try.f5.params[j]? = some t → args[j]? = some v → Value.okWide Try.prog W .any base t v := hval0
  have hW' := hW
  obtain ⟨p, q, hA0, hV, rfl, _, _⟩ := hW
  have hA : DataW.TrodAll enc Try.prog W 0 (fun _ => true) true Try.f5.params.toList args.toList ds p := hA0
  obtain ⟨rfl, rfl⟩ := trodVars_none hV
  have hlt : ∀ x ∈ p, x.block < W.heap.size := fun x hx => hW'.lt x (by simpa using hx)
  simp only [List.append_nil] at hW'
  have hw := walk H enc W base args ds p hval hA hlt hsz0
  have hA1 := hA
  clear hA0 hval0 hsz0 hval hlt
  rw [Try.params5] at hA
  obtain ⟨v0, vs0, d0, ds0, p0, q0, e0, rfl, rfl, h0, hr0⟩ := trodAll_cons hA
  obtain ⟨e1, rfl, rfl⟩ := trodAll_nil hr0
  refine hw.mono fun e W' ⟨he, hb⟩ => ?_
  subst he
  exact ⟨_, rfl, Frame.law_post (tb := 4) rfl hW' hA1 rfl rfl rfl laidOut (by kernel_rfl) (by kernel_rfl) Try.underlying4 hb⟩

theorem holds : Rows.FnExactIsNameSaid :=
  OpenClaim.holds_of_wide 5 Try.f5 rfl rfl rfl rfl rfl rfl rfl ⟨rfl, rfl, rfl, rfl, rfl⟩ rfl rfl rfl rfl rfl (by kernel_rfl) Try.func5 (by kernel_rfl)
    (of_decide_eq_true (by kernel_rfl)) (by unfold Func.isWrapper; first | (rw [if_pos (by decide +kernel)]; kernel_rfl) | (rw [if_neg (by decide +kernel)]; exact ⟨rfl, rfl⟩))
    (fun os started H enc _ => lifted os started H enc)

#print axioms holds
end Go.Proofs.Ytpapncecfleejaa.lawFnExactIsName
