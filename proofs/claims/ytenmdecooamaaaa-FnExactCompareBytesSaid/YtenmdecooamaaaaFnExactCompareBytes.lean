/-
  The law FnExactCompareBytes answers true for every argument, and leaves its arguments as they were. No condition.
  (The frame is written by my program mk_law.py.)
-/
import Derived.Test.YtenmdecooamaaaaFrame
import Derived.SizedLaws
import Derived.LaidLaws
import Derived.ShutString
import Derived.Stop.LaidErr
import Derived.Lib.LaidTab
import Derived.Test.YtenmdecooamaaaaLaw
import Derived.Test.YtenmdecooamaaaaL4Im2
import Derived.Test.YtenmdecooamaaaaL4Dec
namespace Go.Proofs.Ytenmdecooamaaaa.lawFnExactCompareBytes
open Go.ChangeShapes Go.WideShapes Go.ChangeAt Go.RowKit
open Go.ChangeMaps (open_string shut_string)
set_option linter.unusedVariables false
theorem own : ownKnob Try.prog.godebug = none := by kernel_rfl
theorem laidOut : laidOutB Try.prog = true := by kernel_rfl
set_option maxRecDepth 100000 in
set_option maxHeartbeats 1000000 in
theorem walk (H : Type) (enc : TypeId × Value → H) (W : World) (base : Nat) (args : Array Value) (ds : List (DataW H)) (p : List MemPlace)
    (hval : ∀ (j : Nat) t v, Try.f8.params[j]? = some t → args[j]? = some v → Value.okWide Try.prog W .any base t v)
    (hA : DataW.TrodAll enc Try.prog W 0 (fun _ => true) true Try.f8.params.toList args.toList ds p)
    (hlt : ∀ x ∈ p, x.block < W.heap.size)
    (hsz : (DataW.weightsEach Try.prog (Try.f8.params.toList ++ Rows.fnExactCompareBytesSpec.plain.varTypes Try.prog) (ds ++ [])).all (· ≤ reachBytes) = true) :
    Calls Try.prog 8 args W fun e w' => e = .returned (.bool true) ∧ Below W.heap.size W w' := by
  rw [Try.params8] at hA hval hsz
  obtain ⟨v0, vs0, d0, ds0, p0, q0, e0, rfl, rfl, h0, g0⟩ := trodAll_cons hA
  obtain ⟨v1, vs1, d1, ds1, p1, q1, e1, rfl, rfl, h1, g1⟩ := trodAll_cons g0
  obtain ⟨ez, rfl, rfl⟩ := trodAll_nil g1
  subst ez
  subst e1
  obtain rfl : args = #[v0, v1] := Array.toList_inj.1 e0
  clear e0
  obtain ⟨a0, l0, c0, rfl, hC0, -, hR0, hW0⟩ := Law.open_list Try.underlying22 Try.underlying5 (by kernel_rfl) (hval 0 22 v0 rfl rfl) h0 (fun x hx => hlt x (by simp [hx]))
  have W0 := fun x hx => Law.wf_u8 (hW0 x hx)
  clear hW0
  obtain ⟨a1, l1, c1, rfl, hC1, -, hR1, hW1⟩ := Law.open_list Try.underlying22 Try.underlying5 (by kernel_rfl) (hval 1 22 v1 rfl rfl) h1 (fun x hx => hlt x (by simp [hx]))
  have W1 := fun x hx => Law.wf_u8 (hW1 x hx)
  clear hW1
  clear hval hA hlt hsz h0 h1
  by_cases G0 : (l0.length : Int) > 1048576
  · go_enter Try.func8, Try.ntmps8
    go_wp2_with fail
    go_ret
    exact ⟨rfl, Below.refl _ _⟩
  have L0 : l0.length ≤ 1048576 := by omega
  by_cases G1 : (l1.length : Int) > 1048576
  · go_enter Try.func8, Try.ntmps8
    go_wp2_with fail
    go_ret
    exact ⟨rfl, Below.refl _ _⟩
  have L1 : l1.length ≤ 1048576 := by omega
  obtain ⟨r0, hr0⟩ : ∃ r : Int, r = L4.cmpL (L4.toU l0) (L4.toU l1) := ⟨_, rfl⟩
  have Cspec : ∀ (w : World) (a0 : Option Addr) (c0 : Nat) (a1 : Option Addr) (c1 : Nat), Sl.Reads w w.heap.size a0 (Sl.ints .u8 l0) → l0.length ≤ c0 → Sl.Reads w w.heap.size a1 (Sl.ints .u8 l1) → l1.length ≤ c1 → Calls Try.prog 31 #[.slice a0 l0.length c0, .slice a1 l1.length c1] w fun e w' => e = .returned (.int .i64 r0) ∧ Below w.heap.size w w' := by
    rw [hr0]
    intro w a0 c0 a1 c1 hr0 hc0 hr1 hc1
    exact (L4.specCompareBytes_any a0 a1 c0 c1 l0 l1 w _ hr0 hr1).mono fun _ _ ⟨he, hd⟩ => ⟨he, hd.below _⟩
  have Cimpl : ∀ (w : World) (a0 : Option Addr) (c0 : Nat) (a1 : Option Addr) (c1 : Nat), Sl.Reads w w.heap.size a0 (Sl.ints .u8 l0) → l0.length ≤ c0 → Sl.Reads w w.heap.size a1 (Sl.ints .u8 l1) → l1.length ≤ c1 → Calls Try.prog 32 #[.slice a0 l0.length c0, .slice a1 l1.length c1] w fun e w' => e = .returned (.int .i64 r0) ∧ Below w.heap.size w w' := by
    rw [hr0]
    intro w a0 c0 a1 c1 hr0 hc0 hr1 hc1
    exact (L4.implCompareBytes_any a0 a1 c0 c1 l0 l1 w _ hr0 hr1).mono fun _ _ ⟨he, hd⟩ => ⟨he, hd.below _⟩
  clear hr0 W0 W1 hC0 hC1
  have S0 := Sl.Sep.start W
  go_enter Try.func8, Try.ntmps8
  go_wp2_with fail
  go_at_call 29
  refine (Law.copyByteS S0 hR0 (by omega)).mono ?_
  rintro e w1 ⟨y0, z0, rfl, S1⟩
  clear S0
  go_wp2_with fail
  go_at_call 29
  refine (Law.copyByteS S1 hR1 (by omega)).mono ?_
  rintro e w2 ⟨y1, z1, rfl, S2⟩
  clear S1
  go_wp2_with fail
  go_at_call 31
  refine (Cspec _ _ _ _ _ (S2.own 0 rfl).reads (S2.own 0 rfl).cap (S2.own 1 rfl).reads (S2.own 1 rfl).cap).mono ?_
  rintro e w3 ⟨rfl, hb⟩
  have S3 := S2.keep hb
  clear hb
  clear S2
  go_wp2_with fail
  go_at_call 29
  refine (Law.copyByteS S3 hR0 (by omega)).mono ?_
  rintro e w4 ⟨y2, z2, rfl, S4⟩
  clear S3
  go_wp2_with fail
  go_at_call 29
  refine (Law.copyByteS S4 hR1 (by omega)).mono ?_
  rintro e w5 ⟨y3, z3, rfl, S5⟩
  clear S4
  go_wp2_with fail
  go_at_call 32
  refine (Cimpl _ _ _ _ _ (S5.own 2 rfl).reads (S5.own 2 rfl).cap (S5.own 3 rfl).reads (S5.own 3 rfl).cap).mono ?_
  rintro e w6 ⟨rfl, hb⟩
  have S6 := S5.keep hb
  clear hb
  clear S5
  go_wp2_with fail
  go_at_call 29
  refine (Law.copyByteS S6 hR0 (by omega)).mono ?_
  rintro e w7 ⟨y4, z4, rfl, S7⟩
  clear S6
  go_wp2_with fail
  go_at_call 25
  refine (Law.eqByteS S7 2 4 rfl rfl (by omega)).mono ?_
  rintro e w8 ⟨rfl, S8⟩
  clear S7
  go_wp2_with fail
  go_at_call 29
  refine (Law.copyByteS S8 hR1 (by omega)).mono ?_
  rintro e w9 ⟨y5, z5, rfl, S9⟩
  clear S8
  go_wp2_with fail
  go_at_call 25
  refine (Law.eqByteS S9 3 5 rfl rfl (by omega)).mono ?_
  rintro e w10 ⟨rfl, S10⟩
  clear S9
  go_wp2_with fail
  go_ret
  exact ⟨rfl, S10.old⟩

set_option maxRecDepth 100000 in
theorem lifted (os : Os) (started : os.Started) (H : Type) (enc : TypeId × Value → H) :
    ReturnsInHanded {} Try.checked os 8 .any (Rows.fnExactCompareBytesSpec.pre6 enc Try.prog Try.f8 Rows.fnExactCompareBytesRow.domain false) (Rows.fnExactCompareBytesSpec.post enc Try.prog Try.f8 false true false false) := by
  refine returnsInHanded_of_change_sized (C := Try.checked) own started (by kernel_rfl) Try.func8
    (ChangeSpec.witness6 (enc := enc) (C := Try.checked) false ⟨#[], #[.slice none 0 0, .slice none 0 0], []⟩ 8 (by kernel_rfl) (by kernel_rfl) (by kernel_rfl) (by kernel_rfl)) ?_
  intro W base args ds gs before hval0 hW _ hsz0 _
  have hval : ∀ (j : Nat) t v, Try.f8.params[j]? = some t → args[j]? = some v → Value.okWide Try.prog W .any base t v := hval0
  have hW' := hW
  obtain ⟨p, q, hA0, hV, rfl, _, _⟩ := hW
  have hA : DataW.TrodAll enc Try.prog W 0 (fun _ => true) true Try.f8.params.toList args.toList ds p := hA0
  obtain ⟨rfl, rfl⟩ := trodVars_none hV
  have hlt : ∀ x ∈ p, x.block < W.heap.size := fun x hx => hW'.lt x (by simpa using hx)
  simp only [List.append_nil] at hW'
  have hw := walk H enc W base args ds p hval hA hlt hsz0
  have hA1 := hA
  clear hA0 hval0 hsz0 hval hlt
  rw [Try.params8] at hA
  obtain ⟨v0, vs0, d0, ds0, p0, q0, e0, rfl, rfl, h0, hr0⟩ := trodAll_cons hA
  obtain ⟨v1, vs1, d1, ds1, p1, q1, e1, rfl, rfl, h1, hr1⟩ := trodAll_cons hr0
  obtain ⟨e2, rfl, rfl⟩ := trodAll_nil hr1
  refine hw.mono fun e W' ⟨he, hb⟩ => ?_
  subst he
  exact ⟨_, rfl, Frame.law_post (tb := 4) rfl hW' hA1 rfl rfl rfl laidOut (by kernel_rfl) (by kernel_rfl) Try.underlying4 hb⟩

theorem holds : Rows.FnExactCompareBytesSaid :=
  OpenClaim.holds_of_wide 8 Try.f8 rfl rfl rfl rfl rfl rfl rfl ⟨rfl, rfl, rfl, rfl, rfl⟩ rfl rfl rfl rfl rfl (by kernel_rfl) Try.func8 (by kernel_rfl)
    (of_decide_eq_true (by kernel_rfl)) (by unfold Func.isWrapper; first | (rw [if_pos (by decide +kernel)]; kernel_rfl) | (rw [if_neg (by decide +kernel)]; exact ⟨rfl, rfl⟩))
    (fun os started H enc _ => lifted os started H enc)

#print axioms holds
end Go.Proofs.Ytenmdecooamaaaa.lawFnExactCompareBytes
