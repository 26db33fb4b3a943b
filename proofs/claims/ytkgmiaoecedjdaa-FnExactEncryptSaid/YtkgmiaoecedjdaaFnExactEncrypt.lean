/-
  The law FnExactEncrypt answers true for every argument, and leaves its arguments as they were. No condition.
  (The frame is written by my program mk_law.py.)
-/
import Derived.Test.YtkgmiaoecedjdaaFrame
import Derived.SizedLaws
import Derived.LaidLaws
import Derived.ShutString
import Derived.Stop.LaidErr
import Derived.Lib.LaidTab
import Derived.Test.YtkgmiaoecedjdaaLaw
import Derived.Test.YtkgmiaoecedjdaaL3Enc
namespace Go.Proofs.Ytkgmiaoecedjdaa.lawFnExactEncrypt
open Go.ChangeShapes Go.WideShapes Go.ChangeAt Go.RowKit
open Go.ChangeMaps (open_string shut_string)
set_option linter.unusedVariables false
theorem own : ownKnob Try.prog.godebug = none := by kernel_rfl
theorem laidOut : laidOutB Try.prog = true := by kernel_rfl
set_option maxRecDepth 100000 in
set_option maxHeartbeats 1000000 in
theorem walk (H : Type) (enc : TypeId × Value → H) (W : World) (base : Nat) (args : Array Value) (ds : List (DataW H)) (p : List MemPlace)
    (hval : ∀ (j : Nat) t v, Try.f9.params[j]? = some t → args[j]? = some v → Value.okWide Try.prog W .any base t v)
    (hA : DataW.TrodAll enc Try.prog W 0 (fun _ => true) true Try.f9.params.toList args.toList ds p)
    (hlt : ∀ x ∈ p, x.block < W.heap.size)
    (hsz : (DataW.weightsEach Try.prog (Try.f9.params.toList ++ Rows.fnExactEncryptSpec.plain.varTypes Try.prog) (ds ++ [])).all (· ≤ reachBytes) = true) :
    Calls Try.prog 9 args W fun e w' => e = .returned (.bool true) ∧ Below W.heap.size W w' := by
  rw [Try.params9] at hA hval hsz
  obtain ⟨v0, vs0, d0, ds0, p0, q0, e0, rfl, rfl, h0, g0⟩ := trodAll_cons hA
  obtain ⟨v1, vs1, d1, ds1, p1, q1, e1, rfl, rfl, h1, g1⟩ := trodAll_cons g0
  obtain ⟨ez, rfl, rfl⟩ := trodAll_nil g1
  subst ez
  subst e1
  obtain rfl : args = #[v0, v1] := Array.toList_inj.1 e0
  clear e0
  obtain ⟨n0, rfl, -, -, hW0⟩ := open_int Try.underlying3 (hval 0 3 v0 rfl rfl) h0
  have I0 := Law.wf_i64 hW0
  clear hW0
  obtain ⟨a1, l1, c1, rfl, hC1, -, hR1, hW1⟩ := Law.open_list Try.underlying22 Try.underlying5 (by kernel_rfl) (hval 1 22 v1 rfl rfl) h1 (fun x hx => hlt x (by simp [hx]))
  have W1 := fun x hx => Law.wf_u8 (hW1 x hx)
  clear hW1
  clear hval hA hlt hsz h0 h1
  by_cases G1 : (l1.length : Int) > 1048576
  · go_enter Try.func9, Try.ntmps9
    go_wp2_with fail
    go_ret
    exact ⟨rfl, Below.refl _ _⟩
  have L1 : l1.length ≤ 1048576 := by omega
  obtain ⟨r0, hr0⟩ : ∃ r : List Int, r = L3.encL n0 l1 := ⟨_, rfl⟩
  have RL0 : r0.length ≤ 1099511627776 := by rw [hr0]; exact by simp; omega
  have Cspec : ∀ (w : World) (a1 : Option Addr) (c1 : Nat), Sl.Reads w w.heap.size a1 (Sl.ints .u8 l1) → l1.length ≤ c1 → Calls Try.prog 38 #[.int .i64 n0, .slice a1 l1.length c1] w fun e w' => ∃ ax0 cx0, e = .returned (.slice ax0 r0.length cx0) ∧ Sl.Own w' w.heap.size 5 .u8 ax0 cx0 r0 ∧ Below w.heap.size w w' := by
    rw [hr0]
    intro w a1 c1 hr1 hc1
    exact L3.specEncrypt_any n0 a1 c1 l1 w hr1 W1 (by omega)
  have Cimpl : ∀ (w : World) (a1 : Option Addr) (c1 : Nat), Sl.Reads w w.heap.size a1 (Sl.ints .u8 l1) → l1.length ≤ c1 → Calls Try.prog 17 #[.int .i64 n0, .slice a1 l1.length c1] w fun e w' => ∃ ax0 cx0, e = .returned (.slice ax0 r0.length cx0) ∧ Sl.Own w' w.heap.size 5 .u8 ax0 cx0 r0 ∧ Below w.heap.size w w' := by
    rw [hr0]
    intro w a1 c1 hr1 hc1
    exact L3.implEncrypt_any n0 a1 c1 l1 w hr1 W1 (by omega)
  clear hr0 W1 hC1
  have S0 := Sl.Sep.start W
  go_enter Try.func9, Try.ntmps9
  go_wp2_with fail
  go_at_call 32
  refine (Law.copyByteS S0 hR1 (by omega)).mono ?_
  rintro e w1 ⟨y0, z0, rfl, S1⟩
  clear S0
  go_wp2_with fail
  go_at_call 38
  refine (Cspec _ _ _ (S1.own 0 rfl).reads (S1.own 0 rfl).cap).mono ?_
  rintro e w2 ⟨y1, z1, rfl, ho, hb⟩
  have S2 := S1.pushOwn hb ho
  clear ho hb
  clear S1
  go_wp2_with fail
  go_at_call 32
  refine (Law.copyByteS S2 hR1 (by omega)).mono ?_
  rintro e w3 ⟨y2, z2, rfl, S3⟩
  clear S2
  go_wp2_with fail
  go_at_call 17
  refine (Cimpl _ _ _ (S3.own 2 rfl).reads (S3.own 2 rfl).cap).mono ?_
  rintro e w4 ⟨y3, z3, rfl, ho, hb⟩
  have S4 := S3.pushOwn hb ho
  clear ho hb
  clear S3
  go_wp2_with fail
  go_at_call 34
  refine (Law.eqByteS S4 3 1 rfl rfl (by omega)).mono ?_
  rintro e w5 ⟨rfl, S5⟩
  clear S4
  go_wp2_with fail
  go_at_call 32
  refine (Law.copyByteS S5 hR1 (by omega)).mono ?_
  rintro e w6 ⟨y4, z4, rfl, S6⟩
  clear S5
  go_wp2_with fail
  go_at_call 34
  refine (Law.eqByteS S6 2 4 rfl rfl (by omega)).mono ?_
  rintro e w7 ⟨rfl, S7⟩
  clear S6
  go_wp2_with fail
  go_at_call 35
  refine (Law.markByteS S7 2 rfl _ (by omega) (by omega) (by omega)).mono ?_
  rintro e w8 ⟨rfl, S8⟩
  clear S7
  go_wp2_with fail
  go_at_call 34
  refine (Law.eqByteS S8 3 1 rfl rfl (by omega)).mono ?_
  rintro e w9 ⟨rfl, S9⟩
  clear S8
  go_wp2_with fail
  go_at_call 35
  refine (Law.markByteS S9 3 rfl _ (by omega) (by omega) (by omega)).mono ?_
  rintro e w10 ⟨rfl, S10⟩
  clear S9
  go_wp2_with fail
  go_at_call 39
  refine (Law.heldByteS S10 3 _ rfl (by omega) (by omega) (by omega)).mono ?_
  rintro e w11 ⟨rfl, S11⟩
  clear S10
  go_wp2_with fail
  go_at_call 32
  refine (Law.copyByteS S11 hR1 (by omega)).mono ?_
  rintro e w12 ⟨y5, z5, rfl, S12⟩
  clear S11
  go_wp2_with fail
  go_at_call 17
  refine (Cimpl _ _ _ (S12.own 5 rfl).reads (S12.own 5 rfl).cap).mono ?_
  rintro e w13 ⟨y6, z6, rfl, ho, hb⟩
  have S13 := S12.pushOwn hb ho
  clear ho hb
  clear S12
  go_wp2_with fail
  go_at_call 34
  refine (Law.eqByteS S13 6 1 rfl rfl (by omega)).mono ?_
  rintro e w14 ⟨rfl, S14⟩
  clear S13
  go_wp2_with fail
  go_at_call 39
  refine (Law.heldByteS S14 3 _ rfl (by omega) (by omega) (by omega)).mono ?_
  rintro e w15 ⟨rfl, S15⟩
  clear S14
  go_wp2_with fail
  go_ret
  exact ⟨rfl, S15.old⟩

set_option maxRecDepth 100000 in
theorem lifted (os : Os) (started : os.Started) (H : Type) (enc : TypeId × Value → H) :
    ReturnsInHanded {} Try.checked os 9 .any (Rows.fnExactEncryptSpec.pre6 enc Try.prog Try.f9 Rows.fnExactEncryptRow.domain false) (Rows.fnExactEncryptSpec.post enc Try.prog Try.f9 false true false false) := by
  refine returnsInHanded_of_change_sized (C := Try.checked) own started (by kernel_rfl) Try.func9
    (ChangeSpec.witness6 (enc := enc) (C := Try.checked) false ⟨#[], #[.int .i64 0, .slice none 0 0], []⟩ 8 (by kernel_rfl) (by kernel_rfl) (by kernel_rfl) (by kernel_rfl)) ?_
  intro W base args ds gs before hval0 hW _ hsz0 _
  have hval : ∀ (j : Nat) t v, Try.f9.params[j]? = some t → args[j]? = some v → Value.okWide Try.prog W .any base t v := hval0
  have hW' := hW
  obtain ⟨p, q, hA0, hV, rfl, _, _⟩ := hW
  have hA : DataW.TrodAll enc Try.prog W 0 (fun _ => true) true Try.f9.params.toList args.toList ds p := hA0
  obtain ⟨rfl, rfl⟩ := trodVars_none hV
  have hlt : ∀ x ∈ p, x.block < W.heap.size := fun x hx => hW'.lt x (by simpa using hx)
  simp only [List.append_nil] at hW'
  have hw := walk H enc W base args ds p hval hA hlt hsz0
  have hA1 := hA
  clear hA0 hval0 hsz0 hval hlt
  rw [Try.params9] at hA
  obtain ⟨v0, vs0, d0, ds0, p0, q0, e0, rfl, rfl, h0, hr0⟩ := trodAll_cons hA
  obtain ⟨v1, vs1, d1, ds1, p1, q1, e1, rfl, rfl, h1, hr1⟩ := trodAll_cons hr0
  obtain ⟨e2, rfl, rfl⟩ := trodAll_nil hr1
  refine hw.mono fun e W' ⟨he, hb⟩ => ?_
  subst he
  exact ⟨_, rfl, Frame.law_post (tb := 4) rfl hW' hA1 rfl rfl rfl laidOut (by kernel_rfl) (by kernel_rfl) Try.underlying4 hb⟩

theorem holds : Rows.FnExactEncryptSaid :=
  OpenClaim.holds_of_wide 9 Try.f9 rfl rfl rfl rfl rfl rfl rfl ⟨rfl, rfl, rfl, rfl, rfl⟩ rfl rfl rfl rfl rfl (by kernel_rfl) Try.func9 (by kernel_rfl)
    (of_decide_eq_true (by kernel_rfl)) (by unfold Func.isWrapper; first | (rw [if_pos (by decide +kernel)]; kernel_rfl) | (rw [if_neg (by decide +kernel)]; exact ⟨rfl, rfl⟩))
    (fun os started H enc _ => lifted os started H enc)

#print axioms holds
end Go.Proofs.Ytkgmiaoecedjdaa.lawFnExactEncrypt
