import Derived.Test.YtejincmlblpaoaaFnExactCheckSumP1
import Derived.Test.YtejincmlblpaoaaClosed
import Derived.JoinedOf
import Derived.SizedLaws
import Derived.LaidLaws
import Derived.ShutString
import Derived.Stop.LaidErr
import Derived.Lib.LaidTab
import Derived.Deep.RegionHeld3
import Derived.Deep.DeepCutAuto
namespace Go.Proofs.Ytejincmlblpaoaa.lawFnExactCheckSum
open Go.ChangeShapes Go.WideShapes Go.ChangeAt Go.RowKit
open Go.ChangeMaps (open_string shut_string)
theorem own : ownKnob Try.prog.godebug = none := by kernel_rfl
theorem laidOut : laidOutB Try.prog = true := by kernel_rfl
open Mem Sl Bag
open Go.Proofs.Ytejincmlblpaoaa.L5 (cellsF)
set_option maxRecDepth 100000 in
set_option maxHeartbeats 8000000 in
theorem walk (H : Type) (enc : TypeId × Value → H) (W : World) (base : Nat) (args : Array Value) (ds : List (DataW H)) (p : List MemPlace)
  (hval : ∀ (j : Nat) t v, Try.f4.params[j]? = some t → args[j]? = some v → Value.okWide Try.prog W .any base t v)
  (hA : DataW.TrodAll enc Try.prog W 0 (fun _ => true) true Try.f4.params.toList args.toList ds p)
  (hlt : ∀ x ∈ p, x.block < W.heap.size)
  (hsz : (DataW.weightsEach Try.prog (Try.f4.params.toList ++ Rows.fnExactCheckSumSpec.plain.varTypes Try.prog) (ds ++ [])).all (· ≤ reachBytes) = true) :
  Calls Try.prog 4 args W fun e w' => e = .returned (.bool true) ∧ Below W.heap.size W w' := by
 rw [Try.params4] at hA hval hsz
 obtain ⟨v0, vs0, d0, ds0, p0, q0, e0, rfl, rfl, h0, g0⟩ := trodAll_cons hA
 obtain ⟨v1, vs1, d1, ds1, p1, q1, e1, rfl, rfl, h1, g1⟩ := trodAll_cons g0
 obtain ⟨ez, rfl, rfl⟩ := trodAll_nil g1
 subst ez
 subst e1
 obtain rfl : args = #[v0, v1] := Array.toList_inj.1 e0
 clear e0
 obtain ⟨n0, rfl, -, -, hW0⟩ := open_int Try.underlying3 (hval 0 3 v0 rfl rfl) h0
 have I0 := Law.wf_i64 hW0
 clear hW0
 obtain ⟨y1, rfl, hR1, hW1⟩ := V.open_ByteZ (hval 1 22 v1 rfl rfl) h1 (fun x hx => hlt x (by simp [hx]))
 clear hval hA hlt hsz h0 h1
 have HRY1 := Lib.hid (fun w' (h : Below W.heap.size W w') => ((hR1.below h).more h.size : RowsRd w' w'.heap.size (V.rw_ByteZ y1)))
 have HWI1 := Lib.hid hW1
 clear hR1 hW1
 try dsimp only [V.vv_ByteZ]
 have S1 := Lib.hid (show Sl.Sep W W [] from Sl.Sep.start W)
 go_enter Try.func4, Try.ntmps4
 go_upto_region 1 with fail
 by_cases G1 : (1048576 : Int) < (y1.xs.length : Int)
 ·
  skip
  go_wp2_with fail
  go_ret
  exact ⟨rfl, S1.out.old⟩
 have HF1 := Lib.hid (show V.wt_ByteZ (V.co_ByteZ y1) ≤ 1048576 from by show y1.xs.length ≤ _; omega)
 obtain ⟨C1, hC1⟩ : ∃ C, V.co_ByteZ y1 = C := ⟨_, rfl⟩
 rw [hC1] at HF1
 have HC1 := Lib.hid hC1
 clear hC1
 have HBY1 := Lib.hid (show L2.Byt C1 from by rw [← HC1.out]; exact V.byt_ByteZ HWI1.out)
 obtain ⟨r0', hr0'⟩ : ∃ r : Int, L11.sumI n0 C1 = r := ⟨_, rfl⟩
 have Cspec : ∀ (z1 : V.Y_ByteZ), V.co_ByteZ z1 = C1 → ∀ w' : World, RowsRd w' w'.heap.size (V.rw_ByteZ z1) → Calls Try.prog 18 #[.int .i64 n0, .slice z1.a z1.xs.length z1.c] w' fun e w'' => e = .returned (.int .i64 r0') ∧ Below w'.heap.size w' w'' := by
  intro z1 hz1 w' hr1
  have hf1 : V.wt_ByteZ (V.co_ByteZ z1) ≤ 1048576 := by rw [hz1]; exact HF1.out
  have h := (show Calls Try.prog 18 #[.int .i64 n0, .slice z1.a z1.xs.length z1.c] w' (fun e w'' => e = .returned (.int .i64 (L11.sumI n0 (V.co_ByteZ z1))) ∧ Below w'.heap.size w' w'') from L11.specCheckSum_any n0 z1.a z1.c z1.xs w' (V.rd_ByteZ hr1) (by have h := HBY1.out; rw [← hz1] at h; exact h) (Nat.le_trans hf1 (by decide)))
  rw [hz1, hr0'] at h
  exact h
 replace Cspec := Lib.hid Cspec
 have Cimpl : ∀ (z1 : V.Y_ByteZ), V.co_ByteZ z1 = C1 → ∀ w' : World, RowsRd w' w'.heap.size (V.rw_ByteZ z1) → Calls Try.prog 20 #[.int .i64 n0, .slice z1.a z1.xs.length z1.c] w' fun e w'' => e = .returned (.int .i64 r0') ∧ Below w'.heap.size w' w'' := by
  intro z1 hz1 w' hr1
  have hf1 : V.wt_ByteZ (V.co_ByteZ z1) ≤ 1048576 := by rw [hz1]; exact HF1.out
  have h := (show Calls Try.prog 20 #[.int .i64 n0, .slice z1.a z1.xs.length z1.c] w' (fun e w'' => e = .returned (.int .i64 (L11.sumI n0 (V.co_ByteZ z1))) ∧ Below w'.heap.size w' w'') from L11.implCheckSum_any n0 z1.a z1.c z1.xs w' (V.rd_ByteZ hr1) (by have h := HBY1.out; rw [← hz1] at h; exact h) (Nat.le_trans hf1 (by decide)))
  rw [hz1, hr0'] at h
  exact h
 replace Cimpl := Lib.hid Cimpl
 clear hr0'
 go_wp2_with fail
 go_at_call 19
 have HC := V.to_ByteZ y1 (by rw [HC1.out]; exact HF1.out) _ (HRY1.out _ S1.out.old)
 try dsimp only [V.vv_ByteZ] at HC
 refine HC.mono ?_
 clear HC
 rintro e w1 ⟨z1', rfl, hcon, ho, hb⟩
 have S2 := Lib.hid (show Sl.Sep W _ [Bag.bag (V.rw_ByteZ z1')] from Bag.push_bag S1.out hb ho)
 clear S1
 clear hb ho
 have HZz1' := Lib.hid (hcon.trans HC1.out)
 clear hcon
 try dsimp only [V.vv_ByteZ]
 go_wp2_with fail
 go_at_call 18
 have HC := Cspec.out z1' HZz1'.out _ (Bag.bag_rd S2.out 0 rfl)
 try dsimp only [V.vv_ByteZ] at HC
 refine HC.mono ?_
 clear HC
 rintro e w2 ⟨rfl, hb⟩
 have S3 := Lib.hid (S2.out.keep hb)
 clear S2
 clear hb
 have S4 := Lib.hid (show Sl.Sep W _ [] from Bag.take S3.out [] (by rfl) (by decide))
 clear S3
 go_wp2_with fail
 go_at_call 19
 have HC := V.to_ByteZ y1 (by rw [HC1.out]; exact HF1.out) _ (HRY1.out _ S4.out.old)
 try dsimp only [V.vv_ByteZ] at HC
 refine HC.mono ?_
 clear HC
 rintro e w3 ⟨z3', rfl, hcon, ho, hb⟩
 have S5 := Lib.hid (show Sl.Sep W _ [Bag.bag (V.rw_ByteZ z3')] from Bag.push_bag S4.out hb ho)
 clear S4
 clear hb ho
 have HZz3' := Lib.hid (hcon.trans HC1.out)
 clear hcon
 try dsimp only [V.vv_ByteZ]
 go_wp2_with fail
 go_at_call 20
 have HC := Cimpl.out z3' HZz3'.out _ (Bag.bag_rd S5.out 0 rfl)
 try dsimp only [V.vv_ByteZ] at HC
 refine HC.mono ?_
 clear HC
 rintro e w4 ⟨rfl, hb⟩
 have S6 := Lib.hid (S5.out.keep hb)
 clear S5
 clear hb
 go_wp2_with fail
 go_at_call 19
 have HC := V.to_ByteZ y1 (by rw [HC1.out]; exact HF1.out) _ (HRY1.out _ S6.out.old)
 try dsimp only [V.vv_ByteZ] at HC
 refine HC.mono ?_
 clear HC
 rintro e w5 ⟨z5', rfl, hcon, ho, hb⟩
 have S7 := Lib.hid (show Sl.Sep W _ [Bag.bag (V.rw_ByteZ z3'), Bag.bag (V.rw_ByteZ z5')] from Bag.push_bag S6.out hb ho)
 clear S6
 clear hb ho
 have HZz5' := Lib.hid (hcon.trans HC1.out)
 clear hcon
 try dsimp only [V.vv_ByteZ]
 go_wp2_with fail
 go_at_call 21
 have HC := V.eq_ByteZ z3' z5' (HZz3'.out.trans HZz5'.out.symm) (by rw [HZz3'.out]; exact (Nat.le_trans HF1.out (by decide : (1048576 : Nat) ≤ 1099511627776))) _ (Bag.bag_rd S7.out 0 rfl) (Bag.bag_rd S7.out 1 rfl)
 try dsimp only [V.vv_ByteZ] at HC
 refine HC.mono ?_
 clear HC
 rintro e w6 ⟨rfl, hb⟩
 have S8 := Lib.hid (S7.out.keep hb)
 clear S7
 clear hb
 have S9 := Lib.hid (show Sl.Sep W _ [Bag.bag (V.rw_ByteZ z3')] from Bag.take S8.out [0] (by rfl) (by decide))
 clear S8
 go_wp2_with fail
 go_ret
 exact ⟨rfl, S9.out.old⟩

set_option maxRecDepth 100000 in
theorem lifted (os : Os) (started : os.Started) (H : Type) (enc : TypeId × Value → H) :
  ReturnsInHanded {} Try.checked os 4 .any (Rows.fnExactCheckSumSpec.pre6 enc Try.prog Try.f4 Rows.fnExactCheckSumRow.domain false) (Rows.fnExactCheckSumSpec.post enc Try.prog Try.f4 false true false false) := by
 refine returnsInHanded_of_change_sized (C := Try.checked) own started (by kernel_rfl) Try.func4
  (ChangeSpec.witness6 (enc := enc) (C := Try.checked) false ⟨#[], #[.int .i64 0, .slice none 0 0], []⟩ 8 (by kernel_rfl) (by kernel_rfl) (by kernel_rfl) (by kernel_rfl)) ?_
 intro W base args ds gs before hval0 hW _ hsz0 _
 have hval : ∀ (j : Nat) t v, Try.f4.params[j]? = some t → args[j]? = some v → Value.okWide Try.prog W .any base t v := hval0
 have hW' := hW
 obtain ⟨p, q, hA0, hV, rfl, _, _⟩ := hW
 have hA : DataW.TrodAll enc Try.prog W 0 (fun _ => true) true Try.f4.params.toList args.toList ds p := hA0
 obtain ⟨rfl, rfl⟩ := trodVars_none hV
 have hlt : ∀ x ∈ p, x.block < W.heap.size := fun x hx => hW'.lt x (by simpa using hx)
 simp only [List.append_nil] at hW'
 have hw := walk H enc W base args ds p hval hA hlt hsz0
 have hA1 := hA
 clear hA0 hval0 hsz0 hval hlt
 rw [Try.params4] at hA
 obtain ⟨v0, vs0, d0, ds0, p0, q0, e0, rfl, rfl, h0, hr0⟩ := trodAll_cons hA
 obtain ⟨v1, vs1, d1, ds1, p1, q1, e1, rfl, rfl, h1, hr1⟩ := trodAll_cons hr0
 obtain ⟨e2, rfl, rfl⟩ := trodAll_nil hr1
 refine hw.mono fun e W' ⟨he, hb⟩ => ?_
 subst he
 exact ⟨_, rfl, Frame.law_post (tb := 4) rfl hW' hA1 rfl rfl rfl laidOut (by kernel_rfl) (by kernel_rfl) Try.underlying4 hb⟩

theorem closedFacts : joinedFacts Try.pinned.checked.prog 4 Try.f4 Rows.fnExactCheckSumSpec Rows.fnExactCheckSumRow = true := by
 have h1 : Try.pinned.checked.prog.mayEnter = true := Closed.mayIn
 have h2 : (Rows.fnExactCheckSumRow.lifted == Try.pinned.checked.prog.liftsFinal) = true := by
  rw [show Try.pinned.checked.prog.liftsFinal = false from Closed.liftsNone]; rfl
 have h3 : (Try.pinned.checked.prog.make == some Rows.fnExactCheckSumRow.make) = true := by
  rw [show Try.pinned.checked.prog.make = some .cut from Closed.makeIs]; rfl
 unfold joinedFacts
 rw [h1, h2, h3]
 change _ = true
 kernel_rfl
theorem holds : Rows.FnExactCheckSumSaid :=
 OpenClaim.holds_of_wide 4 Try.f4 rfl rfl rfl rfl rfl rfl rfl ⟨rfl, rfl, rfl, rfl, rfl⟩ rfl rfl rfl rfl rfl (by kernel_rfl) Try.func4 closedFacts
  (of_decide_eq_true (by kernel_rfl)) (by unfold Func.isWrapper; first | (rw [if_pos (by decide +kernel)]; kernel_rfl) | (rw [if_neg (by decide +kernel)]; exact ⟨rfl, rfl⟩))
  (fun os started H enc _ => lifted os started H enc)

#print axioms holds
end Go.Proofs.Ytejincmlblpaoaa.lawFnExactCheckSum
