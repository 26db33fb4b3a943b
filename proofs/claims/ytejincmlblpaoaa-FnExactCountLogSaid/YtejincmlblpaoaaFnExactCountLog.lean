import Derived.Test.YtejincmlblpaoaaFnExactCountLogP1
import Derived.Test.YtejincmlblpaoaaClosed
import Derived.JoinedOf
import Derived.SizedLaws
import Derived.LaidLaws
import Derived.ShutString
import Derived.Stop.LaidErr
import Derived.Lib.LaidTab
import Derived.Deep.RegionHeld3
import Derived.Deep.DeepCutAuto
namespace Go.Proofs.Ytejincmlblpaoaa.lawFnExactCountLog
open Go.ChangeShapes Go.WideShapes Go.ChangeAt Go.RowKit
open Go.ChangeMaps (open_string shut_string)
theorem own : ownKnob Try.prog.godebug = none := by kernel_rfl
theorem laidOut : laidOutB Try.prog = true := by kernel_rfl
open Mem Sl Bag
open Go.Proofs.Ytejincmlblpaoaa.L5 (cellsF)
set_option maxRecDepth 100000 in
set_option maxHeartbeats 8000000 in
theorem walk (H : Type) (enc : TypeId × Value → H) (W : World) (base : Nat) (args : Array Value) (ds : List (DataW H)) (p : List MemPlace)
  (hval : ∀ (j : Nat) t v, Try.f9.params[j]? = some t → args[j]? = some v → Value.okWide Try.prog W .any base t v)
  (hA : DataW.TrodAll enc Try.prog W 0 (fun _ => true) true Try.f9.params.toList args.toList ds p)
  (hlt : ∀ x ∈ p, x.block < W.heap.size)
  (hsz : (DataW.weightsEach Try.prog (Try.f9.params.toList ++ Rows.fnExactCountLogSpec.plain.varTypes Try.prog) (ds ++ [])).all (· ≤ reachBytes) = true) :
  Calls Try.prog 9 args W fun e w' => e = .returned (.bool true) ∧ Below W.heap.size W w' := by
 rw [Try.params9] at hA hval hsz
 obtain ⟨v0, vs0, d0, ds0, p0, q0, e0, rfl, rfl, h0, g0⟩ := trodAll_cons hA
 obtain ⟨ez, rfl, rfl⟩ := trodAll_nil g0
 subst ez
 obtain rfl : args = #[v0] := Array.toList_inj.1 e0
 clear e0
 obtain ⟨y0, rfl, hR0, hW0⟩ := V.open_ByteZ (hval 0 22 v0 rfl rfl) h0 (fun x hx => hlt x (by simp [hx]))
 clear hval hA hlt hsz h0
 have HRY0 := Lib.hid (fun w' (h : Below W.heap.size W w') => ((hR0.below h).more h.size : RowsRd w' w'.heap.size (V.rw_ByteZ y0)))
 have HWI0 := Lib.hid hW0
 clear hR0 hW0
 try dsimp only [V.vv_ByteZ]
 have S1 := Lib.hid (show Sl.Sep W W [] from Sl.Sep.start W)
 go_enter Try.func9, Try.ntmps9
 go_upto_region 1 with fail
 by_cases G0 : (1048576 : Int) < (y0.xs.length : Int)
 ·
  skip
  go_wp2_with fail
  go_ret
  exact ⟨rfl, S1.out.old⟩
 have HF0 := Lib.hid (show V.wt_ByteZ (V.co_ByteZ y0) ≤ 1048576 from by show y0.xs.length ≤ _; omega)
 obtain ⟨C0, hC0⟩ : ∃ C, V.co_ByteZ y0 = C := ⟨_, rfl⟩
 rw [hC0] at HF0
 have HC0 := Lib.hid hC0
 clear hC0
 have HBY0 := Lib.hid (show L2.Byt C0 from by rw [← HC0.out]; exact V.byt_ByteZ HWI0.out)
 obtain ⟨r0', hr0'⟩ : ∃ r : Nat, L11.cntL C0 = r := ⟨_, rfl⟩
 have Cspec : ∀ (z0 : V.Y_ByteZ), V.co_ByteZ z0 = C0 → ∀ w' : World, RowsRd w' w'.heap.size (V.rw_ByteZ z0) → Calls Try.prog 31 #[.slice z0.a z0.xs.length z0.c] w' fun e w'' => e = .returned (.int .i64 (r0' : Nat)) ∧ Below w'.heap.size w' w'' := by
  intro z0 hz0 w' hr0
  have hf0 : V.wt_ByteZ (V.co_ByteZ z0) ≤ 1048576 := by rw [hz0]; exact HF0.out
  have h := (show Calls Try.prog 31 #[.slice z0.a z0.xs.length z0.c] w' (fun e w'' => e = .returned (.int .i64 (L11.cntL (V.co_ByteZ z0))) ∧ Below w'.heap.size w' w'') from L11.specCountLog_any z0.a z0.c z0.xs (by have h := HBY0.out; rw [← hz0] at h; exact h) (V.cap_ByteZ hr0) (Nat.le_trans hf0 (by decide)) w' (V.rd_ByteZ hr0))
  rw [hz0, hr0'] at h
  exact h
 replace Cspec := Lib.hid Cspec
 have Cimpl : ∀ (z0 : V.Y_ByteZ), V.co_ByteZ z0 = C0 → ∀ w' : World, RowsRd w' w'.heap.size (V.rw_ByteZ z0) → Calls Try.prog 17 #[.slice z0.a z0.xs.length z0.c] w' fun e w'' => e = .returned (.int .i64 (r0' : Nat)) ∧ Below w'.heap.size w' w'' := by
  intro z0 hz0 w' hr0
  have hf0 : V.wt_ByteZ (V.co_ByteZ z0) ≤ 1048576 := by rw [hz0]; exact HF0.out
  have h := (show Calls Try.prog 17 #[.slice z0.a z0.xs.length z0.c] w' (fun e w'' => e = .returned (.int .i64 (L11.cntL (V.co_ByteZ z0))) ∧ Below w'.heap.size w' w'') from L11.implCountLog_any z0.a z0.c z0.xs (by have h := HBY0.out; rw [← hz0] at h; exact h) (V.cap_ByteZ hr0) (Nat.le_trans hf0 (by decide)) w' (V.rd_ByteZ hr0))
  rw [hz0, hr0'] at h
  exact h
 replace Cimpl := Lib.hid Cimpl
 clear hr0'
 go_wp2_with fail
 go_at_call 19
 have HC := V.to_ByteZ y0 (by rw [HC0.out]; exact HF0.out) _ (HRY0.out _ S1.out.old)
 try dsimp only [V.vv_ByteZ] at HC
 refine HC.mono ?_
 clear HC
 rintro e w1 ⟨z1', rfl, hcon, ho, hb⟩
 have S2 := Lib.hid (show Sl.Sep W _ [Bag.bag (V.rw_ByteZ z1')] from Bag.push_bag S1.out hb ho)
 clear S1
 clear hb ho
 have HZz1' := Lib.hid (hcon.trans HC0.out)
 clear hcon
 try dsimp only [V.vv_ByteZ]
 go_wp2_with fail
 go_at_call 31
 have HC := Cspec.out z1' HZz1'.out _ (Bag.bag_rd S2.out 0 rfl)
 try dsimp only [V.vv_ByteZ] at HC
 refine HC.mono ?_
 clear HC
 rintro e w2 ⟨rfl, hb⟩
 have S3 := Lib.hid (S2.out.keep hb)
 clear S2
 clear hb
 have S4 := Lib.hid (show Sl.Sep W _ [] from Bag.take S3.out [] (by rfl) (by decide))
 clear S3
 go_wp2_with fail
 go_at_call 19
 have HC := V.to_ByteZ y0 (by rw [HC0.out]; exact HF0.out) _ (HRY0.out _ S4.out.old)
 try dsimp only [V.vv_ByteZ] at HC
 refine HC.mono ?_
 clear HC
 rintro e w3 ⟨z3', rfl, hcon, ho, hb⟩
 have S5 := Lib.hid (show Sl.Sep W _ [Bag.bag (V.rw_ByteZ z3')] from Bag.push_bag S4.out hb ho)
 clear S4
 clear hb ho
 have HZz3' := Lib.hid (hcon.trans HC0.out)
 clear hcon
 try dsimp only [V.vv_ByteZ]
 go_wp2_with fail
 go_at_call 17
 have HC := Cimpl.out z3' HZz3'.out _ (Bag.bag_rd S5.out 0 rfl)
 try dsimp only [V.vv_ByteZ] at HC
 refine HC.mono ?_
 clear HC
 rintro e w4 ⟨rfl, hb⟩
 have S6 := Lib.hid (S5.out.keep hb)
 clear S5
 clear hb
 go_wp2_with fail
 go_at_call 19
 have HC := V.to_ByteZ y0 (by rw [HC0.out]; exact HF0.out) _ (HRY0.out _ S6.out.old)
 try dsimp only [V.vv_ByteZ] at HC
 refine HC.mono ?_
 clear HC
 rintro e w5 ⟨z5', rfl, hcon, ho, hb⟩
 have S7 := Lib.hid (show Sl.Sep W _ [Bag.bag (V.rw_ByteZ z3'), Bag.bag (V.rw_ByteZ z5')] from Bag.push_bag S6.out hb ho)
 clear S6
 clear hb ho
 have HZz5' := Lib.hid (hcon.trans HC0.out)
 clear hcon
 try dsimp only [V.vv_ByteZ]
 go_wp2_with fail
 go_at_call 21
 have HC := V.eq_ByteZ z3' z5' (HZz3'.out.trans HZz5'.out.symm) (by rw [HZz3'.out]; exact (Nat.le_trans HF0.out (by decide : (1048576 : Nat) ≤ 1099511627776))) _ (Bag.bag_rd S7.out 0 rfl) (Bag.bag_rd S7.out 1 rfl)
 try dsimp only [V.vv_ByteZ] at HC
 refine HC.mono ?_
 clear HC
 rintro e w6 ⟨rfl, hb⟩
 have S8 := Lib.hid (S7.out.keep hb)
 clear S7
 clear hb
 have S9 := Lib.hid (show Sl.Sep W _ [Bag.bag (V.rw_ByteZ z3')] from Bag.take S8.out [0] (by rfl) (by decide))
 clear S8
 go_wp2_with fail
 go_ret
 exact ⟨rfl, S9.out.old⟩

set_option maxRecDepth 100000 in
theorem lifted (os : Os) (started : os.Started) (H : Type) (enc : TypeId × Value → H) :
  ReturnsInHanded {} Try.checked os 9 .any (Rows.fnExactCountLogSpec.pre6 enc Try.prog Try.f9 Rows.fnExactCountLogRow.domain false) (Rows.fnExactCountLogSpec.post enc Try.prog Try.f9 false true false false) := by
 refine returnsInHanded_of_change_sized (C := Try.checked) own started (by kernel_rfl) Try.func9
  (ChangeSpec.witness6 (enc := enc) (C := Try.checked) false ⟨#[], #[.slice none 0 0], []⟩ 8 (by kernel_rfl) (by kernel_rfl) (by kernel_rfl) (by kernel_rfl)) ?_
 intro W base args ds gs before hval0 hW _ hsz0 _
 have hval : ∀ (j : Nat) t v, Try.f9.params[j]? = some t → args[j]? = some v → Value.okWide Try.prog W .any base t v := hval0
 have hW' := hW
 obtain ⟨p, q, hA0, hV, rfl, _, _⟩ := hW
 have hA : DataW.TrodAll enc Try.prog W 0 (fun _ => true) true Try.f9.params.toList args.toList ds p := hA0
 obtain ⟨rfl, rfl⟩ := trodVars_none hV
 have hlt : ∀ x ∈ p, x.block < W.heap.size := fun x hx => hW'.lt x (by simpa using hx)
 simp only [List.append_nil] at hW'
 have hw := walk H enc W base args ds p hval hA hlt hsz0
 have hA1 := hA
 clear hA0 hval0 hsz0 hval hlt
 rw [Try.params9] at hA
 obtain ⟨v0, vs0, d0, ds0, p0, q0, e0, rfl, rfl, h0, hr0⟩ := trodAll_cons hA
 obtain ⟨e1, rfl, rfl⟩ := trodAll_nil hr0
 refine hw.mono fun e W' ⟨he, hb⟩ => ?_
 subst he
 exact ⟨_, rfl, Frame.law_post (tb := 4) rfl hW' hA1 rfl rfl rfl laidOut (by kernel_rfl) (by kernel_rfl) Try.underlying4 hb⟩

theorem closedFacts : joinedFacts Try.pinned.checked.prog 9 Try.f9 Rows.fnExactCountLogSpec Rows.fnExactCountLogRow = true := by
 have h1 : Try.pinned.checked.prog.mayEnter = true := Closed.mayIn
 have h2 : (Rows.fnExactCountLogRow.lifted == Try.pinned.checked.prog.liftsFinal) = true := by
  rw [show Try.pinned.checked.prog.liftsFinal = false from Closed.liftsNone]; rfl
 have h3 : (Try.pinned.checked.prog.make == some Rows.fnExactCountLogRow.make) = true := by
  rw [show Try.pinned.checked.prog.make = some .cut from Closed.makeIs]; rfl
 unfold joinedFacts
 rw [h1, h2, h3]
 change _ = true
 kernel_rfl
theorem holds : Rows.FnExactCountLogSaid :=
 OpenClaim.holds_of_wide 9 Try.f9 rfl rfl rfl rfl rfl rfl rfl ⟨rfl, rfl, rfl, rfl, rfl⟩ rfl rfl rfl rfl rfl (by kernel_rfl) Try.func9 closedFacts
  (of_decide_eq_true (by kernel_rfl)) (by unfold Func.isWrapper; first | (rw [if_pos (by decide +kernel)]; kernel_rfl) | (rw [if_neg (by decide +kernel)]; exact ⟨rfl, rfl⟩))
  (fun os started H enc _ => lifted os started H enc)

#print axioms holds
end Go.Proofs.Ytejincmlblpaoaa.lawFnExactCountLog
