import Derived.Test.YtejincmlblpaoaaFnExactRepairLogP1
import Derived.Test.YtejincmlblpaoaaClosed
import Derived.JoinedOf
import Derived.SizedLaws
import Derived.LaidLaws
import Derived.ShutString
import Derived.Stop.LaidErr
import Derived.Lib.LaidTab
import Derived.Deep.RegionHeld3
import Derived.Deep.DeepCutAuto
namespace Go.Proofs.Ytejincmlblpaoaa.lawFnExactRepairLog
open Go.ChangeShapes Go.WideShapes Go.ChangeAt Go.RowKit
open Go.ChangeMaps (open_string shut_string)
theorem own : ownKnob Try.prog.godebug = none := by kernel_rfl
theorem laidOut : laidOutB Try.prog = true := by kernel_rfl
open Mem Sl Bag
open Go.Proofs.Ytejincmlblpaoaa.L5 (cellsF)
set_option maxRecDepth 100000 in
set_option maxHeartbeats 8000000 in
theorem walk (H : Type) (enc : TypeId × Value → H) (W : World) (base : Nat) (args : Array Value) (ds : List (DataW H)) (p : List MemPlace)
  (hval : ∀ (j : Nat) t v, Try.f8.params[j]? = some t → args[j]? = some v → Value.okWide Try.prog W .any base t v)
  (hA : DataW.TrodAll enc Try.prog W 0 (fun _ => true) true Try.f8.params.toList args.toList ds p)
  (hlt : ∀ x ∈ p, x.block < W.heap.size)
  (hsz : (DataW.weightsEach Try.prog (Try.f8.params.toList ++ Rows.fnExactRepairLogSpec.plain.varTypes Try.prog) (ds ++ [])).all (· ≤ reachBytes) = true) :
  Calls Try.prog 8 args W fun e w' => e = .returned (.bool true) ∧ Below W.heap.size W w' := by
 rw [Try.params8] at hA hval hsz
 obtain ⟨v0, vs0, d0, ds0, p0, q0, e0, rfl, rfl, h0, g0⟩ := trodAll_cons hA
 obtain ⟨ez, rfl, rfl⟩ := trodAll_nil g0
 subst ez
 obtain rfl : args = #[v0] := Array.toList_inj.1 e0
 clear e0
 obtain ⟨y0, rfl, hR0, hW0⟩ := V.open_ByteZ (hval 0 22 v0 rfl rfl) h0 (fun x hx => hlt x (by simp [hx]))
 clear hval hA hlt hsz h0
 have HRY0 := Lib.hid (fun w' (h : Below W.heap.size W w') => ((hR0.below h).more h.size : RowsRd w' w'.heap.size (V.rw_ByteZ y0)))
 have HWI0 := Lib.hid hW0
 clear hR0 hW0
 try dsimp only [V.vv_ByteZ]
 have S1 := Lib.hid (show Sl.Sep W W [] from Sl.Sep.start W)
 go_enter Try.func8, Try.ntmps8
 go_upto_region 1 with fail
 by_cases G0 : (1048576 : Int) < (y0.xs.length : Int)
 ·
  skip
  go_wp2_with fail
  go_ret
  exact ⟨rfl, S1.out.old⟩
 have HF0 := Lib.hid (show V.wt_ByteZ (V.co_ByteZ y0) ≤ 1048576 from by show y0.xs.length ≤ _; omega)
 obtain ⟨C0, hC0⟩ : ∃ C, V.co_ByteZ y0 = C := ⟨_, rfl⟩
 rw [hC0] at HF0
 have HC0 := Lib.hid hC0
 clear hC0
 have HBY0 := Lib.hid (show L2.Byt C0 from by rw [← HC0.out]; exact V.byt_ByteZ HWI0.out)
 obtain ⟨r0', hr0'⟩ : ∃ r : List Int, L11.repL C0 = r := ⟨_, rfl⟩
 have Cspec : ∀ (z0 : V.Y_ByteZ), V.co_ByteZ z0 = C0 → ∀ w' : World, RowsRd w' w'.heap.size (V.rw_ByteZ z0) → Calls Try.prog 30 #[.slice z0.a z0.xs.length z0.c] w' fun e w'' => ∃ (z0 : V.Y_ByteZ), e = .returned (.slice z0.a z0.xs.length z0.c) ∧ V.co_ByteZ z0 = r0' ∧ BagOwn w'' w'.heap.size ((V.rw_ByteZ z0)) ∧ Below w'.heap.size w' w'' := by
  intro z0 hz0 w' hr0
  have hf0 : V.wt_ByteZ (V.co_ByteZ z0) ≤ 1048576 := by rw [hz0]; exact HF0.out
  have h := (show Calls Try.prog 30 #[.slice z0.a z0.xs.length z0.c] w' (Sl.Gave w' w'.heap.size 5 .u8 (L11.repL (V.co_ByteZ z0))) from L11.specRepairLog_any z0.a z0.c z0.xs (by have h := HBY0.out; rw [← hz0] at h; exact h) (V.cap_ByteZ hr0) (Nat.le_trans hf0 (by decide)) w' (V.rd_ByteZ hr0))
  rw [hz0, hr0'] at h
  exact h.mono (fun e w ⟨a, c, he, ho, hb⟩ => ⟨⟨a, c, _⟩, he, rfl, Bag.BagOwn.one ho, hb⟩)
 replace Cspec := Lib.hid Cspec
 have Cimpl : ∀ (z0 : V.Y_ByteZ), V.co_ByteZ z0 = C0 → ∀ w' : World, RowsRd w' w'.heap.size (V.rw_ByteZ z0) → Calls Try.prog 16 #[.slice z0.a z0.xs.length z0.c] w' fun e w'' => ∃ (z0 : V.Y_ByteZ), e = .returned (.slice z0.a z0.xs.length z0.c) ∧ V.co_ByteZ z0 = r0' ∧ BagOwn w'' w'.heap.size ((V.rw_ByteZ z0)) ∧ Below w'.heap.size w' w'' := by
  intro z0 hz0 w' hr0
  have hf0 : V.wt_ByteZ (V.co_ByteZ z0) ≤ 1048576 := by rw [hz0]; exact HF0.out
  have h := (show Calls Try.prog 16 #[.slice z0.a z0.xs.length z0.c] w' (Sl.Gave w' w'.heap.size 5 .u8 (L11.repL (V.co_ByteZ z0))) from L11.implRepairLog_any z0.a z0.c z0.xs (by have h := HBY0.out; rw [← hz0] at h; exact h) (V.cap_ByteZ hr0) (Nat.le_trans hf0 (by decide)) w' (V.rd_ByteZ hr0))
  rw [hz0, hr0'] at h
  exact h.mono (fun e w ⟨a, c, he, ho, hb⟩ => ⟨⟨a, c, _⟩, he, rfl, Bag.BagOwn.one ho, hb⟩)
 replace Cimpl := Lib.hid Cimpl
 have HFR0 := Lib.hid (show V.wt_ByteZ r0' ≤ 1099511627776 from by rw [← hr0']; exact (by have h := L11.repL_len C0; have h1 : C0.length ≤ 1048576 := HF0.out; show (L11.repL C0).length ≤ _; omega))
 clear hr0'
 go_wp2_with fail
 go_at_call 19
 have HC := V.to_ByteZ y0 (by rw [HC0.out]; exact HF0.out) _ (HRY0.out _ S1.out.old)
 try dsimp only [V.vv_ByteZ] at HC
 refine HC.mono ?_
 clear HC
 rintro e w1 ⟨z1', rfl, hcon, ho, hb⟩
 have S2 := Lib.hid (show Sl.Sep W _ [Bag.bag (V.rw_ByteZ z1')] from Bag.push_bag S1.out hb ho)
 clear S1
 clear hb ho
 have HZz1' := Lib.hid (hcon.trans HC0.out)
 clear hcon
 try dsimp only [V.vv_ByteZ]
 go_wp2_with fail
 go_at_call 30
 have HC := Cspec.out z1' HZz1'.out _ (Bag.bag_rd S2.out 0 rfl)
 try dsimp only [V.vv_ByteZ] at HC
 refine HC.mono ?_
 clear HC
 rintro e w2 ⟨z2r0', rfl, hcon0, ho, hb⟩
 have S3 := Lib.hid (show Sl.Sep W _ [_, Bag.bag (V.rw_ByteZ z2r0')] from Bag.push_bag S2.out hb ho)
 clear S2
 clear hb ho
 have HZz2r0' := Lib.hid hcon0
 clear hcon0
 have S4 := Lib.hid (show Sl.Sep W _ [_] from Bag.take S3.out [1] (by rfl) (by decide))
 clear S3
 go_wp2_with fail
 go_at_call 19
 have HC := V.to_ByteZ y0 (by rw [HC0.out]; exact HF0.out) _ (HRY0.out _ S4.out.old)
 try dsimp only [V.vv_ByteZ] at HC
 refine HC.mono ?_
 clear HC
 rintro e w3 ⟨z3', rfl, hcon, ho, hb⟩
 have S5 := Lib.hid (show Sl.Sep W _ [_, Bag.bag (V.rw_ByteZ z3')] from Bag.push_bag S4.out hb ho)
 clear S4
 clear hb ho
 have HZz3' := Lib.hid (hcon.trans HC0.out)
 clear hcon
 try dsimp only [V.vv_ByteZ]
 go_wp2_with fail
 go_at_call 16
 have HC := Cimpl.out z3' HZz3'.out _ (Bag.bag_rd S5.out 1 rfl)
 try dsimp only [V.vv_ByteZ] at HC
 refine HC.mono ?_
 clear HC
 rintro e w4 ⟨z4r0', rfl, hcon0, ho, hb⟩
 have S6 := Lib.hid (show Sl.Sep W _ [_, _, Bag.bag (V.rw_ByteZ z4r0')] from Bag.push_bag S5.out hb ho)
 clear S5
 clear hb ho
 have HZz4r0' := Lib.hid hcon0
 clear hcon0
 go_wp2_with fail
 go_at_call 21
 have HC := V.eq_ByteZ z4r0' z2r0' (HZz4r0'.out.trans HZz2r0'.out.symm) (by rw [HZz4r0'.out]; exact HFR0.out) _ (Bag.bag_rd S6.out 2 rfl) (Bag.bag_rd S6.out 0 rfl)
 try dsimp only [V.vv_ByteZ] at HC
 refine HC.mono ?_
 clear HC
 rintro e w5 ⟨rfl, hb⟩
 have S7 := Lib.hid (S6.out.keep hb)
 clear S6
 clear hb
 go_wp2_with fail
 go_at_call 19
 have HC := V.to_ByteZ y0 (by rw [HC0.out]; exact HF0.out) _ (HRY0.out _ S7.out.old)
 try dsimp only [V.vv_ByteZ] at HC
 refine HC.mono ?_
 clear HC
 rintro e w6 ⟨z5', rfl, hcon, ho, hb⟩
 have S8 := Lib.hid (show Sl.Sep W _ [Bag.bag (V.rw_ByteZ z2r0'), Bag.bag (V.rw_ByteZ z3'), Bag.bag (V.rw_ByteZ z4r0'), Bag.bag (V.rw_ByteZ z5')] from Bag.push_bag S7.out hb ho)
 clear S7
 clear hb ho
 have HZz5' := Lib.hid (hcon.trans HC0.out)
 clear hcon
 try dsimp only [V.vv_ByteZ]
 go_wp2_with fail
 go_at_call 21
 have HC := V.eq_ByteZ z3' z5' (HZz3'.out.trans HZz5'.out.symm) (by rw [HZz3'.out]; exact (Nat.le_trans HF0.out (by decide : (1048576 : Nat) ≤ 1099511627776))) _ (Bag.bag_rd S8.out 1 rfl) (Bag.bag_rd S8.out 3 rfl)
 try dsimp only [V.vv_ByteZ] at HC
 refine HC.mono ?_
 clear HC
 rintro e w7 ⟨rfl, hb⟩
 have S9 := Lib.hid (S8.out.keep hb)
 clear S8
 clear hb
 have S10 := Lib.hid (show Sl.Sep W _ [Bag.bag (V.rw_ByteZ z2r0'), Bag.bag (V.rw_ByteZ z3'), Bag.bag (V.rw_ByteZ z4r0')] from Bag.take S9.out [0, 1, 2] (by rfl) (by decide))
 clear S9
 obtain ⟨Ez3', hE⟩ : ∃ E, (1 : Int) + (V.ct_ByteZ z3' : Int) = E := ⟨_, rfl⟩
 have hEb := V.ctS_ByteZ z3'
 have hEc : V.wt_ByteZ (V.co_ByteZ z3') ≤ 1099511627776 := (by rw [HZz3'.out]; exact (Nat.le_trans HF0.out (by decide : (1048576 : Nat) ≤ 1099511627776)))
 have hEb0 : 1 ≤ Ez3' := by omega
 have hEb1 : Ez3' ≤ 1 + 72057594037928000 := by omega
 clear hEc
 have hEb2 : 0 < Ez3' := by omega
 have hEb3 : ¬ Ez3' < 0 := by omega
 have HEz3' := Lib.hid hE
 clear hE hEb
 go_wp2_with fail
 go_at_call 23
 have HC := V.mark_ByteZ S10.out 1 (z := z3') rfl 1 (by rw [HZz3'.out]; exact (Nat.le_trans HF0.out (by decide : (1048576 : Nat) ≤ 1099511627776))) (by omega) (by rw [HEz3'.out]; omega)
 try dsimp only [V.vv_ByteZ] at HC
 rw [HEz3'.out] at HC
 refine HC.mono ?_
 clear HC
 rintro e w8 ⟨rfl, hS⟩
 have S11 := Lib.hid (show Sl.Sep W _ [_, Bag.bag (V.rw_ByteZ (V.md_ByteZ 1 z3')), _] from hS)
 clear S10
 clear hS
 go_wp2_with fail
 go_at_call 21
 have HC := V.eq_ByteZ z4r0' z2r0' (HZz4r0'.out.trans HZz2r0'.out.symm) (by rw [HZz4r0'.out]; exact HFR0.out) _ (Bag.bag_rd S11.out 2 rfl) (Bag.bag_rd S11.out 0 rfl)
 try dsimp only [V.vv_ByteZ] at HC
 refine HC.mono ?_
 clear HC
 rintro e w9 ⟨rfl, hb⟩
 have S12 := Lib.hid (S11.out.keep hb)
 clear S11
 clear hb
 obtain ⟨Ez4r0', hE⟩ : ∃ E, (1 : Int) + (V.ct_ByteZ z4r0' : Int) = E := ⟨_, rfl⟩
 have hEb := V.ctS_ByteZ z4r0'
 have hEc : V.wt_ByteZ (V.co_ByteZ z4r0') ≤ 1099511627776 := (by rw [HZz4r0'.out]; exact HFR0.out)
 have hEb0 : 1 ≤ Ez4r0' := by omega
 have hEb1 : Ez4r0' ≤ 1 + 72057594037928000 := by omega
 clear hEc
 have hEb2 : 0 < Ez4r0' := by omega
 have hEb3 : ¬ Ez4r0' < 0 := by omega
 have HEz4r0' := Lib.hid hE
 clear hE hEb
 go_wp2_with fail
 go_at_call 23
 have HC := V.mark_ByteZ S12.out 2 (z := z4r0') rfl 1 (by rw [HZz4r0'.out]; exact HFR0.out) (by omega) (by rw [HEz4r0'.out]; omega)
 try dsimp only [V.vv_ByteZ] at HC
 rw [HEz4r0'.out] at HC
 refine HC.mono ?_
 clear HC
 rintro e w10 ⟨rfl, hS⟩
 have S13 := Lib.hid (show Sl.Sep W _ [_, _, Bag.bag (V.rw_ByteZ (V.md_ByteZ 1 z4r0'))] from hS)
 clear S12
 clear hS
 go_wp2_with fail
 go_at_call 24
 have HC := V.held_ByteZ z4r0' 1 (by rw [HZz4r0'.out]; exact HFR0.out) (by omega) (by rw [HEz4r0'.out]; omega) _ (Bag.bag_rd S13.out 2 rfl)
 try dsimp only [V.vv_ByteZ] at HC
 rw [HEz4r0'.out] at HC
 refine HC.mono ?_
 clear HC
 rintro e w11 ⟨rfl, hb⟩
 have S14 := Lib.hid (S13.out.keep hb)
 clear S13
 clear hb
 go_wp2_with fail
 go_at_call 19
 have HC := V.to_ByteZ y0 (by rw [HC0.out]; exact HF0.out) _ (HRY0.out _ S14.out.old)
 try dsimp only [V.vv_ByteZ] at HC
 refine HC.mono ?_
 clear HC
 rintro e w12 ⟨z6', rfl, hcon, ho, hb⟩
 have S15 := Lib.hid (show Sl.Sep W _ [Bag.bag (V.rw_ByteZ z2r0'), Bag.bag (V.rw_ByteZ (V.md_ByteZ 1 z3')), Bag.bag (V.rw_ByteZ (V.md_ByteZ 1 z4r0')), Bag.bag (V.rw_ByteZ z6')] from Bag.push_bag S14.out hb ho)
 clear S14
 clear hb ho
 have HZz6' := Lib.hid (hcon.trans HC0.out)
 clear hcon
 try dsimp only [V.vv_ByteZ]
 go_wp2_with fail
 go_at_call 16
 have HC := Cimpl.out z6' HZz6'.out _ (Bag.bag_rd S15.out 3 rfl)
 try dsimp only [V.vv_ByteZ] at HC
 refine HC.mono ?_
 clear HC
 rintro e w13 ⟨z7r0', rfl, hcon0, ho, hb⟩
 have S16 := Lib.hid (show Sl.Sep W _ [_, _, _, _, Bag.bag (V.rw_ByteZ z7r0')] from Bag.push_bag S15.out hb ho)
 clear S15
 clear hb ho
 have HZz7r0' := Lib.hid hcon0
 clear hcon0
 have S17 := Lib.hid (show Sl.Sep W _ [_, _, _, _] from Bag.take S16.out [0, 1, 2, 4] (by rfl) (by decide))
 clear S16
 go_wp2_with fail
 go_at_call 21
 have HC := V.eq_ByteZ z7r0' z2r0' (HZz7r0'.out.trans HZz2r0'.out.symm) (by rw [HZz7r0'.out]; exact HFR0.out) _ (Bag.bag_rd S17.out 3 rfl) (Bag.bag_rd S17.out 0 rfl)
 try dsimp only [V.vv_ByteZ] at HC
 refine HC.mono ?_
 clear HC
 rintro e w14 ⟨rfl, hb⟩
 have S18 := Lib.hid (S17.out.keep hb)
 clear S17
 clear hb
 go_wp2_with fail
 go_at_call 24
 have HC := V.held_ByteZ z4r0' 1 (by rw [HZz4r0'.out]; exact HFR0.out) (by omega) (by rw [HEz4r0'.out]; omega) _ (Bag.bag_rd S18.out 2 rfl)
 try dsimp only [V.vv_ByteZ] at HC
 rw [HEz4r0'.out] at HC
 refine HC.mono ?_
 clear HC
 rintro e w15 ⟨rfl, hb⟩
 have S19 := Lib.hid (S18.out.keep hb)
 clear S18
 clear hb
 go_wp2_with fail
 go_ret
 exact ⟨rfl, S19.out.old⟩

set_option maxRecDepth 100000 in
theorem lifted (os : Os) (started : os.Started) (H : Type) (enc : TypeId × Value → H) :
  ReturnsInHanded {} Try.checked os 8 .any (Rows.fnExactRepairLogSpec.pre6 enc Try.prog Try.f8 Rows.fnExactRepairLogRow.domain false) (Rows.fnExactRepairLogSpec.post enc Try.prog Try.f8 false true false false) := by
 refine returnsInHanded_of_change_sized (C := Try.checked) own started (by kernel_rfl) Try.func8
  (ChangeSpec.witness6 (enc := enc) (C := Try.checked) false ⟨#[], #[.slice none 0 0], []⟩ 8 (by kernel_rfl) (by kernel_rfl) (by kernel_rfl) (by kernel_rfl)) ?_
 intro W base args ds gs before hval0 hW _ hsz0 _
 have hval : ∀ (j : Nat) t v, Try.f8.params[j]? = some t → args[j]? = some v → Value.okWide Try.prog W .any base t v := hval0
 have hW' := hW
 obtain ⟨p, q, hA0, hV, rfl, _, _⟩ := hW
 have hA : DataW.TrodAll enc Try.prog W 0 (fun _ => true) true Try.f8.params.toList args.toList ds p := hA0
 obtain ⟨rfl, rfl⟩ := trodVars_none hV
 have hlt : ∀ x ∈ p, x.block < W.heap.size := fun x hx => hW'.lt x (by simpa using hx)
 simp only [List.append_nil] at hW'
 have hw := walk H enc W base args ds p hval hA hlt hsz0
 have hA1 := hA
 clear hA0 hval0 hsz0 hval hlt
 rw [Try.params8] at hA
 obtain ⟨v0, vs0, d0, ds0, p0, q0, e0, rfl, rfl, h0, hr0⟩ := trodAll_cons hA
 obtain ⟨e1, rfl, rfl⟩ := trodAll_nil hr0
 refine hw.mono fun e W' ⟨he, hb⟩ => ?_
 subst he
 exact ⟨_, rfl, Frame.law_post (tb := 4) rfl hW' hA1 rfl rfl rfl laidOut (by kernel_rfl) (by kernel_rfl) Try.underlying4 hb⟩

theorem closedFacts : joinedFacts Try.pinned.checked.prog 8 Try.f8 Rows.fnExactRepairLogSpec Rows.fnExactRepairLogRow = true := by
 have h1 : Try.pinned.checked.prog.mayEnter = true := Closed.mayIn
 have h2 : (Rows.fnExactRepairLogRow.lifted == Try.pinned.checked.prog.liftsFinal) = true := by
  rw [show Try.pinned.checked.prog.liftsFinal = false from Closed.liftsNone]; rfl
 have h3 : (Try.pinned.checked.prog.make == some Rows.fnExactRepairLogRow.make) = true := by
  rw [show Try.pinned.checked.prog.make = some .cut from Closed.makeIs]; rfl
 unfold joinedFacts
 rw [h1, h2, h3]
 change _ = true
 kernel_rfl
theorem holds : Rows.FnExactRepairLogSaid :=
 OpenClaim.holds_of_wide 8 Try.f8 rfl rfl rfl rfl rfl rfl rfl ⟨rfl, rfl, rfl, rfl, rfl⟩ rfl rfl rfl rfl rfl (by kernel_rfl) Try.func8 closedFacts
  (of_decide_eq_true (by kernel_rfl)) (by unfold Func.isWrapper; first | (rw [if_pos (by decide +kernel)]; kernel_rfl) | (rw [if_neg (by decide +kernel)]; exact ⟨rfl, rfl⟩))
  (fun os started H enc _ => lifted os started H enc)

#print axioms holds
end Go.Proofs.Ytejincmlblpaoaa.lawFnExactRepairLog
