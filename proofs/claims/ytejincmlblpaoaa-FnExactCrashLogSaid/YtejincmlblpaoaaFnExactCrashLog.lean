import Derived.Test.YtejincmlblpaoaaFnExactCrashLogP1
import Derived.Test.YtejincmlblpaoaaClosed
import Derived.JoinedOf
import Derived.SizedLaws
import Derived.LaidLaws
import Derived.ShutString
import Derived.Stop.LaidErr
import Derived.Lib.LaidTab
import Derived.Deep.RegionHeld3
import Derived.Deep.DeepCutAuto
namespace Go.Proofs.Ytejincmlblpaoaa.lawFnExactCrashLog
open Go.ChangeShapes Go.WideShapes Go.ChangeAt Go.RowKit
open Go.ChangeMaps (open_string shut_string)
theorem own : ownKnob Try.prog.godebug = none := by kernel_rfl
theorem laidOut : laidOutB Try.prog = true := by kernel_rfl
open Mem Sl Bag
open Go.Proofs.Ytejincmlblpaoaa.L5 (cellsF)
set_option maxRecDepth 100000 in
set_option maxHeartbeats 8000000 in
theorem walk (H : Type) (enc : TypeId × Value → H) (W : World) (base : Nat) (args : Array Value) (ds : List (DataW H)) (p : List MemPlace)
  (hval : ∀ (j : Nat) t v, Try.f7.params[j]? = some t → args[j]? = some v → Value.okWide Try.prog W .any base t v)
  (hA : DataW.TrodAll enc Try.prog W 0 (fun _ => true) true Try.f7.params.toList args.toList ds p)
  (hlt : ∀ x ∈ p, x.block < W.heap.size)
  (hsz : (DataW.weightsEach Try.prog (Try.f7.params.toList ++ Rows.fnExactCrashLogSpec.plain.varTypes Try.prog) (ds ++ [])).all (· ≤ reachBytes) = true) :
  Calls Try.prog 7 args W fun e w' => e = .returned (.bool true) ∧ Below W.heap.size W w' := by
 rw [Try.params7] at hA hval hsz
 obtain ⟨v0, vs0, d0, ds0, p0, q0, e0, rfl, rfl, h0, g0⟩ := trodAll_cons hA
 obtain ⟨v1, vs1, d1, ds1, p1, q1, e1, rfl, rfl, h1, g1⟩ := trodAll_cons g0
 obtain ⟨v2, vs2, d2, ds2, p2, q2, e2, rfl, rfl, h2, g2⟩ := trodAll_cons g1
 obtain ⟨ez, rfl, rfl⟩ := trodAll_nil g2
 subst ez
 subst e2
 subst e1
 obtain rfl : args = #[v0, v1, v2] := Array.toList_inj.1 e0
 clear e0
 obtain ⟨y0, rfl, hR0, hW0⟩ := V.open_ByteZ (hval 0 22 v0 rfl rfl) h0 (fun x hx => hlt x (by simp [hx]))
 obtain ⟨n1, rfl, -, -, hW1⟩ := open_int Try.underlying3 (hval 1 3 v1 rfl rfl) h1
 have I1 := Law.wf_i64 hW1
 clear hW1
 obtain ⟨y2, rfl, hR2, hW2⟩ := V.open_ByteZ (hval 2 22 v2 rfl rfl) h2 (fun x hx => hlt x (by simp [hx]))
 clear hval hA hlt hsz h0 h1 h2
 have HRY0 := Lib.hid (fun w' (h : Below W.heap.size W w') => ((hR0.below h).more h.size : RowsRd w' w'.heap.size (V.rw_ByteZ y0)))
 have HWI0 := Lib.hid hW0
 clear hR0 hW0
 have HRY2 := Lib.hid (fun w' (h : Below W.heap.size W w') => ((hR2.below h).more h.size : RowsRd w' w'.heap.size (V.rw_ByteZ y2)))
 have HWI2 := Lib.hid hW2
 clear hR2 hW2
 try dsimp only [V.vv_ByteZ]
 have S1 := Lib.hid (show Sl.Sep W W [] from Sl.Sep.start W)
 go_enter Try.func7, Try.ntmps7
 go_upto_region 1 with fail
 by_cases G0 : (1048576 : Int) < (y0.xs.length : Int)
 ·
  skip
  go_wp2_with fail
  go_ret
  exact ⟨rfl, S1.out.old⟩
 have HF0 := Lib.hid (show V.wt_ByteZ (V.co_ByteZ y0) ≤ 1048576 from by show y0.xs.length ≤ _; omega)
 by_cases G2 : (1048576 : Int) < (y2.xs.length : Int)
 ·
  skip
  go_wp2_with fail
  go_ret
  exact ⟨rfl, S1.out.old⟩
 have HF2 := Lib.hid (show V.wt_ByteZ (V.co_ByteZ y2) ≤ 1048576 from by show y2.xs.length ≤ _; omega)
 obtain ⟨C0, hC0⟩ : ∃ C, V.co_ByteZ y0 = C := ⟨_, rfl⟩
 rw [hC0] at HF0
 have HC0 := Lib.hid hC0
 clear hC0
 obtain ⟨C2, hC2⟩ : ∃ C, V.co_ByteZ y2 = C := ⟨_, rfl⟩
 rw [hC2] at HF2
 have HC2 := Lib.hid hC2
 clear hC2
 obtain ⟨r0', hr0'⟩ : ∃ r : List Int, L11.crashL C0 n1 C2 = r := ⟨_, rfl⟩
 have Cspec : ∀ (z0 : V.Y_ByteZ), V.co_ByteZ z0 = C0 → ∀ (z2 : V.Y_ByteZ), V.co_ByteZ z2 = C2 → ∀ w' : World, RowsRd w' w'.heap.size (V.rw_ByteZ z0) → RowsRd w' w'.heap.size (V.rw_ByteZ z2) → Calls Try.prog 29 #[.slice z0.a z0.xs.length z0.c, .int .i64 n1, .slice z2.a z2.xs.length z2.c] w' fun e w'' => ∃ (z0 : V.Y_ByteZ), e = .returned (.slice z0.a z0.xs.length z0.c) ∧ V.co_ByteZ z0 = r0' ∧ BagOwn w'' w'.heap.size ((V.rw_ByteZ z0)) ∧ Below w'.heap.size w' w'' := by
  intro z0 hz0 z2 hz2 w' hr0 hr2
  have hf0 : V.wt_ByteZ (V.co_ByteZ z0) ≤ 1048576 := by rw [hz0]; exact HF0.out
  have hf2 : V.wt_ByteZ (V.co_ByteZ z2) ≤ 1048576 := by rw [hz2]; exact HF2.out
  have h := (show Calls Try.prog 29 #[.slice z0.a z0.xs.length z0.c, .int .i64 n1, .slice z2.a z2.xs.length z2.c] w' (Sl.Gave w' w'.heap.size 5 .u8 (L11.crashL (V.co_ByteZ z0) n1 (V.co_ByteZ z2))) from L11.specCrashLog_any z0.a z2.a z0.c z2.c z0.xs z2.xs n1 w' (V.rd_ByteZ hr0) (V.cap_ByteZ hr0) (Nat.le_trans hf0 (by decide)) (V.rd_ByteZ hr2) (Nat.le_trans hf2 (by decide)))
  rw [hz0, hz2, hr0'] at h
  exact h.mono (fun e w ⟨a, c, he, ho, hb⟩ => ⟨⟨a, c, _⟩, he, rfl, Bag.BagOwn.one ho, hb⟩)
 replace Cspec := Lib.hid Cspec
 have Cimpl : ∀ (z0 : V.Y_ByteZ), V.co_ByteZ z0 = C0 → ∀ (z2 : V.Y_ByteZ), V.co_ByteZ z2 = C2 → ∀ w' : World, RowsRd w' w'.heap.size (V.rw_ByteZ z0) → RowsRd w' w'.heap.size (V.rw_ByteZ z2) → Calls Try.prog 13 #[.slice z0.a z0.xs.length z0.c, .int .i64 n1, .slice z2.a z2.xs.length z2.c] w' fun e w'' => ∃ (z0 : V.Y_ByteZ), e = .returned (.slice z0.a z0.xs.length z0.c) ∧ V.co_ByteZ z0 = r0' ∧ BagOwn w'' w'.heap.size ((V.rw_ByteZ z0)) ∧ Below w'.heap.size w' w'' := by
  intro z0 hz0 z2 hz2 w' hr0 hr2
  have hf0 : V.wt_ByteZ (V.co_ByteZ z0) ≤ 1048576 := by rw [hz0]; exact HF0.out
  have hf2 : V.wt_ByteZ (V.co_ByteZ z2) ≤ 1048576 := by rw [hz2]; exact HF2.out
  have h := (show Calls Try.prog 13 #[.slice z0.a z0.xs.length z0.c, .int .i64 n1, .slice z2.a z2.xs.length z2.c] w' (Sl.Gave w' w'.heap.size 5 .u8 (L11.crashL (V.co_ByteZ z0) n1 (V.co_ByteZ z2))) from L11.implCrashLog_any z0.a z2.a z0.c z2.c z0.xs z2.xs n1 w' (V.rd_ByteZ hr0) (V.cap_ByteZ hr0) (Nat.le_trans hf0 (by decide)) (V.rd_ByteZ hr2) (Nat.le_trans hf2 (by decide)))
  rw [hz0, hz2, hr0'] at h
  exact h.mono (fun e w ⟨a, c, he, ho, hb⟩ => ⟨⟨a, c, _⟩, he, rfl, Bag.BagOwn.one ho, hb⟩)
 replace Cimpl := Lib.hid Cimpl
 have HFR0 := Lib.hid (show V.wt_ByteZ r0' ≤ 1099511627776 from by rw [← hr0']; exact (by have h := L11.crashL_len C0 n1 C2; have h1 : C0.length ≤ 1048576 := HF0.out; have h2 : C2.length ≤ 1048576 := HF2.out; show (L11.crashL C0 n1 C2).length ≤ _; omega))
 clear hr0'
 go_wp2_with fail
 go_at_call 19
 have HC := V.to_ByteZ y0 (by rw [HC0.out]; exact HF0.out) _ (HRY0.out _ S1.out.old)
 try dsimp only [V.vv_ByteZ] at HC
 refine HC.mono ?_
 clear HC
 rintro e w1 ⟨z1', rfl, hcon, ho, hb⟩
 have S2 := Lib.hid (show Sl.Sep W _ [Bag.bag (V.rw_ByteZ z1')] from Bag.push_bag S1.out hb ho)
 clear S1
 clear hb ho
 have HZz1' := Lib.hid (hcon.trans HC0.out)
 clear hcon
 try dsimp only [V.vv_ByteZ]
 go_wp2_with fail
 go_at_call 19
 have HC := V.to_ByteZ y2 (by rw [HC2.out]; exact HF2.out) _ (HRY2.out _ S2.out.old)
 try dsimp only [V.vv_ByteZ] at HC
 refine HC.mono ?_
 clear HC
 rintro e w2 ⟨z2', rfl, hcon, ho, hb⟩
 have S3 := Lib.hid (show Sl.Sep W _ [_, Bag.bag (V.rw_ByteZ z2')] from Bag.push_bag S2.out hb ho)
 clear S2
 clear hb ho
 have HZz2' := Lib.hid (hcon.trans HC2.out)
 clear hcon
 try dsimp only [V.vv_ByteZ]
 go_wp2_with fail
 go_at_call 29
 have HC := Cspec.out z1' HZz1'.out z2' HZz2'.out _ (Bag.bag_rd S3.out 0 rfl) (Bag.bag_rd S3.out 1 rfl)
 try dsimp only [V.vv_ByteZ] at HC
 refine HC.mono ?_
 clear HC
 rintro e w3 ⟨z3r0', rfl, hcon0, ho, hb⟩
 have S4 := Lib.hid (show Sl.Sep W _ [_, _, Bag.bag (V.rw_ByteZ z3r0')] from Bag.push_bag S3.out hb ho)
 clear S3
 clear hb ho
 have HZz3r0' := Lib.hid hcon0
 clear hcon0
 have S5 := Lib.hid (show Sl.Sep W _ [_] from Bag.take S4.out [2] (by rfl) (by decide))
 clear S4
 go_wp2_with fail
 go_at_call 19
 have HC := V.to_ByteZ y0 (by rw [HC0.out]; exact HF0.out) _ (HRY0.out _ S5.out.old)
 try dsimp only [V.vv_ByteZ] at HC
 refine HC.mono ?_
 clear HC
 rintro e w4 ⟨z4', rfl, hcon, ho, hb⟩
 have S6 := Lib.hid (show Sl.Sep W _ [_, Bag.bag (V.rw_ByteZ z4')] from Bag.push_bag S5.out hb ho)
 clear S5
 clear hb ho
 have HZz4' := Lib.hid (hcon.trans HC0.out)
 clear hcon
 try dsimp only [V.vv_ByteZ]
 go_wp2_with fail
 go_at_call 19
 have HC := V.to_ByteZ y2 (by rw [HC2.out]; exact HF2.out) _ (HRY2.out _ S6.out.old)
 try dsimp only [V.vv_ByteZ] at HC
 refine HC.mono ?_
 clear HC
 rintro e w5 ⟨z5', rfl, hcon, ho, hb⟩
 have S7 := Lib.hid (show Sl.Sep W _ [_, _, Bag.bag (V.rw_ByteZ z5')] from Bag.push_bag S6.out hb ho)
 clear S6
 clear hb ho
 have HZz5' := Lib.hid (hcon.trans HC2.out)
 clear hcon
 try dsimp only [V.vv_ByteZ]
 go_wp2_with fail
 go_at_call 13
 have HC := Cimpl.out z4' HZz4'.out z5' HZz5'.out _ (Bag.bag_rd S7.out 1 rfl) (Bag.bag_rd S7.out 2 rfl)
 try dsimp only [V.vv_ByteZ] at HC
 refine HC.mono ?_
 clear HC
 rintro e w6 ⟨z6r0', rfl, hcon0, ho, hb⟩
 have S8 := Lib.hid (show Sl.Sep W _ [_, _, _, Bag.bag (V.rw_ByteZ z6r0')] from Bag.push_bag S7.out hb ho)
 clear S7
 clear hb ho
 have HZz6r0' := Lib.hid hcon0
 clear hcon0
 go_wp2_with fail
 go_at_call 21
 have HC := V.eq_ByteZ z6r0' z3r0' (HZz6r0'.out.trans HZz3r0'.out.symm) (by rw [HZz6r0'.out]; exact HFR0.out) _ (Bag.bag_rd S8.out 3 rfl) (Bag.bag_rd S8.out 0 rfl)
 try dsimp only [V.vv_ByteZ] at HC
 refine HC.mono ?_
 clear HC
 rintro e w7 ⟨rfl, hb⟩
 have S9 := Lib.hid (S8.out.keep hb)
 clear S8
 clear hb
 go_wp2_with fail
 go_at_call 19
 have HC := V.to_ByteZ y0 (by rw [HC0.out]; exact HF0.out) _ (HRY0.out _ S9.out.old)
 try dsimp only [V.vv_ByteZ] at HC
 refine HC.mono ?_
 clear HC
 rintro e w8 ⟨z7', rfl, hcon, ho, hb⟩
 have S10 := Lib.hid (show Sl.Sep W _ [Bag.bag (V.rw_ByteZ z3r0'), Bag.bag (V.rw_ByteZ z4'), Bag.bag (V.rw_ByteZ z5'), Bag.bag (V.rw_ByteZ z6r0'), Bag.bag (V.rw_ByteZ z7')] from Bag.push_bag S9.out hb ho)
 clear S9
 clear hb ho
 have HZz7' := Lib.hid (hcon.trans HC0.out)
 clear hcon
 try dsimp only [V.vv_ByteZ]
 go_wp2_with fail
 go_at_call 21
 have HC := V.eq_ByteZ z4' z7' (HZz4'.out.trans HZz7'.out.symm) (by rw [HZz4'.out]; exact (Nat.le_trans HF0.out (by decide : (1048576 : Nat) ≤ 1099511627776))) _ (Bag.bag_rd S10.out 1 rfl) (Bag.bag_rd S10.out 4 rfl)
 try dsimp only [V.vv_ByteZ] at HC
 refine HC.mono ?_
 clear HC
 rintro e w9 ⟨rfl, hb⟩
 have S11 := Lib.hid (S10.out.keep hb)
 clear S10
 clear hb
 have S12 := Lib.hid (show Sl.Sep W _ [Bag.bag (V.rw_ByteZ z3r0'), Bag.bag (V.rw_ByteZ z4'), Bag.bag (V.rw_ByteZ z5'), Bag.bag (V.rw_ByteZ z6r0')] from Bag.take S11.out [0, 1, 2, 3] (by rfl) (by decide))
 clear S11
 go_wp2_with fail
 go_at_call 19
 have HC := V.to_ByteZ y2 (by rw [HC2.out]; exact HF2.out) _ (HRY2.out _ S12.out.old)
 try dsimp only [V.vv_ByteZ] at HC
 refine HC.mono ?_
 clear HC
 rintro e w10 ⟨z8', rfl, hcon, ho, hb⟩
 have S13 := Lib.hid (show Sl.Sep W _ [_, _, _, _, Bag.bag (V.rw_ByteZ z8')] from Bag.push_bag S12.out hb ho)
 clear S12
 clear hb ho
 have HZz8' := Lib.hid (hcon.trans HC2.out)
 clear hcon
 try dsimp only [V.vv_ByteZ]
 go_wp2_with fail
 go_at_call 21
 have HC := V.eq_ByteZ z5' z8' (HZz5'.out.trans HZz8'.out.symm) (by rw [HZz5'.out]; exact (Nat.le_trans HF2.out (by decide : (1048576 : Nat) ≤ 1099511627776))) _ (Bag.bag_rd S13.out 2 rfl) (Bag.bag_rd S13.out 4 rfl)
 try dsimp only [V.vv_ByteZ] at HC
 refine HC.mono ?_
 clear HC
 rintro e w11 ⟨rfl, hb⟩
 have S14 := Lib.hid (S13.out.keep hb)
 clear S13
 clear hb
 have S15 := Lib.hid (show Sl.Sep W _ [Bag.bag (V.rw_ByteZ z3r0'), Bag.bag (V.rw_ByteZ z4'), Bag.bag (V.rw_ByteZ z5'), Bag.bag (V.rw_ByteZ z6r0')] from Bag.take S14.out [0, 1, 2, 3] (by rfl) (by decide))
 clear S14
 obtain ⟨Ez4', hE⟩ : ∃ E, (1 : Int) + (V.ct_ByteZ z4' : Int) = E := ⟨_, rfl⟩
 have hEb := V.ctS_ByteZ z4'
 have hEc : V.wt_ByteZ (V.co_ByteZ z4') ≤ 1099511627776 := (by rw [HZz4'.out]; exact (Nat.le_trans HF0.out (by decide : (1048576 : Nat) ≤ 1099511627776)))
 have hEb0 : 1 ≤ Ez4' := by omega
 have hEb1 : Ez4' ≤ 1 + 72057594037928000 := by omega
 clear hEc
 have hEb2 : 0 < Ez4' := by omega
 have hEb3 : ¬ Ez4' < 0 := by omega
 have HEz4' := Lib.hid hE
 clear hE hEb
 go_wp2_with fail
 go_at_call 23
 have HC := V.mark_ByteZ S15.out 1 (z := z4') rfl 1 (by rw [HZz4'.out]; exact (Nat.le_trans HF0.out (by decide : (1048576 : Nat) ≤ 1099511627776))) (by omega) (by rw [HEz4'.out]; omega)
 try dsimp only [V.vv_ByteZ] at HC
 rw [HEz4'.out] at HC
 refine HC.mono ?_
 clear HC
 rintro e w12 ⟨rfl, hS⟩
 have S16 := Lib.hid (show Sl.Sep W _ [_, Bag.bag (V.rw_ByteZ (V.md_ByteZ 1 z4')), _, _] from hS)
 clear S15
 clear hS
 obtain ⟨Ez5', hE⟩ : ∃ E, (Ez4' : Int) + (V.ct_ByteZ z5' : Int) = E := ⟨_, rfl⟩
 have hEb := V.ctS_ByteZ z5'
 have hEc : V.wt_ByteZ (V.co_ByteZ z5') ≤ 1099511627776 := (by rw [HZz5'.out]; exact (Nat.le_trans HF2.out (by decide : (1048576 : Nat) ≤ 1099511627776)))
 have hEb0 : Ez4' ≤ Ez5' := by omega
 have hEb1 : Ez5' ≤ Ez4' + 72057594037928000 := by omega
 clear hEc
 have hEb2 : 0 < Ez5' := by omega
 have hEb3 : ¬ Ez5' < 0 := by omega
 have HEz5' := Lib.hid hE
 clear hE hEb
 go_wp2_with fail
 go_at_call 23
 have HC := V.mark_ByteZ S16.out 2 (z := z5') rfl Ez4' (by rw [HZz5'.out]; exact (Nat.le_trans HF2.out (by decide : (1048576 : Nat) ≤ 1099511627776))) (by omega) (by rw [HEz5'.out]; omega)
 try dsimp only [V.vv_ByteZ] at HC
 rw [HEz5'.out] at HC
 refine HC.mono ?_
 clear HC
 rintro e w13 ⟨rfl, hS⟩
 have S17 := Lib.hid (show Sl.Sep W _ [_, _, Bag.bag (V.rw_ByteZ (V.md_ByteZ Ez4' z5')), _] from hS)
 clear S16
 clear hS
 go_wp2_with fail
 go_at_call 21
 have HC := V.eq_ByteZ z6r0' z3r0' (HZz6r0'.out.trans HZz3r0'.out.symm) (by rw [HZz6r0'.out]; exact HFR0.out) _ (Bag.bag_rd S17.out 3 rfl) (Bag.bag_rd S17.out 0 rfl)
 try dsimp only [V.vv_ByteZ] at HC
 refine HC.mono ?_
 clear HC
 rintro e w14 ⟨rfl, hb⟩
 have S18 := Lib.hid (S17.out.keep hb)
 clear S17
 clear hb
 obtain ⟨Ez6r0', hE⟩ : ∃ E, (1 : Int) + (V.ct_ByteZ z6r0' : Int) = E := ⟨_, rfl⟩
 have hEb := V.ctS_ByteZ z6r0'
 have hEc : V.wt_ByteZ (V.co_ByteZ z6r0') ≤ 1099511627776 := (by rw [HZz6r0'.out]; exact HFR0.out)
 have hEb0 : 1 ≤ Ez6r0' := by omega
 have hEb1 : Ez6r0' ≤ 1 + 72057594037928000 := by omega
 clear hEc
 have hEb2 : 0 < Ez6r0' := by omega
 have hEb3 : ¬ Ez6r0' < 0 := by omega
 have HEz6r0' := Lib.hid hE
 clear hE hEb
 go_wp2_with fail
 go_at_call 23
 have HC := V.mark_ByteZ S18.out 3 (z := z6r0') rfl 1 (by rw [HZz6r0'.out]; exact HFR0.out) (by omega) (by rw [HEz6r0'.out]; omega)
 try dsimp only [V.vv_ByteZ] at HC
 rw [HEz6r0'.out] at HC
 refine HC.mono ?_
 clear HC
 rintro e w15 ⟨rfl, hS⟩
 have S19 := Lib.hid (show Sl.Sep W _ [_, _, _, Bag.bag (V.rw_ByteZ (V.md_ByteZ 1 z6r0'))] from hS)
 clear S18
 clear hS
 go_wp2_with fail
 go_at_call 24
 have HC := V.held_ByteZ z6r0' 1 (by rw [HZz6r0'.out]; exact HFR0.out) (by omega) (by rw [HEz6r0'.out]; omega) _ (Bag.bag_rd S19.out 3 rfl)
 try dsimp only [V.vv_ByteZ] at HC
 rw [HEz6r0'.out] at HC
 refine HC.mono ?_
 clear HC
 rintro e w16 ⟨rfl, hb⟩
 have S20 := Lib.hid (S19.out.keep hb)
 clear S19
 clear hb
 go_wp2_with fail
 go_at_call 19
 have HC := V.to_ByteZ y0 (by rw [HC0.out]; exact HF0.out) _ (HRY0.out _ S20.out.old)
 try dsimp only [V.vv_ByteZ] at HC
 refine HC.mono ?_
 clear HC
 rintro e w17 ⟨z9', rfl, hcon, ho, hb⟩
 have S21 := Lib.hid (show Sl.Sep W _ [Bag.bag (V.rw_ByteZ z3r0'), Bag.bag (V.rw_ByteZ (V.md_ByteZ 1 z4')), Bag.bag (V.rw_ByteZ (V.md_ByteZ Ez4' z5')), Bag.bag (V.rw_ByteZ (V.md_ByteZ 1 z6r0')), Bag.bag (V.rw_ByteZ z9')] from Bag.push_bag S20.out hb ho)
 clear S20
 clear hb ho
 have HZz9' := Lib.hid (hcon.trans HC0.out)
 clear hcon
 try dsimp only [V.vv_ByteZ]
 go_wp2_with fail
 go_at_call 19
 have HC := V.to_ByteZ y2 (by rw [HC2.out]; exact HF2.out) _ (HRY2.out _ S21.out.old)
 try dsimp only [V.vv_ByteZ] at HC
 refine HC.mono ?_
 clear HC
 rintro e w18 ⟨z10', rfl, hcon, ho, hb⟩
 have S22 := Lib.hid (show Sl.Sep W _ [_, _, _, _, _, Bag.bag (V.rw_ByteZ z10')] from Bag.push_bag S21.out hb ho)
 clear S21
 clear hb ho
 have HZz10' := Lib.hid (hcon.trans HC2.out)
 clear hcon
 try dsimp only [V.vv_ByteZ]
 go_wp2_with fail
 go_at_call 13
 have HC := Cimpl.out z9' HZz9'.out z10' HZz10'.out _ (Bag.bag_rd S22.out 4 rfl) (Bag.bag_rd S22.out 5 rfl)
 try dsimp only [V.vv_ByteZ] at HC
 refine HC.mono ?_
 clear HC
 rintro e w19 ⟨z11r0', rfl, hcon0, ho, hb⟩
 have S23 := Lib.hid (show Sl.Sep W _ [_, _, _, _, _, _, Bag.bag (V.rw_ByteZ z11r0')] from Bag.push_bag S22.out hb ho)
 clear S22
 clear hb ho
 have HZz11r0' := Lib.hid hcon0
 clear hcon0
 have S24 := Lib.hid (show Sl.Sep W _ [_, _, _, _, _] from Bag.take S23.out [0, 1, 2, 3, 6] (by rfl) (by decide))
 clear S23
 go_wp2_with fail
 go_at_call 21
 have HC := V.eq_ByteZ z11r0' z3r0' (HZz11r0'.out.trans HZz3r0'.out.symm) (by rw [HZz11r0'.out]; exact HFR0.out) _ (Bag.bag_rd S24.out 4 rfl) (Bag.bag_rd S24.out 0 rfl)
 try dsimp only [V.vv_ByteZ] at HC
 refine HC.mono ?_
 clear HC
 rintro e w20 ⟨rfl, hb⟩
 have S25 := Lib.hid (S24.out.keep hb)
 clear S24
 clear hb
 go_wp2_with fail
 go_at_call 24
 have HC := V.held_ByteZ z6r0' 1 (by rw [HZz6r0'.out]; exact HFR0.out) (by omega) (by rw [HEz6r0'.out]; omega) _ (Bag.bag_rd S25.out 3 rfl)
 try dsimp only [V.vv_ByteZ] at HC
 rw [HEz6r0'.out] at HC
 refine HC.mono ?_
 clear HC
 rintro e w21 ⟨rfl, hb⟩
 have S26 := Lib.hid (S25.out.keep hb)
 clear S25
 clear hb
 go_wp2_with fail
 go_ret
 exact ⟨rfl, S26.out.old⟩

set_option maxRecDepth 100000 in
theorem lifted (os : Os) (started : os.Started) (H : Type) (enc : TypeId × Value → H) :
  ReturnsInHanded {} Try.checked os 7 .any (Rows.fnExactCrashLogSpec.pre6 enc Try.prog Try.f7 Rows.fnExactCrashLogRow.domain false) (Rows.fnExactCrashLogSpec.post enc Try.prog Try.f7 false true false false) := by
 refine returnsInHanded_of_change_sized (C := Try.checked) own started (by kernel_rfl) Try.func7
  (ChangeSpec.witness6 (enc := enc) (C := Try.checked) false ⟨#[], #[.slice none 0 0, .int .i64 0, .slice none 0 0], []⟩ 8 (by kernel_rfl) (by kernel_rfl) (by kernel_rfl) (by kernel_rfl)) ?_
 intro W base args ds gs before hval0 hW _ hsz0 _
 have hval : ∀ (j : Nat) t v, Try.f7.params[j]? = some t → args[j]? = some v → Value.okWide Try.prog W .any base t v := hval0
 have hW' := hW
 obtain ⟨p, q, hA0, hV, rfl, _, _⟩ := hW
 have hA : DataW.TrodAll enc Try.prog W 0 (fun _ => true) true Try.f7.params.toList args.toList ds p := hA0
 obtain ⟨rfl, rfl⟩ := trodVars_none hV
 have hlt : ∀ x ∈ p, x.block < W.heap.size := fun x hx => hW'.lt x (by simpa using hx)
 simp only [List.append_nil] at hW'
 have hw := walk H enc W base args ds p hval hA hlt hsz0
 have hA1 := hA
 clear hA0 hval0 hsz0 hval hlt
 rw [Try.params7] at hA
 obtain ⟨v0, vs0, d0, ds0, p0, q0, e0, rfl, rfl, h0, hr0⟩ := trodAll_cons hA
 obtain ⟨v1, vs1, d1, ds1, p1, q1, e1, rfl, rfl, h1, hr1⟩ := trodAll_cons hr0
 obtain ⟨v2, vs2, d2, ds2, p2, q2, e2, rfl, rfl, h2, hr2⟩ := trodAll_cons hr1
 obtain ⟨e3, rfl, rfl⟩ := trodAll_nil hr2
 refine hw.mono fun e W' ⟨he, hb⟩ => ?_
 subst he
 exact ⟨_, rfl, Frame.law_post (tb := 4) rfl hW' hA1 rfl rfl rfl laidOut (by kernel_rfl) (by kernel_rfl) Try.underlying4 hb⟩

theorem closedFacts : joinedFacts Try.pinned.checked.prog 7 Try.f7 Rows.fnExactCrashLogSpec Rows.fnExactCrashLogRow = true := by
 have h1 : Try.pinned.checked.prog.mayEnter = true := Closed.mayIn
 have h2 : (Rows.fnExactCrashLogRow.lifted == Try.pinned.checked.prog.liftsFinal) = true := by
  rw [show Try.pinned.checked.prog.liftsFinal = false from Closed.liftsNone]; rfl
 have h3 : (Try.pinned.checked.prog.make == some Rows.fnExactCrashLogRow.make) = true := by
  rw [show Try.pinned.checked.prog.make = some .cut from Closed.makeIs]; rfl
 unfold joinedFacts
 rw [h1, h2, h3]
 change _ = true
 kernel_rfl
theorem holds : Rows.FnExactCrashLogSaid :=
 OpenClaim.holds_of_wide 7 Try.f7 rfl rfl rfl rfl rfl rfl rfl ⟨rfl, rfl, rfl, rfl, rfl⟩ rfl rfl rfl rfl rfl (by kernel_rfl) Try.func7 closedFacts
  (of_decide_eq_true (by kernel_rfl)) (by unfold Func.isWrapper; first | (rw [if_pos (by decide +kernel)]; kernel_rfl) | (rw [if_neg (by decide +kernel)]; exact ⟨rfl, rfl⟩))
  (fun os started H enc _ => lifted os started H enc)

#print axioms holds
end Go.Proofs.Ytejincmlblpaoaa.lawFnExactCrashLog
