import Derived.Test.YthljdhfgphebnaaGreatFnExactUpgradeToP6
import Derived.Test.YthljdhfgphebnaaGreatClosed
import Derived.JoinedOf
import Derived.SizedLaws
import Derived.LaidLaws
import Derived.ShutString
import Derived.Stop.LaidErr
import Derived.Lib.LaidTab
import Derived.Deep.RegionHeld3
import Derived.Deep.DeepCutAuto
set_option linter.unusedSimpArgs false
namespace Go.Proofs.YthljdhfgphebnaaGreat.lawFnExactUpgradeTo
open Go.ChangeShapes Go.WideShapes Go.ChangeAt Go.RowKit
open Go.ChangeMaps (open_string shut_string)
theorem own : ownKnob Tryz.prog.godebug = none := by kernel_rfl
theorem laidOut : laidOutB Tryz.prog = true := by kernel_rfl
open Mem Sl Bag
open Go.Proofs.YthljdhfgphebnaaGreat.L5 (cellsF)
set_option maxRecDepth 100000 in
set_option maxHeartbeats 8000000 in
theorem walk (H : Type) (enc : TypeId × Value → H) (W : World) (base : Nat) (args : Array Value) (ds : List (DataW H)) (p : List MemPlace)
  (hval : ∀ (j : Nat) t v, Tryz.f4.params[j]? = some t → args[j]? = some v → Value.okWide Tryz.prog W .any base t v)
  (hA : DataW.TrodAll enc Tryz.prog W 0 (fun _ => true) true Tryz.f4.params.toList args.toList ds p)
  (hlt : ∀ x ∈ p, x.block < W.heap.size)
  (hsz : (DataW.weightsEach Tryz.prog (Tryz.f4.params.toList ++ Rows.fnExactUpgradeToSpec.plain.varTypes Tryz.prog) (ds ++ [])).all (· ≤ reachBytes) = true) :
  Calls Tryz.prog 4 args W fun e w' => e = .returned (.bool true) ∧ Below W.heap.size W w' := by
 rw [Tryz.params4] at hA hval hsz
 obtain ⟨v0, vs0, d0, ds0, p0, q0, e0, rfl, rfl, h0, g0⟩ := trodAll_cons hA
 obtain ⟨v1, vs1, d1, ds1, p1, q1, e1, rfl, rfl, h1, g1⟩ := trodAll_cons g0
 obtain ⟨v2, vs2, d2, ds2, p2, q2, e2, rfl, rfl, h2, g2⟩ := trodAll_cons g1
 obtain ⟨ez, rfl, rfl⟩ := trodAll_nil g2
 subst ez
 subst e2
 subst e1
 obtain rfl : args = #[v0, v1, v2] := Array.toList_inj.1 e0
 clear e0
 obtain ⟨y0, rfl, hR0, hW0⟩ := V.open_Database (hval 0 25 v0 rfl rfl) h0 (fun x hx => hlt x (by simp [hx]))
 obtain ⟨n1, rfl, -, -, hW1⟩ := open_int Tryz.underlying3 (hval 1 3 v1 rfl rfl) h1
 have I1 := Law.wf_i64 hW1
 clear hW1
 obtain ⟨y2, rfl, hR2, hW2⟩ := V.open_UpgradeZ (hval 2 42 v2 rfl rfl) h2 (fun x hx => hlt x (by simp [hx]))
 clear hval hA hlt hsz h0 h1 h2
 have HSZ0 := Lib.hid (fun (q : Int) (h0 : -1 ≤ q) (h1 : q ≤ 1048576) (w' : World) (h : Below W.heap.size W w') => (V.sz_Database y0 q hW0 h0 h1 w' ((hR0.below h).more h.size)).mono (R' := fun e w2 => ∃ u : Int, e = .returned (.int .i64 u) ∧ (-1 ≤ u ∧ u ≤ 1048576 ∧ (0 ≤ u → V.wt_Database (V.co_Database y0) ≤ 1048576)) ∧ Below w'.heap.size w' w2) fun e w2 ⟨he, hb⟩ => by obtain ⟨u, hu, hq⟩ := (show ∃ u : Int, V.lft q (V.wt_Database (V.co_Database y0)) = u ∧ (-1 ≤ u ∧ u ≤ 1048576 ∧ (0 ≤ u → V.wt_Database (V.co_Database y0) ≤ 1048576)) from ⟨_, rfl, (V.lft_range _ h1).1, (V.lft_range _ h1).2, fun h3 => (V.lft_small (by omega) h1).1⟩); exact ⟨u, by rw [he, hu], hq, hb⟩)
 have HRY0 := Lib.hid (fun w' (h : Below W.heap.size W w') => ((hR0.below h).more h.size : RowsRd w' w'.heap.size (V.rw_Database y0)))
 clear hR0 hW0
 try dsimp only [V.vv_Database, V.vv_UpgradeZ] at HSZ0
 have HSZ2 := Lib.hid (fun (q : Int) (h0 : -1 ≤ q) (h1 : q ≤ 1048576) (w' : World) (h : Below W.heap.size W w') => (V.sz_UpgradeZ y2 q hW2 h0 h1 w' ((hR2.below h).more h.size)).mono (R' := fun e w2 => ∃ u : Int, e = .returned (.int .i64 u) ∧ (-1 ≤ u ∧ u ≤ 1048576 ∧ (0 ≤ u → V.wt_UpgradeZ (V.co_UpgradeZ y2) ≤ 1048576)) ∧ Below w'.heap.size w' w2) fun e w2 ⟨he, hb⟩ => by obtain ⟨u, hu, hq⟩ := (show ∃ u : Int, V.lft q (V.wt_UpgradeZ (V.co_UpgradeZ y2)) = u ∧ (-1 ≤ u ∧ u ≤ 1048576 ∧ (0 ≤ u → V.wt_UpgradeZ (V.co_UpgradeZ y2) ≤ 1048576)) from ⟨_, rfl, (V.lft_range _ h1).1, (V.lft_range _ h1).2, fun h3 => (V.lft_small (by omega) h1).1⟩); exact ⟨u, by rw [he, hu], hq, hb⟩)
 have HRY2 := Lib.hid (fun w' (h : Below W.heap.size W w') => ((hR2.below h).more h.size : RowsRd w' w'.heap.size (V.rw_UpgradeZ y2)))
 clear hR2 hW2
 try dsimp only [V.vv_Database, V.vv_UpgradeZ] at HSZ2
 try dsimp only [V.vv_Database, V.vv_UpgradeZ]
 have S1 := Lib.hid (show Sl.Sep W _ [_] from L4.push_box (Sl.Sep.start W) 25 #[.string y0.f_Name, .int .i64 y0.f_Version, .slice y0.f_Stores_a y0.f_Stores.length y0.f_Stores_c, .slice y0.f_Unique_a y0.f_Unique.length y0.f_Unique_c] (W.heap.size) (by simp))
 obtain ⟨wa, hwa⟩ : ∃ w_, w_ = (W.alloc (.cells #[.string y0.f_Name, .int .i64 y0.f_Version, .slice y0.f_Stores_a y0.f_Stores.length y0.f_Stores_c, .slice y0.f_Unique_a y0.f_Unique.length y0.f_Unique_c] 25)) := ⟨_, rfl⟩
 rw [← hwa] at S1
 go_enter Tryz.func4, Tryz.ntmps4
 go_upto_region 1 with fail
 rw [← hwa]
 clear hwa
 obtain ⟨f0, f1, f2, f3⟩ := Bag.cs4 S1.out 0 rfl
 go_wp2_with fail
 go_at_call 6
 have HC := HSZ0.out 1048576 (by omega) (by omega) _ S1.out.old
 try dsimp only [V.vv_Database, V.vv_UpgradeZ] at HC
 refine HC.mono ?_
 clear HC
 rintro e w1 ⟨u0, rfl, ro, hb⟩
 clear f0 f1 f2 f3
 have S2 := Lib.hid (S1.out.keep hb)
 clear S1
 clear hb
 have HRO0 := Lib.hid ro
 have X0 : -1 ≤ u0 ∧ u0 ≤ 1048576 := ⟨ro.1, ro.2.1⟩
 clear ro
 by_cases neg0 : u0 < 0
 ·
  skip
  go_wp2_with fail
  go_ret
  exact ⟨rfl, S2.out.old⟩
 have HF0 := Lib.hid (HRO0.out.2.2 (by omega))
 go_wp2_with fail
 go_at_call 15
 have HC := HSZ2.out u0 (by omega) (by omega) _ S2.out.old
 try dsimp only [V.vv_Database, V.vv_UpgradeZ] at HC
 refine HC.mono ?_
 clear HC
 rintro e w2 ⟨u2, rfl, ro, hb⟩
 have S3 := Lib.hid (S2.out.keep hb)
 clear S2
 clear hb
 have HRO2 := Lib.hid ro
 have X2 : -1 ≤ u2 ∧ u2 ≤ 1048576 := ⟨ro.1, ro.2.1⟩
 clear ro
 by_cases neg2 : u2 < 0
 ·
  skip
  go_wp2_with fail
  go_ret
  exact ⟨rfl, S3.out.old⟩
 have HF2 := Lib.hid (HRO2.out.2.2 (by omega))
 obtain ⟨C0, hC0⟩ : ∃ C, V.co_Database y0 = C := ⟨_, rfl⟩
 rw [hC0] at HF0
 have HC0 := Lib.hid hC0
 clear hC0
 obtain ⟨C2, hC2⟩ : ∃ C, V.co_UpgradeZ y2 = C := ⟨_, rfl⟩
 rw [hC2] at HF2
 have HC2 := Lib.hid hC2
 clear hC2
 obtain ⟨r0', hr0'⟩ : ∃ r : V.X_Database, L8.toD C0 n1 C2 = r := ⟨_, rfl⟩
 obtain ⟨r1', hr1'⟩ : ∃ r : Bool, L8.toB C0 n1 C2 = r := ⟨_, rfl⟩
 have Cspec : ∀ (z0 : V.Y_Database), V.co_Database z0 = C0 → ∀ (z2 : V.Y_UpgradeZ), V.co_UpgradeZ z2 = C2 → ∀ w' : World, RowsRd w' w'.heap.size (V.rw_Database z0) → RowsRd w' w'.heap.size (V.rw_UpgradeZ z2) → Calls Tryz.prog 16 #[.agg #[.string z0.f_Name, .int .i64 z0.f_Version, .slice z0.f_Stores_a z0.f_Stores.length z0.f_Stores_c, .slice z0.f_Unique_a z0.f_Unique.length z0.f_Unique_c], .int .i64 n1, .slice z2.a z2.xs.length z2.c] w' fun e w'' => ∃ (z0 : V.Y_Database), e = .returned (.tuple #[.agg #[.string z0.f_Name, .int .i64 z0.f_Version, .slice z0.f_Stores_a z0.f_Stores.length z0.f_Stores_c, .slice z0.f_Unique_a z0.f_Unique.length z0.f_Unique_c], .bool r1']) ∧ V.co_Database z0 = r0' ∧ BagOwn w'' w'.heap.size ((V.rw_Database z0)) ∧ Below w'.heap.size w' w'' := by
  intro z0 hz0 z2 hz2 w' hr0 hr2
  have hf0 : V.wt_Database (V.co_Database z0) ≤ 1048576 := by rw [hz0]; exact HF0.out
  have hf2 : V.wt_UpgradeZ (V.co_UpgradeZ z2) ≤ 1048576 := by rw [hz2]; exact HF2.out
  have h := (show Calls Tryz.prog 16 #[V.vv_Database z0, .int .i64 n1, .slice z2.a z2.xs.length z2.c] w' (L8.GaveDB w' (L8.toD (V.co_Database z0) n1 (V.co_UpgradeZ z2)) (L8.toB (V.co_Database z0) n1 (V.co_UpgradeZ z2))) from L8.specUpgradeTo_any z0 n1 z2.a z2.c z2.xs (L8.fitD_wt hf0) (L8.fitUs_wt hf2).1 (L8.fitUs_wt hf2).2 w' hr0 (V.rd_UpgradeZ hr2))
  rw [hz0, hz2, hr0', hr1'] at h
  exact h
 replace Cspec := Lib.hid Cspec
 have Cimpl : ∀ (z0 : V.Y_Database), V.co_Database z0 = C0 → ∀ (z2 : V.Y_UpgradeZ), V.co_UpgradeZ z2 = C2 → ∀ w' : World, RowsRd w' w'.heap.size (V.rw_Database z0) → RowsRd w' w'.heap.size (V.rw_UpgradeZ z2) → Calls Tryz.prog 18 #[.agg #[.string z0.f_Name, .int .i64 z0.f_Version, .slice z0.f_Stores_a z0.f_Stores.length z0.f_Stores_c, .slice z0.f_Unique_a z0.f_Unique.length z0.f_Unique_c], .int .i64 n1, .slice z2.a z2.xs.length z2.c] w' fun e w'' => ∃ (z0 : V.Y_Database), e = .returned (.tuple #[.agg #[.string z0.f_Name, .int .i64 z0.f_Version, .slice z0.f_Stores_a z0.f_Stores.length z0.f_Stores_c, .slice z0.f_Unique_a z0.f_Unique.length z0.f_Unique_c], .bool r1']) ∧ V.co_Database z0 = r0' ∧ BagOwn w'' w'.heap.size ((V.rw_Database z0)) ∧ Below w'.heap.size w' w'' := by
  intro z0 hz0 z2 hz2 w' hr0 hr2
  have hf0 : V.wt_Database (V.co_Database z0) ≤ 1048576 := by rw [hz0]; exact HF0.out
  have hf2 : V.wt_UpgradeZ (V.co_UpgradeZ z2) ≤ 1048576 := by rw [hz2]; exact HF2.out
  have h := (show Calls Tryz.prog 18 #[V.vv_Database z0, .int .i64 n1, .slice z2.a z2.xs.length z2.c] w' (L8.GaveDB w' (L8.toD (V.co_Database z0) n1 (V.co_UpgradeZ z2)) (L8.toB (V.co_Database z0) n1 (V.co_UpgradeZ z2))) from L8.upgradeTo_any z0 n1 z2.a z2.c z2.xs (L8.fitD_wt hf0) (L8.fitUs_wt hf2).1 (L8.fitUs_wt hf2).2 w' hr0 (V.rd_UpgradeZ hr2))
  rw [hz0, hz2, hr0', hr1'] at h
  exact h
 replace Cimpl := Lib.hid Cimpl
 have HFR0 := Lib.hid (show V.wt_Database r0' ≤ 1125899906842624 from by rw [← hr0']; exact (by have h1 := L8.wt_to C0 n1 C2; have h2 := HF0.out; have h3 : V.wsum V.wt_Upgrade C2 ≤ 1048576 := HF2.out; omega))
 clear hr0' hr1'
 obtain ⟨f0, f1, f2, f3⟩ := Bag.cs4 S3.out 0 rfl
 go_wp2_with fail
 go_at_call 9
 have HC := V.to_Database y0 (by rw [HC0.out]; exact HF0.out) _ (HRY0.out _ S3.out.old)
 try dsimp only [V.vv_Database, V.vv_UpgradeZ] at HC
 refine HC.mono ?_
 clear HC
 rintro e w3 ⟨z1', rfl, hcon, ho, hb⟩
 clear f0 f1 f2 f3
 have S4 := Lib.hid (show Sl.Sep W _ [L4.boxR W.heap.size 25 (V.cs_Database y0), Bag.bag (V.rw_Database z1')] from Bag.push_bag S3.out hb ho)
 clear S3
 clear hb ho
 have HZz1' := Lib.hid (hcon.trans HC0.out)
 clear hcon
 try dsimp only [V.vv_Database, V.vv_UpgradeZ]
 obtain ⟨f0, f1, f2, f3⟩ := Bag.cs4 S4.out 0 rfl
 go_wp2_with fail
 go_at_call 17
 have HC := V.to_UpgradeZ y2 (by rw [HC2.out]; exact HF2.out) _ (HRY2.out _ S4.out.old)
 try dsimp only [V.vv_Database, V.vv_UpgradeZ] at HC
 refine HC.mono ?_
 clear HC
 rintro e w4 ⟨z2', rfl, hcon, ho, hb⟩
 clear f0 f1 f2 f3
 have S5 := Lib.hid (show Sl.Sep W _ [_, _, Bag.bag (V.rw_UpgradeZ z2')] from Bag.push_bag S4.out hb ho)
 clear S4
 clear hb ho
 have HZz2' := Lib.hid (hcon.trans HC2.out)
 clear hcon
 try dsimp only [V.vv_Database, V.vv_UpgradeZ]
 go_wp2_with fail
 go_at_call 16
 have HC := Cspec.out z1' HZz1'.out z2' HZz2'.out _ (Bag.bag_rd S5.out 1 rfl) (Bag.bag_rd S5.out 2 rfl)
 try dsimp only [V.vv_Database, V.vv_UpgradeZ] at HC
 refine HC.mono ?_
 clear HC
 rintro e w5 ⟨z3r0', rfl, hcon0, ho, hb⟩
 have S6 := Lib.hid (show Sl.Sep W _ [_, _, _, Bag.bag (V.rw_Database z3r0')] from Bag.push_bag S5.out hb ho)
 clear S5
 clear hb ho
 have HZz3r0' := Lib.hid hcon0
 clear hcon0
 go_upto_region 9 with fail
 have S7 := Lib.hid (show Sl.Sep W _ [_, _, _, _, _] from L4.push_box (S6.out) 33 #[.string z3r0'.f_Name, .int .i64 z3r0'.f_Version, .slice z3r0'.f_Stores_a z3r0'.f_Stores.length z3r0'.f_Stores_c, .slice z3r0'.f_Unique_a z3r0'.f_Unique.length z3r0'.f_Unique_c] (w5.heap.size) (by simp))
 clear S6
 obtain ⟨g1, hg⟩ : ∃ g', g' = w5.heap.size := ⟨_, rfl⟩
 rw [← hg] at S7 ⊢
 clear hg
 generalize (w5.alloc (.cells #[.string z3r0'.f_Name, .int .i64 z3r0'.f_Version, .slice z3r0'.f_Stores_a z3r0'.f_Stores.length z3r0'.f_Stores_c, .slice z3r0'.f_Unique_a z3r0'.f_Unique.length z3r0'.f_Unique_c] 33)) = w6 at S7 ⊢
 have S8 := Lib.hid (show Sl.Sep W _ [_, _, L4.boxR g1 33 (V.cs_Database z3r0')] from Bag.take S7.out [0, 3, 4] (by rfl) (by decide))
 clear S7
 obtain ⟨f0, f1, f2, f3⟩ := Bag.cs4 S8.out 0 rfl
 go_wp2_with fail
 go_at_call 9
 have HC := V.to_Database y0 (by rw [HC0.out]; exact HF0.out) _ (HRY0.out _ S8.out.old)
 try dsimp only [V.vv_Database, V.vv_UpgradeZ] at HC
 refine HC.mono ?_
 clear HC
 rintro e w7 ⟨z4', rfl, hcon, ho, hb⟩
 clear f0 f1 f2 f3
 have S9 := Lib.hid (show Sl.Sep W _ [_, _, _, Bag.bag (V.rw_Database z4')] from Bag.push_bag S8.out hb ho)
 clear S8
 clear hb ho
 have HZz4' := Lib.hid (hcon.trans HC0.out)
 clear hcon
 try dsimp only [V.vv_Database, V.vv_UpgradeZ]
 go_upto_region 10 with fail
 have S10 := Lib.hid (show Sl.Sep W _ [_, _, _, _, _] from L4.push_box S9.out 33 #[.string z4'.f_Name, .int .i64 z4'.f_Version, .slice z4'.f_Stores_a z4'.f_Stores.length z4'.f_Stores_c, .slice z4'.f_Unique_a z4'.f_Unique.length z4'.f_Unique_c] w7.heap.size rfl)
 clear S9
 obtain ⟨g2, hg⟩ : ∃ g', g' = w7.heap.size := ⟨_, rfl⟩
 rw [← hg] at S10 ⊢
 clear hg
 generalize w7.alloc (.cells #[.string z4'.f_Name, .int .i64 z4'.f_Version, .slice z4'.f_Stores_a z4'.f_Stores.length z4'.f_Stores_c, .slice z4'.f_Unique_a z4'.f_Unique.length z4'.f_Unique_c] 33) = w8 at S10 ⊢
 go_wp2_with fail
 go_at_call 17
 have HC := V.to_UpgradeZ y2 (by rw [HC2.out]; exact HF2.out) _ (HRY2.out _ S10.out.old)
 try dsimp only [V.vv_Database, V.vv_UpgradeZ] at HC
 refine HC.mono ?_
 clear HC
 rintro e w9 ⟨z5', rfl, hcon, ho, hb⟩
 have S11 := Lib.hid (show Sl.Sep W _ [_, _, _, _, L4.boxR g2 33 (V.cs_Database z4'), Bag.bag (V.rw_UpgradeZ z5')] from Bag.push_bag S10.out hb ho)
 clear S10
 clear hb ho
 have HZz5' := Lib.hid (hcon.trans HC2.out)
 clear hcon
 try dsimp only [V.vv_Database, V.vv_UpgradeZ]
 obtain ⟨f0, f1, f2, f3⟩ := Bag.cs4 S11.out 4 rfl
 go_wp2_with fail
 go_at_call 18
 have HC := Cimpl.out z4' HZz4'.out z5' HZz5'.out _ (Bag.bag_rd S11.out 3 rfl) (Bag.bag_rd S11.out 5 rfl)
 try dsimp only [V.vv_Database, V.vv_UpgradeZ] at HC
 refine HC.mono ?_
 clear HC
 rintro e w10 ⟨z6r0', rfl, hcon0, ho, hb⟩
 clear f0 f1 f2 f3
 have S12 := Lib.hid (show Sl.Sep W _ [_, _, _, _, _, _, Bag.bag (V.rw_Database z6r0')] from Bag.push_bag S11.out hb ho)
 clear S11
 clear hb ho
 have HZz6r0' := Lib.hid hcon0
 clear hcon0
 go_upto_region 12 with fail
 have S13 := Lib.hid (show Sl.Sep W _ [_, _, _, _, _, _, _, _] from L4.push_box (S12.out) 33 #[.string z6r0'.f_Name, .int .i64 z6r0'.f_Version, .slice z6r0'.f_Stores_a z6r0'.f_Stores.length z6r0'.f_Stores_c, .slice z6r0'.f_Unique_a z6r0'.f_Unique.length z6r0'.f_Unique_c] (w10.heap.size) (by simp))
 clear S12
 obtain ⟨g3, hg⟩ : ∃ g', g' = w10.heap.size := ⟨_, rfl⟩
 rw [← hg] at S13 ⊢
 clear hg
 generalize (w10.alloc (.cells #[.string z6r0'.f_Name, .int .i64 z6r0'.f_Version, .slice z6r0'.f_Stores_a z6r0'.f_Stores.length z6r0'.f_Stores_c, .slice z6r0'.f_Unique_a z6r0'.f_Unique.length z6r0'.f_Unique_c] 33)) = w11 at S13 ⊢
 obtain ⟨f0, f1, f2, f3⟩ := Bag.cs4 S13.out 2 rfl
 obtain ⟨f4, f5, f6, f7⟩ := Bag.cs4 S13.out 7 rfl
 go_wp2_with fail
 go_at_call 12
 have HC := V.eq_Database z6r0' z3r0' (HZz6r0'.out.trans HZz3r0'.out.symm) (by rw [HZz6r0'.out]; exact HFR0.out) _ (Bag.bag_rd S13.out 6 rfl) (Bag.bag_rd S13.out 1 rfl)
 try dsimp only [V.vv_Database, V.vv_UpgradeZ] at HC
 refine HC.mono ?_
 clear HC
 rintro e w12 ⟨rfl, hb⟩
 clear f0 f1 f2 f3 f4 f5 f6 f7
 have S14 := Lib.hid (S13.out.keep hb)
 clear S13
 clear hb
 go_upto_region 14 with fail
 refine wp_region_held_drew (S := (fun w' => (w'.cell? ⟨W.heap.size, 0, none⟩ = some (.string y0.f_Name) ∧ w'.cell? ⟨W.heap.size, 1, none⟩ = some (.int .i64 y0.f_Version) ∧ w'.cell? ⟨W.heap.size, 2, none⟩ = some (.slice y0.f_Stores_a y0.f_Stores.length y0.f_Stores_c) ∧ w'.cell? ⟨W.heap.size, 3, none⟩ = some (.slice y0.f_Unique_a y0.f_Unique.length y0.f_Unique_c)) ∧ (w'.cell? ⟨g2, 0, none⟩ = some (.string z4'.f_Name) ∧ w'.cell? ⟨g2, 1, none⟩ = some (.int .i64 z4'.f_Version) ∧ w'.cell? ⟨g2, 2, none⟩ = some (.slice z4'.f_Stores_a z4'.f_Stores.length z4'.f_Stores_c) ∧ w'.cell? ⟨g2, 3, none⟩ = some (.slice z4'.f_Unique_a z4'.f_Unique.length z4'.f_Unique_c)))) (by kernel_rfl) ⟨Bag.cs4 (Bag.drew1 S14.out) 0 rfl, Bag.cs4 (Bag.drew1 S14.out) 4 rfl⟩ (fun hS => ?_)
 have S15 := Lib.hid (Bag.drew1 S14.out)
 clear S14
 generalize World.drew _ = w13 at hS S15 ⊢
 refine tk 0 rfl ?_
 try simp only [zp0, zp1, zp2, zp3, zp4]
 refine tk 1 rfl ?_
 try simp only [zp0, zp1, zp2, zp3, zp4]
 refine Reg.one_op (i := 2) rfl (by kernel_rfl) (fun K hK => ?_)
 go_simp
 go_at_call 9
 have HC := V.to_Database y0 (by rw [HC0.out]; exact HF0.out) _ (HRY0.out _ S15.out.old)
 try dsimp only [V.vv_Database, V.vv_UpgradeZ] at HC
 refine HC.mono ?_
 clear HC
 rintro e w14 ⟨z7', rfl, hcon, ho, hb⟩
 have S16 := Lib.hid (show Sl.Sep W _ [_, _, _, _, _, _, _, _, Bag.bag (V.rw_Database z7')] from Bag.push_bag S15.out hb ho)
 clear S15
 clear hb ho
 have HZz7' := Lib.hid (hcon.trans HC0.out)
 clear hcon
 try dsimp only [V.vv_Database, V.vv_UpgradeZ]
 go_wp2_with fail
 refine hK.out _ _ ⟨Bag.cs4 S16.out 0 rfl, Bag.cs4 S16.out 4 rfl⟩ (fun hS => ?_)
 clear hK K
 try simp only [zp0, zp1, zp2, zp3, zp4]
 refine Reg.one_op (i := 3) rfl (by kernel_rfl) (fun K hK => ?_)
 go_simp
 go_at_call 12
 have HC := V.eq_Database z4' z7' (HZz4'.out.trans HZz7'.out.symm) (by rw [HZz4'.out]; exact (Nat.le_trans HF0.out (by decide : (1048576 : Nat) ≤ 1125899906842624))) _ (Bag.bag_rd S16.out 3 rfl) (Bag.bag_rd S16.out 8 rfl)
 try dsimp only [V.vv_Database, V.vv_UpgradeZ] at HC
 refine HC.mono ?_
 clear HC
 rintro e w15 ⟨rfl, hb⟩
 have S17 := Lib.hid (S16.out.keep hb)
 clear S16
 clear hb
 go_wp2_with fail
 refine hK.out _ _ ⟨Bag.cs4 S17.out 0 rfl, Bag.cs4 S17.out 4 rfl⟩ (fun hS => ?_)
 clear hK K
 try simp only [zp0, zp1, zp2, zp3, zp4]
 refine tk 4 rfl ?_
 try simp only [zp0, zp1, zp2, zp3, zp4]
 refine wpAnyH_done (by kernel_rfl) ?_ _
 obtain ⟨f0, f1, f2, f3⟩ := Bag.cs4 S17.out 0 rfl
 obtain ⟨f4, f5, f6, f7⟩ := Bag.cs4 S17.out 2 rfl
 obtain ⟨f8, f9, f10, f11⟩ := Bag.cs4 S17.out 4 rfl
 obtain ⟨f12, f13, f14, f15⟩ := Bag.cs4 S17.out 7 rfl
 have S18 := Lib.hid (show Sl.Sep W _ [L4.boxR W.heap.size 25 (V.cs_Database y0), Bag.bag (V.rw_Database z3r0'), L4.boxR g1 33 (V.cs_Database z3r0'), Bag.bag (V.rw_Database z4'), L4.boxR g2 33 (V.cs_Database z4'), Bag.bag (V.rw_UpgradeZ z5'), Bag.bag (V.rw_Database z6r0'), L4.boxR g3 33 (V.cs_Database z6r0')] from Bag.take S17.out [0, 1, 2, 3, 4, 5, 6, 7] (by rfl) (by decide))
 clear S17
 clear f0 f1 f2 f3 f4 f5 f6 f7 f8 f9 f10 f11 f12 f13 f14 f15
 go_wp2_with fail
 go_at_call 17
 have HC := V.to_UpgradeZ y2 (by rw [HC2.out]; exact HF2.out) _ (HRY2.out _ S18.out.old)
 try dsimp only [V.vv_Database, V.vv_UpgradeZ] at HC
 refine HC.mono ?_
 clear HC
 rintro e w16 ⟨z8', rfl, hcon, ho, hb⟩
 have S19 := Lib.hid (show Sl.Sep W _ [_, _, _, _, _, _, _, _, Bag.bag (V.rw_UpgradeZ z8')] from Bag.push_bag S18.out hb ho)
 clear S18
 clear hb ho
 have HZz8' := Lib.hid (hcon.trans HC2.out)
 clear hcon
 try dsimp only [V.vv_Database, V.vv_UpgradeZ]
 go_wp2_with fail
 go_at_call 19
 have HC := V.eq_UpgradeZ z5' z8' (HZz5'.out.trans HZz8'.out.symm) (by rw [HZz5'.out]; exact (Nat.le_trans HF2.out (by decide : (1048576 : Nat) ≤ 1125899906842624))) _ (Bag.bag_rd S19.out 5 rfl) (Bag.bag_rd S19.out 8 rfl)
 try dsimp only [V.vv_Database, V.vv_UpgradeZ] at HC
 refine HC.mono ?_
 clear HC
 rintro e w17 ⟨rfl, hb⟩
 have S20 := Lib.hid (S19.out.keep hb)
 clear S19
 clear hb
 have S21 := Lib.hid (show Sl.Sep W _ [L4.boxR W.heap.size 25 (V.cs_Database y0), Bag.bag (V.rw_Database z3r0'), L4.boxR g1 33 (V.cs_Database z3r0'), Bag.bag (V.rw_Database z4'), L4.boxR g2 33 (V.cs_Database z4'), Bag.bag (V.rw_UpgradeZ z5'), Bag.bag (V.rw_Database z6r0'), L4.boxR g3 33 (V.cs_Database z6r0')] from Bag.take S20.out [0, 1, 2, 3, 4, 5, 6, 7] (by rfl) (by decide))
 clear S20
 obtain ⟨Ez4', hE⟩ : ∃ E, (1 : Int) + (V.ct_Database z4' : Int) = E := ⟨_, rfl⟩
 have hEb := V.ctS_Database z4'
 have hEc : V.wt_Database (V.co_Database z4') ≤ 1125899906842624 := (by rw [HZz4'.out]; exact (Nat.le_trans HF0.out (by decide : (1048576 : Nat) ≤ 1125899906842624)))
 have hEb0 : 1 ≤ Ez4' := by omega
 have hEb1 : Ez4' ≤ 1 + 72057594037928000 := by omega
 clear hEc
 have hEb2 : 0 < Ez4' := by omega
 have hEb3 : ¬ Ez4' < 0 := by omega
 have HEz4' := Lib.hid hE
 clear hE hEb
 obtain ⟨f0, f1, f2, f3⟩ := Bag.cs4 S21.out 4 rfl
 go_wp2_with fail
 go_at_call 13
 have HC := V.mark_Database S21.out 3 (z := z4') rfl 1 (by rw [HZz4'.out]; exact (Nat.le_trans HF0.out (by decide : (1048576 : Nat) ≤ 1125899906842624))) (by omega) (by rw [HEz4'.out]; omega)
 try dsimp only [V.vv_Database, V.vv_UpgradeZ] at HC
 rw [HEz4'.out] at HC
 refine HC.mono ?_
 clear HC
 rintro e w18 ⟨rfl, hS⟩
 clear f0 f1 f2 f3
 have S22 := Lib.hid (show Sl.Sep W _ [_, _, _, Bag.bag (V.rw_Database (V.md_Database 1 z4')), _, _, _, _] from hS)
 clear S21
 clear hS
 obtain ⟨Ez5', hE⟩ : ∃ E, (Ez4' : Int) + (V.ct_UpgradeZ z5' : Int) = E := ⟨_, rfl⟩
 have hEb := V.ctS_UpgradeZ z5'
 have hEc : V.wt_UpgradeZ (V.co_UpgradeZ z5') ≤ 1125899906842624 := (by rw [HZz5'.out]; exact (Nat.le_trans HF2.out (by decide : (1048576 : Nat) ≤ 1125899906842624)))
 have hEb0 : Ez4' ≤ Ez5' := by omega
 have hEb1 : Ez5' ≤ Ez4' + 72057594037928000 := by omega
 clear hEc
 have hEb2 : 0 < Ez5' := by omega
 have hEb3 : ¬ Ez5' < 0 := by omega
 have HEz5' := Lib.hid hE
 clear hE hEb
 go_wp2_with fail
 go_at_call 20
 have HC := V.mark_UpgradeZ S22.out 5 (z := z5') rfl Ez4' (by rw [HZz5'.out]; exact (Nat.le_trans HF2.out (by decide : (1048576 : Nat) ≤ 1125899906842624))) (by omega) (by rw [HEz5'.out]; omega)
 try dsimp only [V.vv_Database, V.vv_UpgradeZ] at HC
 rw [HEz5'.out] at HC
 refine HC.mono ?_
 clear HC
 rintro e w19 ⟨rfl, hS⟩
 have S23 := Lib.hid (show Sl.Sep W _ [_, _, _, _, _, Bag.bag (V.rw_UpgradeZ (V.md_UpgradeZ Ez4' z5')), _, _] from hS)
 clear S22
 clear hS
 obtain ⟨f0, f1, f2, f3⟩ := Bag.cs4 S23.out 2 rfl
 obtain ⟨f4, f5, f6, f7⟩ := Bag.cs4 S23.out 7 rfl
 go_wp2_with fail
 go_at_call 12
 have HC := V.eq_Database z6r0' z3r0' (HZz6r0'.out.trans HZz3r0'.out.symm) (by rw [HZz6r0'.out]; exact HFR0.out) _ (Bag.bag_rd S23.out 6 rfl) (Bag.bag_rd S23.out 1 rfl)
 try dsimp only [V.vv_Database, V.vv_UpgradeZ] at HC
 refine HC.mono ?_
 clear HC
 rintro e w20 ⟨rfl, hb⟩
 clear f0 f1 f2 f3 f4 f5 f6 f7
 have S24 := Lib.hid (S23.out.keep hb)
 clear S23
 clear hb
 obtain ⟨Ez6r0', hE⟩ : ∃ E, (1 : Int) + (V.ct_Database z6r0' : Int) = E := ⟨_, rfl⟩
 have hEb := V.ctS_Database z6r0'
 have hEc : V.wt_Database (V.co_Database z6r0') ≤ 1125899906842624 := (by rw [HZz6r0'.out]; exact HFR0.out)
 have hEb0 : 1 ≤ Ez6r0' := by omega
 have hEb1 : Ez6r0' ≤ 1 + 72057594037928000 := by omega
 clear hEc
 have hEb2 : 0 < Ez6r0' := by omega
 have hEb3 : ¬ Ez6r0' < 0 := by omega
 have HEz6r0' := Lib.hid hE
 clear hE hEb
 obtain ⟨f0, f1, f2, f3⟩ := Bag.cs4 S24.out 7 rfl
 go_wp2_with fail
 go_at_call 13
 have HC := V.mark_Database S24.out 6 (z := z6r0') rfl 1 (by rw [HZz6r0'.out]; exact HFR0.out) (by omega) (by rw [HEz6r0'.out]; omega)
 try dsimp only [V.vv_Database, V.vv_UpgradeZ] at HC
 rw [HEz6r0'.out] at HC
 refine HC.mono ?_
 clear HC
 rintro e w21 ⟨rfl, hS⟩
 clear f0 f1 f2 f3
 have S25 := Lib.hid (show Sl.Sep W _ [_, _, _, _, _, _, Bag.bag (V.rw_Database (V.md_Database 1 z6r0')), _] from hS)
 clear S24
 clear hS
 obtain ⟨f0, f1, f2, f3⟩ := Bag.cs4 S25.out 7 rfl
 go_wp2_with fail
 go_at_call 14
 have HC := V.held_Database z6r0' 1 (by rw [HZz6r0'.out]; exact HFR0.out) (by omega) (by rw [HEz6r0'.out]; omega) _ (Bag.bag_rd S25.out 6 rfl)
 try dsimp only [V.vv_Database, V.vv_UpgradeZ] at HC
 rw [HEz6r0'.out] at HC
 refine HC.mono ?_
 clear HC
 rintro e w22 ⟨rfl, hb⟩
 clear f0 f1 f2 f3
 have S26 := Lib.hid (S25.out.keep hb)
 clear S25
 clear hb
 obtain ⟨f0, f1, f2, f3⟩ := Bag.cs4 S26.out 0 rfl
 go_wp2_with fail
 go_at_call 9
 have HC := V.to_Database y0 (by rw [HC0.out]; exact HF0.out) _ (HRY0.out _ S26.out.old)
 try dsimp only [V.vv_Database, V.vv_UpgradeZ] at HC
 refine HC.mono ?_
 clear HC
 rintro e w23 ⟨z9', rfl, hcon, ho, hb⟩
 clear f0 f1 f2 f3
 have S27 := Lib.hid (show Sl.Sep W _ [L4.boxR W.heap.size 25 (V.cs_Database y0), Bag.bag (V.rw_Database z3r0'), L4.boxR g1 33 (V.cs_Database z3r0'), Bag.bag (V.rw_Database (V.md_Database 1 z4')), L4.boxR g2 33 (V.cs_Database z4'), Bag.bag (V.rw_UpgradeZ (V.md_UpgradeZ Ez4' z5')), Bag.bag (V.rw_Database (V.md_Database 1 z6r0')), L4.boxR g3 33 (V.cs_Database z6r0'), Bag.bag (V.rw_Database z9')] from Bag.push_bag S26.out hb ho)
 clear S26
 clear hb ho
 have HZz9' := Lib.hid (hcon.trans HC0.out)
 clear hcon
 try dsimp only [V.vv_Database, V.vv_UpgradeZ]
 obtain ⟨f0, f1, f2, f3⟩ := Bag.cs4 S27.out 0 rfl
 go_wp2_with fail
 go_at_call 17
 have HC := V.to_UpgradeZ y2 (by rw [HC2.out]; exact HF2.out) _ (HRY2.out _ S27.out.old)
 try dsimp only [V.vv_Database, V.vv_UpgradeZ] at HC
 refine HC.mono ?_
 clear HC
 rintro e w24 ⟨z10', rfl, hcon, ho, hb⟩
 clear f0 f1 f2 f3
 have S28 := Lib.hid (show Sl.Sep W _ [_, _, _, _, _, _, _, _, _, Bag.bag (V.rw_UpgradeZ z10')] from Bag.push_bag S27.out hb ho)
 clear S27
 clear hb ho
 have HZz10' := Lib.hid (hcon.trans HC2.out)
 clear hcon
 try dsimp only [V.vv_Database, V.vv_UpgradeZ]
 go_wp2_with fail
 go_at_call 18
 have HC := Cimpl.out z9' HZz9'.out z10' HZz10'.out _ (Bag.bag_rd S28.out 8 rfl) (Bag.bag_rd S28.out 9 rfl)
 try dsimp only [V.vv_Database, V.vv_UpgradeZ] at HC
 refine HC.mono ?_
 clear HC
 rintro e w25 ⟨z11r0', rfl, hcon0, ho, hb⟩
 have S29 := Lib.hid (show Sl.Sep W _ [_, _, _, _, _, _, _, _, _, _, Bag.bag (V.rw_Database z11r0')] from Bag.push_bag S28.out hb ho)
 clear S28
 clear hb ho
 have HZz11r0' := Lib.hid hcon0
 clear hcon0
 go_upto_region 32 with fail
 have S30 := Lib.hid (show Sl.Sep W _ [_, _, _, _, _, _, _, _, _, _, _, _] from L4.push_box (S29.out) 33 #[.string z11r0'.f_Name, .int .i64 z11r0'.f_Version, .slice z11r0'.f_Stores_a z11r0'.f_Stores.length z11r0'.f_Stores_c, .slice z11r0'.f_Unique_a z11r0'.f_Unique.length z11r0'.f_Unique_c] (w25.heap.size) (by simp))
 clear S29
 obtain ⟨g4, hg⟩ : ∃ g', g' = w25.heap.size := ⟨_, rfl⟩
 rw [← hg] at S30 ⊢
 clear hg
 generalize (w25.alloc (.cells #[.string z11r0'.f_Name, .int .i64 z11r0'.f_Version, .slice z11r0'.f_Stores_a z11r0'.f_Stores.length z11r0'.f_Stores_c, .slice z11r0'.f_Unique_a z11r0'.f_Unique.length z11r0'.f_Unique_c] 33)) = w26 at S30 ⊢
 have S31 := Lib.hid (show Sl.Sep W _ [_, _, _, _, _, _, _, _, _, L4.boxR g4 33 (V.cs_Database z11r0')] from Bag.take S30.out [0, 1, 2, 3, 4, 5, 6, 7, 10, 11] (by rfl) (by decide))
 clear S30
 obtain ⟨f0, f1, f2, f3⟩ := Bag.cs4 S31.out 2 rfl
 obtain ⟨f4, f5, f6, f7⟩ := Bag.cs4 S31.out 9 rfl
 go_wp2_with fail
 go_at_call 12
 have HC := V.eq_Database z11r0' z3r0' (HZz11r0'.out.trans HZz3r0'.out.symm) (by rw [HZz11r0'.out]; exact HFR0.out) _ (Bag.bag_rd S31.out 8 rfl) (Bag.bag_rd S31.out 1 rfl)
 try dsimp only [V.vv_Database, V.vv_UpgradeZ] at HC
 refine HC.mono ?_
 clear HC
 rintro e w27 ⟨rfl, hb⟩
 clear f0 f1 f2 f3 f4 f5 f6 f7
 have S32 := Lib.hid (S31.out.keep hb)
 clear S31
 clear hb
 obtain ⟨f0, f1, f2, f3⟩ := Bag.cs4 S32.out 7 rfl
 go_wp2_with fail
 go_at_call 14
 have HC := V.held_Database z6r0' 1 (by rw [HZz6r0'.out]; exact HFR0.out) (by omega) (by rw [HEz6r0'.out]; omega) _ (Bag.bag_rd S32.out 6 rfl)
 try dsimp only [V.vv_Database, V.vv_UpgradeZ] at HC
 rw [HEz6r0'.out] at HC
 refine HC.mono ?_
 clear HC
 rintro e w28 ⟨rfl, hb⟩
 clear f0 f1 f2 f3
 have S33 := Lib.hid (S32.out.keep hb)
 clear S32
 clear hb
 go_wp2_with fail
 go_ret
 exact ⟨rfl, S33.out.old⟩

set_option maxRecDepth 100000 in
theorem lifted (os : Os) (started : os.Started) (H : Type) (enc : TypeId × Value → H) :
  ReturnsInHanded {} Tryz.checked os 4 .any (Rows.fnExactUpgradeToSpec.pre6 enc Tryz.prog Tryz.f4 Rows.fnExactUpgradeToRow.domain false) (Rows.fnExactUpgradeToSpec.post enc Tryz.prog Tryz.f4 false true false false) := by
 refine returnsInHanded_of_change_sized (C := Tryz.checked) own started (by kernel_rfl) Tryz.func4
  (ChangeSpec.witness6 (enc := enc) (C := Tryz.checked) false ⟨#[], #[.agg #[.string ⟨#[]⟩, .int .i64 0, .slice none 0 0, .slice none 0 0], .int .i64 0, .slice none 0 0], []⟩ 8 (by kernel_rfl) (by kernel_rfl) (by kernel_rfl) (by kernel_rfl)) ?_
 intro W base args ds gs before hval0 hW _ hsz0 _
 have hval : ∀ (j : Nat) t v, Tryz.f4.params[j]? = some t → args[j]? = some v → Value.okWide Tryz.prog W .any base t v := hval0
 have hW' := hW
 obtain ⟨p, q, hA0, hV, rfl, _, _⟩ := hW
 have hA : DataW.TrodAll enc Tryz.prog W 0 (fun _ => true) true Tryz.f4.params.toList args.toList ds p := hA0
 obtain ⟨rfl, rfl⟩ := trodVars_none hV
 have hlt : ∀ x ∈ p, x.block < W.heap.size := fun x hx => hW'.lt x (by simpa using hx)
 simp only [List.append_nil] at hW'
 have hw := walk H enc W base args ds p hval hA hlt hsz0
 have hA1 := hA
 clear hA0 hval0 hsz0 hval hlt
 rw [Tryz.params4] at hA
 obtain ⟨v0, vs0, d0, ds0, p0, q0, e0, rfl, rfl, h0, hr0⟩ := trodAll_cons hA
 obtain ⟨v1, vs1, d1, ds1, p1, q1, e1, rfl, rfl, h1, hr1⟩ := trodAll_cons hr0
 obtain ⟨v2, vs2, d2, ds2, p2, q2, e2, rfl, rfl, h2, hr2⟩ := trodAll_cons hr1
 obtain ⟨e3, rfl, rfl⟩ := trodAll_nil hr2
 refine hw.mono fun e W' ⟨he, hb⟩ => ?_
 subst he
 exact ⟨_, rfl, Frame.law_post (tb := 4) rfl hW' hA1 rfl rfl rfl laidOut (by kernel_rfl) (by kernel_rfl) Tryz.underlying4 hb⟩

theorem closedFacts : joinedFacts Tryz.pinned.checked.prog 4 Tryz.f4 Rows.fnExactUpgradeToSpec Rows.fnExactUpgradeToRow = true := by
 have h1 : Tryz.pinned.checked.prog.mayEnter = true := Closed.mayIn
 have h2 : (Rows.fnExactUpgradeToRow.lifted == Tryz.pinned.checked.prog.liftsFinal) = true := by
  rw [show Tryz.pinned.checked.prog.liftsFinal = false from Closed.liftsNone]; rfl
 have h3 : (Tryz.pinned.checked.prog.make == some Rows.fnExactUpgradeToRow.make) = true := by
  rw [show Tryz.pinned.checked.prog.make = some .cut from Closed.makeIs]; rfl
 unfold joinedFacts
 rw [h1, h2, h3]
 change _ = true
 kernel_rfl
theorem holds : Rows.FnExactUpgradeToSaid :=
 OpenClaim.holds_of_wide 4 Tryz.f4 rfl rfl rfl rfl rfl rfl rfl ⟨rfl, rfl, rfl, rfl, rfl⟩ rfl rfl rfl rfl rfl (by kernel_rfl) Tryz.func4 closedFacts
  (of_decide_eq_true (by kernel_rfl)) (by unfold Func.isWrapper; first | (rw [if_pos (by decide +kernel)]; kernel_rfl) | (rw [if_neg (by decide +kernel)]; exact ⟨rfl, rfl⟩))
  (fun os started H enc _ => lifted os started H enc)

#print axioms holds
end Go.Proofs.YthljdhfgphebnaaGreat.lawFnExactUpgradeTo
