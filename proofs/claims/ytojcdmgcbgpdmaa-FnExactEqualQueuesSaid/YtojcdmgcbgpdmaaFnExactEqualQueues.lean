import Derived.Test.YtojcdmgcbgpdmaaFnExactEqualQueuesP2
import Derived.Test.YtojcdmgcbgpdmaaClosed
import Derived.JoinedOf
import Derived.SizedLaws
import Derived.LaidLaws
import Derived.ShutString
import Derived.Stop.LaidErr
import Derived.Lib.LaidTab
import Derived.Deep.RegionHeld3
import Derived.Deep.DeepCutAuto
set_option linter.unusedSimpArgs false
namespace Go.Proofs.Ytojcdmgcbgpdmaa.lawFnExactEqualQueues
open Go.ChangeShapes Go.WideShapes Go.ChangeAt Go.RowKit
open Go.ChangeMaps (open_string shut_string)
theorem own : ownKnob Try.prog.godebug = none := by kernel_rfl
theorem laidOut : laidOutB Try.prog = true := by kernel_rfl
open Mem Sl Bag
open Go.Proofs.Ytojcdmgcbgpdmaa.L5 (cellsF)
set_option maxRecDepth 100000 in
set_option maxHeartbeats 8000000 in
theorem walk (H : Type) (enc : TypeId × Value → H) (W : World) (base : Nat) (args : Array Value) (ds : List (DataW H)) (p : List MemPlace)
  (hval : ∀ (j : Nat) t v, Try.f14.params[j]? = some t → args[j]? = some v → Value.okWide Try.prog W .any base t v)
  (hA : DataW.TrodAll enc Try.prog W 0 (fun _ => true) true Try.f14.params.toList args.toList ds p)
  (hlt : ∀ x ∈ p, x.block < W.heap.size)
  (hsz : (DataW.weightsEach Try.prog (Try.f14.params.toList ++ Rows.fnExactEqualQueuesSpec.plain.varTypes Try.prog) (ds ++ [])).all (· ≤ reachBytes) = true) :
  Calls Try.prog 14 args W fun e w' => e = .returned (.bool true) ∧ Below W.heap.size W w' := by
 rw [Try.params14] at hA hval hsz
 obtain ⟨v0, vs0, d0, ds0, p0, q0, e0, rfl, rfl, h0, g0⟩ := trodAll_cons hA
 obtain ⟨v1, vs1, d1, ds1, p1, q1, e1, rfl, rfl, h1, g1⟩ := trodAll_cons g0
 obtain ⟨ez, rfl, rfl⟩ := trodAll_nil g1
 subst ez
 subst e1
 obtain rfl : args = #[v0, v1] := Array.toList_inj.1 e0
 clear e0
 obtain ⟨y0, rfl, hR0, hW0⟩ := V.open_TxQueue (hval 0 94 v0 rfl rfl) h0 (fun x hx => hlt x (by simp [hx]))
 obtain ⟨y1, rfl, hR1, hW1⟩ := V.open_TxQueue (hval 1 94 v1 rfl rfl) h1 (fun x hx => hlt x (by simp [hx]))
 clear hval hA hlt hsz h0 h1
 have HSZ0 := Lib.hid (fun (q : Int) (h0 : -1 ≤ q) (h1 : q ≤ 1048576) (w' : World) (h : Below W.heap.size W w') => (V.sz_TxQueue y0 q hW0 h0 h1 w' ((hR0.below h).more h.size)).mono (R' := fun e w2 => ∃ u : Int, e = .returned (.int .i64 u) ∧ (-1 ≤ u ∧ u ≤ 1048576 ∧ (0 ≤ u → V.wt_TxQueue (V.co_TxQueue y0) ≤ 1048576)) ∧ Below w'.heap.size w' w2) fun e w2 ⟨he, hb⟩ => by obtain ⟨u, hu, hq⟩ := (show ∃ u : Int, V.lft q (V.wt_TxQueue (V.co_TxQueue y0)) = u ∧ (-1 ≤ u ∧ u ≤ 1048576 ∧ (0 ≤ u → V.wt_TxQueue (V.co_TxQueue y0) ≤ 1048576)) from ⟨_, rfl, (V.lft_range _ h1).1, (V.lft_range _ h1).2, fun h3 => (V.lft_small (by omega) h1).1⟩); exact ⟨u, by rw [he, hu], hq, hb⟩)
 have HRY0 := Lib.hid (fun w' (h : Below W.heap.size W w') => ((hR0.below h).more h.size : RowsRd w' w'.heap.size (V.rw_TxQueue y0)))
 clear hR0 hW0
 try dsimp only [V.vv_TxQueue] at HSZ0
 have HSZ1 := Lib.hid (fun (q : Int) (h0 : -1 ≤ q) (h1 : q ≤ 1048576) (w' : World) (h : Below W.heap.size W w') => (V.sz_TxQueue y1 q hW1 h0 h1 w' ((hR1.below h).more h.size)).mono (R' := fun e w2 => ∃ u : Int, e = .returned (.int .i64 u) ∧ (-1 ≤ u ∧ u ≤ 1048576 ∧ (0 ≤ u → V.wt_TxQueue (V.co_TxQueue y1) ≤ 1048576)) ∧ Below w'.heap.size w' w2) fun e w2 ⟨he, hb⟩ => by obtain ⟨u, hu, hq⟩ := (show ∃ u : Int, V.lft q (V.wt_TxQueue (V.co_TxQueue y1)) = u ∧ (-1 ≤ u ∧ u ≤ 1048576 ∧ (0 ≤ u → V.wt_TxQueue (V.co_TxQueue y1) ≤ 1048576)) from ⟨_, rfl, (V.lft_range _ h1).1, (V.lft_range _ h1).2, fun h3 => (V.lft_small (by omega) h1).1⟩); exact ⟨u, by rw [he, hu], hq, hb⟩)
 have HRY1 := Lib.hid (fun w' (h : Below W.heap.size W w') => ((hR1.below h).more h.size : RowsRd w' w'.heap.size (V.rw_TxQueue y1)))
 clear hR1 hW1
 try dsimp only [V.vv_TxQueue] at HSZ1
 try dsimp only [V.vv_TxQueue]
 have S1 := Lib.hid (show Sl.Sep W _ [_, _] from L4.push_box (L4.push_box (Sl.Sep.start W) 94 #[.slice y0.f_Txs_a y0.f_Txs.length y0.f_Txs_c] (W.heap.size) (by simp)) 94 #[.slice y1.f_Txs_a y1.f_Txs.length y1.f_Txs_c] (W.heap.size + 1) (by simp))
 obtain ⟨wa, hwa⟩ : ∃ w_, w_ = ((W.alloc (.cells #[.slice y0.f_Txs_a y0.f_Txs.length y0.f_Txs_c] 94)).alloc (.cells #[.slice y1.f_Txs_a y1.f_Txs.length y1.f_Txs_c] 94)) := ⟨_, rfl⟩
 rw [← hwa] at S1
 go_enter Try.func14, Try.ntmps14
 go_upto_region 1 with fail
 rw [← hwa]
 clear hwa
 have f0 := Bag.cs1 S1.out 0 rfl
 go_wp2_with fail
 go_at_call 64
 have HC := HSZ0.out 1048576 (by omega) (by omega) _ S1.out.old
 try dsimp only [V.vv_TxQueue] at HC
 refine HC.mono ?_
 clear HC
 rintro e w1 ⟨u0, rfl, ro, hb⟩
 clear f0
 have S2 := Lib.hid (S1.out.keep hb)
 clear S1
 clear hb
 have HRO0 := Lib.hid ro
 have X0 : -1 ≤ u0 ∧ u0 ≤ 1048576 := ⟨ro.1, ro.2.1⟩
 clear ro
 by_cases neg0 : u0 < 0
 ·
  skip
  go_wp2_with fail
  go_ret
  exact ⟨rfl, S2.out.old⟩
 have HF0 := Lib.hid (HRO0.out.2.2 (by omega))
 have f0 := Bag.cs1 S2.out 1 rfl
 go_wp2_with fail
 go_at_call 64
 have HC := HSZ1.out u0 (by omega) (by omega) _ S2.out.old
 try dsimp only [V.vv_TxQueue] at HC
 refine HC.mono ?_
 clear HC
 rintro e w2 ⟨u1, rfl, ro, hb⟩
 clear f0
 have S3 := Lib.hid (S2.out.keep hb)
 clear S2
 clear hb
 have HRO1 := Lib.hid ro
 have X1 : -1 ≤ u1 ∧ u1 ≤ 1048576 := ⟨ro.1, ro.2.1⟩
 clear ro
 by_cases neg1 : u1 < 0
 ·
  skip
  go_wp2_with fail
  go_ret
  exact ⟨rfl, S3.out.old⟩
 have HF1 := Lib.hid (HRO1.out.2.2 (by omega))
 obtain ⟨C0, hC0⟩ : ∃ C, V.co_TxQueue y0 = C := ⟨_, rfl⟩
 rw [hC0] at HF0
 have HC0 := Lib.hid hC0
 clear hC0
 obtain ⟨C1, hC1⟩ : ∃ C, V.co_TxQueue y1 = C := ⟨_, rfl⟩
 rw [hC1] at HF1
 have HC1 := Lib.hid hC1
 clear hC1
 obtain ⟨r0', hr0'⟩ : ∃ r : Bool, L10.eqTs C0.f_Txs C1.f_Txs = r := ⟨_, rfl⟩
 have Cspec : ∀ (z0 : V.Y_TxQueue), V.co_TxQueue z0 = C0 → ∀ (z1 : V.Y_TxQueue), V.co_TxQueue z1 = C1 → ∀ w' : World, RowsRd w' w'.heap.size (V.rw_TxQueue z0) → RowsRd w' w'.heap.size (V.rw_TxQueue z1) → Calls Try.prog 75 #[.agg #[.slice z0.f_Txs_a z0.f_Txs.length z0.f_Txs_c], .agg #[.slice z1.f_Txs_a z1.f_Txs.length z1.f_Txs_c]] w' fun e w'' => e = .returned (.bool r0') ∧ Below w'.heap.size w' w'' := by
  intro z0 hz0 z1 hz1 w' hr0 hr1
  have hf0 : V.wt_TxQueue (V.co_TxQueue z0) ≤ 1048576 := by rw [hz0]; exact HF0.out
  have hf1 : V.wt_TxQueue (V.co_TxQueue z1) ≤ 1048576 := by rw [hz1]; exact HF1.out
  have h := (show Calls Try.prog 75 #[V.vv_TxQueue z0, V.vv_TxQueue z1] w' (fun e w'' => e = .returned (.bool (L10.eqTs (V.co_TxQueue z0).f_Txs (V.co_TxQueue z1).f_Txs)) ∧ Below w'.heap.size w' w'') from L10.specEqualQueues_any z0.f_Txs_a z0.f_Txs_c z0.f_Txs (L10.fitQ_wt hf0).1 (L10.fitQ_wt hf0).2 z1.f_Txs_a z1.f_Txs_c z1.f_Txs (L10.fitQ_wt hf1).1 (L10.fitQ_wt hf1).2 w' (L10.rdQ hr0) (L10.rdQx hr0) (L10.rdQ hr1) (L10.rdQx hr1))
  rw [hz0, hz1, hr0'] at h
  exact h
 replace Cspec := Lib.hid Cspec
 have Cimpl : ∀ (z0 : V.Y_TxQueue), V.co_TxQueue z0 = C0 → ∀ (z1 : V.Y_TxQueue), V.co_TxQueue z1 = C1 → ∀ w' : World, RowsRd w' w'.heap.size (V.rw_TxQueue z0) → RowsRd w' w'.heap.size (V.rw_TxQueue z1) → Calls Try.prog 76 #[.agg #[.slice z0.f_Txs_a z0.f_Txs.length z0.f_Txs_c], .agg #[.slice z1.f_Txs_a z1.f_Txs.length z1.f_Txs_c]] w' fun e w'' => e = .returned (.bool r0') ∧ Below w'.heap.size w' w'' := by
  intro z0 hz0 z1 hz1 w' hr0 hr1
  have hf0 : V.wt_TxQueue (V.co_TxQueue z0) ≤ 1048576 := by rw [hz0]; exact HF0.out
  have hf1 : V.wt_TxQueue (V.co_TxQueue z1) ≤ 1048576 := by rw [hz1]; exact HF1.out
  have h := (show Calls Try.prog 76 #[V.vv_TxQueue z0, V.vv_TxQueue z1] w' (fun e w'' => e = .returned (.bool (L10.eqTs (V.co_TxQueue z0).f_Txs (V.co_TxQueue z1).f_Txs)) ∧ Below w'.heap.size w' w'') from L10.equalQueues_any z0.f_Txs_a z0.f_Txs_c z0.f_Txs (L10.fitQ_wt hf0).1 (L10.fitQ_wt hf0).2 z1.f_Txs_a z1.f_Txs_c z1.f_Txs (L10.fitQ_wt hf1).1 (L10.fitQ_wt hf1).2 w' (L10.rdQ hr0) (L10.rdQx hr0) (L10.rdQ hr1) (L10.rdQx hr1))
  rw [hz0, hz1, hr0'] at h
  exact h
 replace Cimpl := Lib.hid Cimpl
 clear hr0'
 go_upto_region 8 with fail
 refine wp_region_held_drew (S := (fun w' => (w'.cell? ⟨W.heap.size, 0, none⟩ = some (.slice y0.f_Txs_a y0.f_Txs.length y0.f_Txs_c)) ∧ (w'.cell? ⟨W.heap.size + 1, 0, none⟩ = some (.slice y1.f_Txs_a y1.f_Txs.length y1.f_Txs_c)))) (by kernel_rfl) ⟨Bag.cs1 (Bag.drew1 S3.out) 0 rfl, Bag.cs1 (Bag.drew1 S3.out) 1 rfl⟩ (fun hS => ?_)
 have S4 := Lib.hid (Bag.drew1 S3.out)
 clear S3
 generalize World.drew _ = w3 at hS S4 ⊢
 refine tk 0 rfl ?_
 try simp only [zp0, zp1, zp2, zp3, zp4]
 refine tk 2 rfl ?_
 try simp only [zp0, zp1, zp2, zp3, zp4]
 refine Reg.one_op (i := 1) rfl (by kernel_rfl) (fun K hK => ?_)
 go_simp
 go_at_call 66
 have HC := V.to_TxQueue y0 (by rw [HC0.out]; exact HF0.out) _ (HRY0.out _ S4.out.old)
 try dsimp only [V.vv_TxQueue] at HC
 refine HC.mono ?_
 clear HC
 rintro e w4 ⟨z1', rfl, hcon, ho, hb⟩
 have S5 := Lib.hid (show Sl.Sep W _ [_, _, Bag.bag (V.rw_TxQueue z1')] from Bag.push_bag S4.out hb ho)
 clear S4
 clear hb ho
 have HZz1' := Lib.hid (hcon.trans HC0.out)
 clear hcon
 try dsimp only [V.vv_TxQueue]
 go_wp2_with fail
 refine hK.out _ _ ⟨Bag.cs1 S5.out 0 rfl, Bag.cs1 S5.out 1 rfl⟩ (fun hS => ?_)
 clear hK K
 try simp only [zp0, zp1, zp2, zp3, zp4]
 refine Reg.one_op (i := 3) rfl (by kernel_rfl) (fun K hK => ?_)
 go_simp
 go_at_call 66
 have HC := V.to_TxQueue y1 (by rw [HC1.out]; exact HF1.out) _ (HRY1.out _ S5.out.old)
 try dsimp only [V.vv_TxQueue] at HC
 refine HC.mono ?_
 clear HC
 rintro e w5 ⟨z2', rfl, hcon, ho, hb⟩
 have S6 := Lib.hid (show Sl.Sep W _ [_, _, _, Bag.bag (V.rw_TxQueue z2')] from Bag.push_bag S5.out hb ho)
 clear S5
 clear hb ho
 have HZz2' := Lib.hid (hcon.trans HC1.out)
 clear hcon
 try dsimp only [V.vv_TxQueue]
 go_wp2_with fail
 refine hK.out _ _ ⟨Bag.cs1 S6.out 0 rfl, Bag.cs1 S6.out 1 rfl⟩ (fun hS => ?_)
 clear hK K
 try simp only [zp0, zp1, zp2, zp3, zp4]
 refine Reg.one_op (i := 4) rfl (by kernel_rfl) (fun K hK => ?_)
 go_simp
 go_at_call 75
 have HC := Cspec.out z1' HZz1'.out z2' HZz2'.out _ (Bag.bag_rd S6.out 2 rfl) (Bag.bag_rd S6.out 3 rfl)
 try dsimp only [V.vv_TxQueue] at HC
 refine HC.mono ?_
 clear HC
 rintro e w6 ⟨rfl, hb⟩
 have S7 := Lib.hid (S6.out.keep hb)
 clear S6
 clear hb
 go_wp2_with fail
 refine hK.out _ _ ⟨Bag.cs1 S7.out 0 rfl, Bag.cs1 S7.out 1 rfl⟩ (fun hS => ?_)
 clear hK K
 try simp only [zp0, zp1, zp2, zp3, zp4]
 refine tk 5 rfl ?_
 try simp only [zp0, zp1, zp2, zp3, zp4]
 refine wpAnyH_done (by kernel_rfl) ?_ _
 have f0 := Bag.cs1 S7.out 0 rfl
 have f1 := Bag.cs1 S7.out 1 rfl
 have S8 := Lib.hid (show Sl.Sep W _ [L4.boxR W.heap.size 94 (V.cs_TxQueue y0), L4.boxR (W.heap.size + 1) 94 (V.cs_TxQueue y1)] from Bag.take S7.out [0, 1] (by rfl) (by decide))
 clear S7
 clear f0 f1
 have f0 := Bag.cs1 S8.out 0 rfl
 go_wp2_with fail
 go_at_call 66
 have HC := V.to_TxQueue y0 (by rw [HC0.out]; exact HF0.out) _ (HRY0.out _ S8.out.old)
 try dsimp only [V.vv_TxQueue] at HC
 refine HC.mono ?_
 clear HC
 rintro e w7 ⟨z4', rfl, hcon, ho, hb⟩
 clear f0
 have S9 := Lib.hid (show Sl.Sep W _ [_, _, Bag.bag (V.rw_TxQueue z4')] from Bag.push_bag S8.out hb ho)
 clear S8
 clear hb ho
 have HZz4' := Lib.hid (hcon.trans HC0.out)
 clear hcon
 try dsimp only [V.vv_TxQueue]
 go_upto_region 10 with fail
 have S10 := Lib.hid (show Sl.Sep W _ [_, _, _, _] from L4.push_box S9.out 98 #[.slice z4'.f_Txs_a z4'.f_Txs.length z4'.f_Txs_c] w7.heap.size rfl)
 clear S9
 obtain ⟨g1, hg⟩ : ∃ g', g' = w7.heap.size := ⟨_, rfl⟩
 rw [← hg] at S10 ⊢
 clear hg
 generalize w7.alloc (.cells #[.slice z4'.f_Txs_a z4'.f_Txs.length z4'.f_Txs_c] 98) = w8 at S10 ⊢
 have f0 := Bag.cs1 S10.out 1 rfl
 go_wp2_with fail
 go_at_call 66
 have HC := V.to_TxQueue y1 (by rw [HC1.out]; exact HF1.out) _ (HRY1.out _ S10.out.old)
 try dsimp only [V.vv_TxQueue] at HC
 refine HC.mono ?_
 clear HC
 rintro e w9 ⟨z5', rfl, hcon, ho, hb⟩
 clear f0
 have S11 := Lib.hid (show Sl.Sep W _ [_, _, _, L4.boxR g1 98 (V.cs_TxQueue z4'), Bag.bag (V.rw_TxQueue z5')] from Bag.push_bag S10.out hb ho)
 clear S10
 clear hb ho
 have HZz5' := Lib.hid (hcon.trans HC1.out)
 clear hcon
 try dsimp only [V.vv_TxQueue]
 go_upto_region 11 with fail
 have S12 := Lib.hid (show Sl.Sep W _ [_, _, _, _, _, _] from L4.push_box S11.out 98 #[.slice z5'.f_Txs_a z5'.f_Txs.length z5'.f_Txs_c] w9.heap.size rfl)
 clear S11
 obtain ⟨g2, hg⟩ : ∃ g', g' = w9.heap.size := ⟨_, rfl⟩
 rw [← hg] at S12 ⊢
 clear hg
 generalize w9.alloc (.cells #[.slice z5'.f_Txs_a z5'.f_Txs.length z5'.f_Txs_c] 98) = w10 at S12 ⊢
 have f0 := Bag.cs1 S12.out 3 rfl
 have f1 := Bag.cs1 S12.out 5 rfl
 go_wp2_with fail
 go_at_call 76
 have HC := Cimpl.out z4' HZz4'.out z5' HZz5'.out _ (Bag.bag_rd S12.out 2 rfl) (Bag.bag_rd S12.out 4 rfl)
 try dsimp only [V.vv_TxQueue] at HC
 refine HC.mono ?_
 clear HC
 rintro e w11 ⟨rfl, hb⟩
 clear f0 f1
 have S13 := Lib.hid (S12.out.keep hb)
 clear S12
 clear hb
 go_upto_region 14 with fail
 refine wp_region_held_drew (S := (fun w' => (w'.cell? ⟨W.heap.size, 0, none⟩ = some (.slice y0.f_Txs_a y0.f_Txs.length y0.f_Txs_c)) ∧ (w'.cell? ⟨g1, 0, none⟩ = some (.slice z4'.f_Txs_a z4'.f_Txs.length z4'.f_Txs_c)))) (by kernel_rfl) ⟨Bag.cs1 (Bag.drew1 S13.out) 0 rfl, Bag.cs1 (Bag.drew1 S13.out) 3 rfl⟩ (fun hS => ?_)
 have S14 := Lib.hid (Bag.drew1 S13.out)
 clear S13
 generalize World.drew _ = w12 at hS S14 ⊢
 refine tk 0 rfl ?_
 try simp only [zp0, zp1, zp2, zp3, zp4]
 refine tk 1 rfl ?_
 try simp only [zp0, zp1, zp2, zp3, zp4]
 refine Reg.one_op (i := 2) rfl (by kernel_rfl) (fun K hK => ?_)
 go_simp
 go_at_call 66
 have HC := V.to_TxQueue y0 (by rw [HC0.out]; exact HF0.out) _ (HRY0.out _ S14.out.old)
 try dsimp only [V.vv_TxQueue] at HC
 refine HC.mono ?_
 clear HC
 rintro e w13 ⟨z7', rfl, hcon, ho, hb⟩
 have S15 := Lib.hid (show Sl.Sep W _ [_, _, _, _, _, _, Bag.bag (V.rw_TxQueue z7')] from Bag.push_bag S14.out hb ho)
 clear S14
 clear hb ho
 have HZz7' := Lib.hid (hcon.trans HC0.out)
 clear hcon
 try dsimp only [V.vv_TxQueue]
 go_wp2_with fail
 refine hK.out _ _ ⟨Bag.cs1 S15.out 0 rfl, Bag.cs1 S15.out 3 rfl⟩ (fun hS => ?_)
 clear hK K
 try simp only [zp0, zp1, zp2, zp3, zp4]
 refine Reg.one_op (i := 3) rfl (by kernel_rfl) (fun K hK => ?_)
 go_simp
 go_at_call 68
 have HC := V.eq_TxQueue z4' z7' (HZz4'.out.trans HZz7'.out.symm) (by rw [HZz4'.out]; exact (Nat.le_trans HF0.out (by decide : (1048576 : Nat) ≤ 1125899906842624))) _ (Bag.bag_rd S15.out 2 rfl) (Bag.bag_rd S15.out 6 rfl)
 try dsimp only [V.vv_TxQueue] at HC
 refine HC.mono ?_
 clear HC
 rintro e w14 ⟨rfl, hb⟩
 have S16 := Lib.hid (S15.out.keep hb)
 clear S15
 clear hb
 go_wp2_with fail
 refine hK.out _ _ ⟨Bag.cs1 S16.out 0 rfl, Bag.cs1 S16.out 3 rfl⟩ (fun hS => ?_)
 clear hK K
 try simp only [zp0, zp1, zp2, zp3, zp4]
 refine tk 4 rfl ?_
 try simp only [zp0, zp1, zp2, zp3, zp4]
 refine wpAnyH_done (by kernel_rfl) ?_ _
 have f0 := Bag.cs1 S16.out 0 rfl
 have f1 := Bag.cs1 S16.out 1 rfl
 have f2 := Bag.cs1 S16.out 3 rfl
 have f3 := Bag.cs1 S16.out 5 rfl
 have S17 := Lib.hid (show Sl.Sep W _ [L4.boxR W.heap.size 94 (V.cs_TxQueue y0), L4.boxR (W.heap.size + 1) 94 (V.cs_TxQueue y1), Bag.bag (V.rw_TxQueue z4'), L4.boxR g1 98 (V.cs_TxQueue z4'), Bag.bag (V.rw_TxQueue z5'), L4.boxR g2 98 (V.cs_TxQueue z5')] from Bag.take S16.out [0, 1, 2, 3, 4, 5] (by rfl) (by decide))
 clear S16
 go_upto_region 16 with fail
 clear f0 f1 f2 f3
 refine wp_region_held_drew (S := (fun w' => (w'.cell? ⟨W.heap.size + 1, 0, none⟩ = some (.slice y1.f_Txs_a y1.f_Txs.length y1.f_Txs_c)) ∧ (w'.cell? ⟨g2, 0, none⟩ = some (.slice z5'.f_Txs_a z5'.f_Txs.length z5'.f_Txs_c)))) (by kernel_rfl) ⟨Bag.cs1 (Bag.drew1 S17.out) 1 rfl, Bag.cs1 (Bag.drew1 S17.out) 5 rfl⟩ (fun hS => ?_)
 have S18 := Lib.hid (Bag.drew1 S17.out)
 clear S17
 generalize World.drew _ = w15 at hS S18 ⊢
 refine tk 0 rfl ?_
 try simp only [zp0, zp1, zp2, zp3, zp4]
 refine tk 1 rfl ?_
 try simp only [zp0, zp1, zp2, zp3, zp4]
 refine Reg.one_op (i := 2) rfl (by kernel_rfl) (fun K hK => ?_)
 go_simp
 go_at_call 66
 have HC := V.to_TxQueue y1 (by rw [HC1.out]; exact HF1.out) _ (HRY1.out _ S18.out.old)
 try dsimp only [V.vv_TxQueue] at HC
 refine HC.mono ?_
 clear HC
 rintro e w16 ⟨z8', rfl, hcon, ho, hb⟩
 have S19 := Lib.hid (show Sl.Sep W _ [_, _, _, _, _, _, Bag.bag (V.rw_TxQueue z8')] from Bag.push_bag S18.out hb ho)
 clear S18
 clear hb ho
 have HZz8' := Lib.hid (hcon.trans HC1.out)
 clear hcon
 try dsimp only [V.vv_TxQueue]
 go_wp2_with fail
 refine hK.out _ _ ⟨Bag.cs1 S19.out 1 rfl, Bag.cs1 S19.out 5 rfl⟩ (fun hS => ?_)
 clear hK K
 try simp only [zp0, zp1, zp2, zp3, zp4]
 refine Reg.one_op (i := 3) rfl (by kernel_rfl) (fun K hK => ?_)
 go_simp
 go_at_call 68
 have HC := V.eq_TxQueue z5' z8' (HZz5'.out.trans HZz8'.out.symm) (by rw [HZz5'.out]; exact (Nat.le_trans HF1.out (by decide : (1048576 : Nat) ≤ 1125899906842624))) _ (Bag.bag_rd S19.out 4 rfl) (Bag.bag_rd S19.out 6 rfl)
 try dsimp only [V.vv_TxQueue] at HC
 refine HC.mono ?_
 clear HC
 rintro e w17 ⟨rfl, hb⟩
 have S20 := Lib.hid (S19.out.keep hb)
 clear S19
 clear hb
 go_wp2_with fail
 refine hK.out _ _ ⟨Bag.cs1 S20.out 1 rfl, Bag.cs1 S20.out 5 rfl⟩ (fun hS => ?_)
 clear hK K
 try simp only [zp0, zp1, zp2, zp3, zp4]
 refine tk 4 rfl ?_
 try simp only [zp0, zp1, zp2, zp3, zp4]
 refine wpAnyH_done (by kernel_rfl) ?_ _
 have f0 := Bag.cs1 S20.out 0 rfl
 have f1 := Bag.cs1 S20.out 1 rfl
 have f2 := Bag.cs1 S20.out 3 rfl
 have f3 := Bag.cs1 S20.out 5 rfl
 have S21 := Lib.hid (show Sl.Sep W _ [L4.boxR W.heap.size 94 (V.cs_TxQueue y0), L4.boxR (W.heap.size + 1) 94 (V.cs_TxQueue y1), Bag.bag (V.rw_TxQueue z4'), L4.boxR g1 98 (V.cs_TxQueue z4'), Bag.bag (V.rw_TxQueue z5'), L4.boxR g2 98 (V.cs_TxQueue z5')] from Bag.take S20.out [0, 1, 2, 3, 4, 5] (by rfl) (by decide))
 clear S20
 go_wp2_with fail
 go_ret
 exact ⟨rfl, S21.out.old⟩

set_option maxRecDepth 100000 in
theorem lifted (os : Os) (started : os.Started) (H : Type) (enc : TypeId × Value → H) :
  ReturnsInHanded {} Try.checked os 14 .any (Rows.fnExactEqualQueuesSpec.pre6 enc Try.prog Try.f14 Rows.fnExactEqualQueuesRow.domain false) (Rows.fnExactEqualQueuesSpec.post enc Try.prog Try.f14 false true false false) := by
 refine returnsInHanded_of_change_sized (C := Try.checked) own started (by kernel_rfl) Try.func14
  (ChangeSpec.witness6 (enc := enc) (C := Try.checked) false ⟨#[], #[.agg #[.slice none 0 0], .agg #[.slice none 0 0]], []⟩ 8 (by kernel_rfl) (by kernel_rfl) (by kernel_rfl) (by kernel_rfl)) ?_
 intro W base args ds gs before hval0 hW _ hsz0 _
 have hval : ∀ (j : Nat) t v, Try.f14.params[j]? = some t → args[j]? = some v → Value.okWide Try.prog W .any base t v := hval0
 have hW' := hW
 obtain ⟨p, q, hA0, hV, rfl, _, _⟩ := hW
 have hA : DataW.TrodAll enc Try.prog W 0 (fun _ => true) true Try.f14.params.toList args.toList ds p := hA0
 obtain ⟨rfl, rfl⟩ := trodVars_none hV
 have hlt : ∀ x ∈ p, x.block < W.heap.size := fun x hx => hW'.lt x (by simpa using hx)
 simp only [List.append_nil] at hW'
 have hw := walk H enc W base args ds p hval hA hlt hsz0
 have hA1 := hA
 clear hA0 hval0 hsz0 hval hlt
 rw [Try.params14] at hA
 obtain ⟨v0, vs0, d0, ds0, p0, q0, e0, rfl, rfl, h0, hr0⟩ := trodAll_cons hA
 obtain ⟨v1, vs1, d1, ds1, p1, q1, e1, rfl, rfl, h1, hr1⟩ := trodAll_cons hr0
 obtain ⟨e2, rfl, rfl⟩ := trodAll_nil hr1
 refine hw.mono fun e W' ⟨he, hb⟩ => ?_
 subst he
 exact ⟨_, rfl, Frame.law_post (tb := 4) rfl hW' hA1 rfl rfl rfl laidOut (by kernel_rfl) (by kernel_rfl) Try.underlying4 hb⟩

theorem closedFacts : joinedFacts Try.pinned.checked.prog 14 Try.f14 Rows.fnExactEqualQueuesSpec Rows.fnExactEqualQueuesRow = true := by
 have h1 : Try.pinned.checked.prog.mayEnter = true := Closed.mayIn
 have h2 : (Rows.fnExactEqualQueuesRow.lifted == Try.pinned.checked.prog.liftsFinal) = true := by
  rw [show Try.pinned.checked.prog.liftsFinal = false from Closed.liftsNone]; rfl
 have h3 : (Try.pinned.checked.prog.make == some Rows.fnExactEqualQueuesRow.make) = true := by
  rw [show Try.pinned.checked.prog.make = some .cut from Closed.makeIs]; rfl
 unfold joinedFacts
 rw [h1, h2, h3]
 change _ = true
 kernel_rfl
theorem holds : Rows.FnExactEqualQueuesSaid :=
 OpenClaim.holds_of_wide 14 Try.f14 rfl rfl rfl rfl rfl rfl rfl ⟨rfl, rfl, rfl, rfl, rfl⟩ rfl rfl rfl rfl rfl (by kernel_rfl) Try.func14 closedFacts
  (of_decide_eq_true (by kernel_rfl)) (by unfold Func.isWrapper; first | (rw [if_pos (by decide +kernel)]; kernel_rfl) | (rw [if_neg (by decide +kernel)]; exact ⟨rfl, rfl⟩))
  (fun os started H enc _ => lifted os started H enc)

#print axioms holds
end Go.Proofs.Ytojcdmgcbgpdmaa.lawFnExactEqualQueues
