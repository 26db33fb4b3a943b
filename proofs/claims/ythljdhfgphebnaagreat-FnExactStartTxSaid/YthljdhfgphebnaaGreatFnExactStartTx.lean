import Derived.Test.YthljdhfgphebnaaGreatFnExactStartTxP4
import Derived.Test.YthljdhfgphebnaaGreatClosed
import Derived.JoinedOf
import Derived.SizedLaws
import Derived.LaidLaws
import Derived.ShutString
import Derived.Stop.LaidErr
import Derived.Lib.LaidTab
import Derived.Deep.RegionHeld3
import Derived.Deep.DeepCutAuto
set_option linter.unusedSimpArgs false
namespace Go.Proofs.YthljdhfgphebnaaGreat.lawFnExactStartTx
open Go.ChangeShapes Go.WideShapes Go.ChangeAt Go.RowKit
open Go.ChangeMaps (open_string shut_string)
theorem own : ownKnob Tryz.prog.godebug = none := by kernel_rfl
theorem laidOut : laidOutB Tryz.prog = true := by kernel_rfl
open Mem Sl Bag
open Go.Proofs.YthljdhfgphebnaaGreat.L5 (cellsF)
set_option maxRecDepth 100000 in
set_option maxHeartbeats 8000000 in
theorem walk (H : Type) (enc : TypeId × Value → H) (W : World) (base : Nat) (args : Array Value) (ds : List (DataW H)) (p : List MemPlace)
  (hval : ∀ (j : Nat) t v, Tryz.f5.params[j]? = some t → args[j]? = some v → Value.okWide Tryz.prog W .any base t v)
  (hA : DataW.TrodAll enc Tryz.prog W 0 (fun _ => true) true Tryz.f5.params.toList args.toList ds p)
  (hlt : ∀ x ∈ p, x.block < W.heap.size)
  (hsz : (DataW.weightsEach Tryz.prog (Tryz.f5.params.toList ++ Rows.fnExactStartTxSpec.plain.varTypes Tryz.prog) (ds ++ [])).all (· ≤ reachBytes) = true) :
  Calls Tryz.prog 5 args W fun e w' => e = .returned (.bool true) ∧ Below W.heap.size W w' := by
 rw [Tryz.params5] at hA hval hsz
 obtain ⟨v0, vs0, d0, ds0, p0, q0, e0, rfl, rfl, h0, g0⟩ := trodAll_cons hA
 obtain ⟨v1, vs1, d1, ds1, p1, q1, e1, rfl, rfl, h1, g1⟩ := trodAll_cons g0
 obtain ⟨v2, vs2, d2, ds2, p2, q2, e2, rfl, rfl, h2, g2⟩ := trodAll_cons g1
 obtain ⟨ez, rfl, rfl⟩ := trodAll_nil g2
 subst ez
 subst e2
 subst e1
 obtain rfl : args = #[v0, v1, v2] := Array.toList_inj.1 e0
 clear e0
 obtain ⟨y0, rfl, hR0, hW0⟩ := V.open_Database (hval 0 25 v0 rfl rfl) h0 (fun x hx => hlt x (by simp [hx]))
 obtain ⟨y1, rfl, hR1, hW1⟩ := V.open_TxQueue (hval 1 52 v1 rfl rfl) h1 (fun x hx => hlt x (by simp [hx]))
 obtain ⟨n2, rfl, -, -, hW2⟩ := open_int Tryz.underlying3 (hval 2 3 v2 rfl rfl) h2
 have I2 := Law.wf_i64 hW2
 clear hW2
 clear hval hA hlt hsz h0 h1 h2
 have HSZ0 := Lib.hid (fun (q : Int) (h0 : -1 ≤ q) (h1 : q ≤ 1048576) (w' : World) (h : Below W.heap.size W w') => (V.sz_Database y0 q hW0 h0 h1 w' ((hR0.below h).more h.size)).mono (R' := fun e w2 => ∃ u : Int, e = .returned (.int .i64 u) ∧ (-1 ≤ u ∧ u ≤ 1048576 ∧ (0 ≤ u → V.wt_Database (V.co_Database y0) ≤ 1048576)) ∧ Below w'.heap.size w' w2) fun e w2 ⟨he, hb⟩ => by obtain ⟨u, hu, hq⟩ := (show ∃ u : Int, V.lft q (V.wt_Database (V.co_Database y0)) = u ∧ (-1 ≤ u ∧ u ≤ 1048576 ∧ (0 ≤ u → V.wt_Database (V.co_Database y0) ≤ 1048576)) from ⟨_, rfl, (V.lft_range _ h1).1, (V.lft_range _ h1).2, fun h3 => (V.lft_small (by omega) h1).1⟩); exact ⟨u, by rw [he, hu], hq, hb⟩)
 have HRY0 := Lib.hid (fun w' (h : Below W.heap.size W w') => ((hR0.below h).more h.size : RowsRd w' w'.heap.size (V.rw_Database y0)))
 clear hR0 hW0
 try dsimp only [V.vv_Database, V.vv_TxQueue] at HSZ0
 have HSZ1 := Lib.hid (fun (q : Int) (h0 : -1 ≤ q) (h1 : q ≤ 1048576) (w' : World) (h : Below W.heap.size W w') => (V.sz_TxQueue y1 q hW1 h0 h1 w' ((hR1.below h).more h.size)).mono (R' := fun e w2 => ∃ u : Int, e = .returned (.int .i64 u) ∧ (-1 ≤ u ∧ u ≤ 1048576 ∧ (0 ≤ u → V.wt_TxQueue (V.co_TxQueue y1) ≤ 1048576)) ∧ Below w'.heap.size w' w2) fun e w2 ⟨he, hb⟩ => by obtain ⟨u, hu, hq⟩ := (show ∃ u : Int, V.lft q (V.wt_TxQueue (V.co_TxQueue y1)) = u ∧ (-1 ≤ u ∧ u ≤ 1048576 ∧ (0 ≤ u → V.wt_TxQueue (V.co_TxQueue y1) ≤ 1048576)) from ⟨_, rfl, (V.lft_range _ h1).1, (V.lft_range _ h1).2, fun h3 => (V.lft_small (by omega) h1).1⟩); exact ⟨u, by rw [he, hu], hq, hb⟩)
 have HRY1 := Lib.hid (fun w' (h : Below W.heap.size W w') => ((hR1.below h).more h.size : RowsRd w' w'.heap.size (V.rw_TxQueue y1)))
 clear hR1 hW1
 try dsimp only [V.vv_Database, V.vv_TxQueue] at HSZ1
 try dsimp only [V.vv_Database, V.vv_TxQueue]
 have S1 := Lib.hid (show Sl.Sep W _ [_, _] from L4.push_box (L4.push_box (Sl.Sep.start W) 25 #[.string y0.f_Name, .int .i64 y0.f_Version, .slice y0.f_Stores_a y0.f_Stores.length y0.f_Stores_c, .slice y0.f_Unique_a y0.f_Unique.length y0.f_Unique_c] (W.heap.size) (by simp)) 52 #[.slice y1.f_Txs_a y1.f_Txs.length y1.f_Txs_c] (W.heap.size + 1) (by simp))
 obtain ⟨wa, hwa⟩ : ∃ w_, w_ = ((W.alloc (.cells #[.string y0.f_Name, .int .i64 y0.f_Version, .slice y0.f_Stores_a y0.f_Stores.length y0.f_Stores_c, .slice y0.f_Unique_a y0.f_Unique.length y0.f_Unique_c] 25)).alloc (.cells #[.slice y1.f_Txs_a y1.f_Txs.length y1.f_Txs_c] 52)) := ⟨_, rfl⟩
 rw [← hwa] at S1
 go_enter Tryz.func5, Tryz.ntmps5
 go_upto_region 1 with fail
 rw [← hwa]
 clear hwa
 obtain ⟨f0, f1, f2, f3⟩ := Bag.cs4 S1.out 0 rfl
 go_wp2_with fail
 go_at_call 6
 have HC := HSZ0.out 1048576 (by omega) (by omega) _ S1.out.old
 try dsimp only [V.vv_Database, V.vv_TxQueue] at HC
 refine HC.mono ?_
 clear HC
 rintro e w1 ⟨u0, rfl, ro, hb⟩
 clear f0 f1 f2 f3
 have S2 := Lib.hid (S1.out.keep hb)
 clear S1
 clear hb
 have HRO0 := Lib.hid ro
 have X0 : -1 ≤ u0 ∧ u0 ≤ 1048576 := ⟨ro.1, ro.2.1⟩
 clear ro
 by_cases neg0 : u0 < 0
 ·
  skip
  go_wp2_with fail
  go_ret
  exact ⟨rfl, S2.out.old⟩
 have HF0 := Lib.hid (HRO0.out.2.2 (by omega))
 have f0 := Bag.cs1 S2.out 1 rfl
 go_wp2_with fail
 go_at_call 21
 have HC := HSZ1.out u0 (by omega) (by omega) _ S2.out.old
 try dsimp only [V.vv_Database, V.vv_TxQueue] at HC
 refine HC.mono ?_
 clear HC
 rintro e w2 ⟨u1, rfl, ro, hb⟩
 clear f0
 have S3 := Lib.hid (S2.out.keep hb)
 clear S2
 clear hb
 have HRO1 := Lib.hid ro
 have X1 : -1 ≤ u1 ∧ u1 ≤ 1048576 := ⟨ro.1, ro.2.1⟩
 clear ro
 by_cases neg1 : u1 < 0
 ·
  skip
  go_wp2_with fail
  go_ret
  exact ⟨rfl, S3.out.old⟩
 have HF1 := Lib.hid (HRO1.out.2.2 (by omega))
 obtain ⟨C0, hC0⟩ : ∃ C, V.co_Database y0 = C := ⟨_, rfl⟩
 rw [hC0] at HF0
 have HC0 := Lib.hid hC0
 clear hC0
 obtain ⟨C1, hC1⟩ : ∃ C, V.co_TxQueue y1 = C := ⟨_, rfl⟩
 rw [hC1] at HF1
 have HC1 := Lib.hid hC1
 clear hC1
 obtain ⟨r0', hr0'⟩ : ∃ r : V.X_TxQueue, (⟨L10.stX C0 C1.f_Txs n2⟩ : V.X_TxQueue) = r := ⟨_, rfl⟩
 obtain ⟨r1', hr1'⟩ : ∃ r : Bool, L10.csQ C1.f_Txs n2 = r := ⟨_, rfl⟩
 have Cspec : ∀ (z0 : V.Y_Database), V.co_Database z0 = C0 → ∀ (z1 : V.Y_TxQueue), V.co_TxQueue z1 = C1 → ∀ w' : World, RowsRd w' w'.heap.size (V.rw_Database z0) → RowsRd w' w'.heap.size (V.rw_TxQueue z1) → Calls Tryz.prog 22 #[.agg #[.string z0.f_Name, .int .i64 z0.f_Version, .slice z0.f_Stores_a z0.f_Stores.length z0.f_Stores_c, .slice z0.f_Unique_a z0.f_Unique.length z0.f_Unique_c], .agg #[.slice z1.f_Txs_a z1.f_Txs.length z1.f_Txs_c], .int .i64 n2] w' fun e w'' => ∃ (z0 : V.Y_TxQueue), e = .returned (.tuple #[.agg #[.slice z0.f_Txs_a z0.f_Txs.length z0.f_Txs_c], .bool r1']) ∧ V.co_TxQueue z0 = r0' ∧ BagOwn w'' w'.heap.size ((V.rw_TxQueue z0)) ∧ Below w'.heap.size w' w'' := by
  intro z0 hz0 z1 hz1 w' hr0 hr1
  have hf0 : V.wt_Database (V.co_Database z0) ≤ 1048576 := by rw [hz0]; exact HF0.out
  have hf1 : V.wt_TxQueue (V.co_TxQueue z1) ≤ 1048576 := by rw [hz1]; exact HF1.out
  have h := (show Calls Tryz.prog 22 #[V.vv_Database z0, V.vv_TxQueue z1, .int .i64 n2] w' (fun e w'' => ∃ y : V.Y_TxQueue, e = .returned (.tuple #[V.vv_TxQueue y, .bool (L10.csQ (V.co_TxQueue z1).f_Txs n2)]) ∧ V.co_TxQueue y = ⟨L10.stX (V.co_Database z0) (V.co_TxQueue z1).f_Txs n2⟩ ∧ BagOwn w'' w'.heap.size (V.rw_TxQueue y) ∧ Below w'.heap.size w' w'') from (L10.specStartTx_any z0 (L8.fitD_wt hf0) z1.f_Txs_a z1.f_Txs_c z1.f_Txs (L10.fitQ_wt hf1).1 (L10.fitQ_wt hf1).2 n2 w' hr0 (L10.rdQ hr1) (L10.rdQx hr1)).mono fun e w ⟨a, c, ys, he, hc, ho, hb⟩ => ⟨⟨a, c, ys⟩, he, congrArg V.X_TxQueue.mk hc, ho, hb⟩)
  rw [hz0, hz1, hr0', hr1'] at h
  exact h
 replace Cspec := Lib.hid Cspec
 have Cimpl : ∀ (z0 : V.Y_Database), V.co_Database z0 = C0 → ∀ (z1 : V.Y_TxQueue), V.co_TxQueue z1 = C1 → ∀ w' : World, RowsRd w' w'.heap.size (V.rw_Database z0) → RowsRd w' w'.heap.size (V.rw_TxQueue z1) → Calls Tryz.prog 24 #[.agg #[.string z0.f_Name, .int .i64 z0.f_Version, .slice z0.f_Stores_a z0.f_Stores.length z0.f_Stores_c, .slice z0.f_Unique_a z0.f_Unique.length z0.f_Unique_c], .agg #[.slice z1.f_Txs_a z1.f_Txs.length z1.f_Txs_c], .int .i64 n2] w' fun e w'' => ∃ (z0 : V.Y_TxQueue), e = .returned (.tuple #[.agg #[.slice z0.f_Txs_a z0.f_Txs.length z0.f_Txs_c], .bool r1']) ∧ V.co_TxQueue z0 = r0' ∧ BagOwn w'' w'.heap.size ((V.rw_TxQueue z0)) ∧ Below w'.heap.size w' w'' := by
  intro z0 hz0 z1 hz1 w' hr0 hr1
  have hf0 : V.wt_Database (V.co_Database z0) ≤ 1048576 := by rw [hz0]; exact HF0.out
  have hf1 : V.wt_TxQueue (V.co_TxQueue z1) ≤ 1048576 := by rw [hz1]; exact HF1.out
  have h := (show Calls Tryz.prog 24 #[V.vv_Database z0, V.vv_TxQueue z1, .int .i64 n2] w' (fun e w'' => ∃ y : V.Y_TxQueue, e = .returned (.tuple #[V.vv_TxQueue y, .bool (L10.csQ (V.co_TxQueue z1).f_Txs n2)]) ∧ V.co_TxQueue y = ⟨L10.stX (V.co_Database z0) (V.co_TxQueue z1).f_Txs n2⟩ ∧ BagOwn w'' w'.heap.size (V.rw_TxQueue y) ∧ Below w'.heap.size w' w'') from (L10.startTx_any z0 (L8.fitD_wt hf0) z1.f_Txs_a z1.f_Txs_c z1.f_Txs (L10.fitQ_wt hf1).1 (L10.fitQ_wt hf1).2 n2 w' hr0 (L10.rdQ hr1) (L10.rdQx hr1)).mono fun e w ⟨a, c, ys, he, hc, ho, hb⟩ => ⟨⟨a, c, ys⟩, he, congrArg V.X_TxQueue.mk hc, ho, hb⟩)
  rw [hz0, hz1, hr0', hr1'] at h
  exact h
 replace Cimpl := Lib.hid Cimpl
 have HFR0 := Lib.hid (show V.wt_TxQueue r0' ≤ 1125899906842624 from by rw [← hr0']; exact (L10.start_wt n2 HF0.out (show V.wsum V.wt_Tx C1.f_Txs ≤ 1048576 from HF1.out)))
 clear hr0' hr1'
 have S4 := Lib.hid (show Sl.Sep W _ [L4.boxR W.heap.size 25 (V.cs_Database y0), L4.boxR (W.heap.size + 1) 52 (V.cs_TxQueue y1)] from Bag.take S3.out [0, 1] (by rfl) (by decide))
 clear S3
 go_upto_region 8 with fail
 have HTO0 := Lib.hid (fun w' (h : Below W.heap.size W w') => V.to_Database y0 (by rw [HC0.out]; exact HF0.out) w' (HRY0.out w' h))
 try dsimp only [V.vv_Database, V.vv_TxQueue] at HTO0
 have HTO1 := Lib.hid (fun w' (h : Below W.heap.size W w') => V.to_TxQueue y1 (by rw [HC1.out]; exact HF1.out) w' (HRY1.out w' h))
 try dsimp only [V.vv_Database, V.vv_TxQueue] at HTO1
 go_cut [8, 9] (fun pz0 qs0 wx => ∃ (g1a' : Nat) (z1r0' : V.Y_TxQueue), pz0 = .pointer (some ⟨g1a', 0, none⟩) ∧ qs0 = .bool r1' ∧ Hid (V.co_TxQueue z1r0' = r0' ∧ Sl.Sep W wx [L4.boxR W.heap.size 25 (V.cs_Database y0), L4.boxR (W.heap.size + 1) 52 (V.cs_TxQueue y1), Bag.bag (V.rw_TxQueue z1r0'), L4.boxR g1a' 56 (V.cs_TxQueue z1r0')]))
 case first =>
  refine wp_region_held_drew (S := (fun w' => (w'.cell? ⟨W.heap.size, 0, none⟩ = some (.string y0.f_Name) ∧ w'.cell? ⟨W.heap.size, 1, none⟩ = some (.int .i64 y0.f_Version) ∧ w'.cell? ⟨W.heap.size, 2, none⟩ = some (.slice y0.f_Stores_a y0.f_Stores.length y0.f_Stores_c) ∧ w'.cell? ⟨W.heap.size, 3, none⟩ = some (.slice y0.f_Unique_a y0.f_Unique.length y0.f_Unique_c)) ∧ (w'.cell? ⟨W.heap.size + 1, 0, none⟩ = some (.slice y1.f_Txs_a y1.f_Txs.length y1.f_Txs_c)))) (by kernel_rfl) ⟨Bag.cs4 (Bag.drew1 S4.out) 0 rfl, Bag.cs1 (Bag.drew1 S4.out) 1 rfl⟩ (fun hS => ?_)
  have S5 := Lib.hid (Bag.drew1 S4.out)
  clear S4
  generalize World.drew _ = w3 at hS S5 ⊢
  apply share5
  case main =>
   intro hrest
   refine tk 0 rfl ?_
   try simp only [zp0, zp1, zp2, zp3, zp4]
   refine tk 2 rfl ?_
   try simp only [zp0, zp1, zp2, zp3, zp4]
   refine tk 4 rfl ?_
   try simp only [zp0, zp1, zp2, zp3, zp4]
   refine wpAnyH_ready (rs := [1, 9]) (by kernel_rfl) (by simp) ?_
   refine Reg.cons_op (i := 1) rfl (fun K hK => ?_) ?_
   go_simp
   go_at_call 9
   refine (HTO0.out _ S5.out.old).mono ?_
   rintro e w4 ⟨zs0, rfl, hcon, ho, hb⟩
   have S6 := Lib.hid (show Sl.Sep W _ [_, _, Bag.bag (V.rw_Database zs0)] from Bag.push_bag S5.out hb ho)
   clear hb ho
   have HZzs0 := Lib.hid (hcon.trans HC0.out)
   clear hcon
   go_wp2_with fail
   refine hK.out _ _ ⟨Bag.cs4 S6.out 0 rfl, Bag.cs1 S6.out 1 rfl⟩ (fun hS => ?_)
   clear hK K
   try simp only [zp0, zp1, zp2, zp3, zp4]
   refine wpAnyH_ready (rs := [3, 9]) (by kernel_rfl) (by simp) ?_
   refine Reg.cons_op (i := 3) rfl (fun K hK => ?_) ?_
   go_simp
   go_at_call 23
   refine (HTO1.out _ S6.out.old).mono ?_
   rintro e w5 ⟨zs1, rfl, hcon, ho, hb⟩
   have S7 := Lib.hid (show Sl.Sep W _ [_, _, _, Bag.bag (V.rw_TxQueue zs1)] from Bag.push_bag S6.out hb ho)
   clear S6
   clear hb ho
   have HZzs1 := Lib.hid (hcon.trans HC1.out)
   clear hcon
   go_wp2_with fail
   refine hK.out _ _ ⟨Bag.cs4 S7.out 0 rfl, Bag.cs1 S7.out 1 rfl⟩ (fun hS => ?_)
   clear hK K
   try simp only [zp0, zp1, zp2, zp3, zp4]
   refine wpAnyH_ready (rs := [5, 9]) (by kernel_rfl) (by simp) ?_
   refine Reg.cons_op (i := 5) rfl (fun K hK => ?_) ?_
   go_simp
   go_at_call 22
   refine (Cspec.out zs0 HZzs0.out zs1 HZzs1.out _ (Bag.bag_rd S7.out 2 rfl) (Bag.bag_rd S7.out 3 rfl)).mono ?_
   rintro e w6 ⟨zr0, rfl, hcon0, ho, hb⟩
   have S8 := Lib.hid (show Sl.Sep W _ [_, _, _, _, Bag.bag (V.rw_TxQueue zr0)] from Bag.push_bag S7.out hb ho)
   clear S7
   clear hb ho
   have HZzr0 := Lib.hid hcon0
   clear hcon0
   go_wp2_with fail
   refine hK.out _ _ ⟨Bag.cs4 S8.out 0 rfl, Bag.cs1 S8.out 1 rfl⟩ (fun hS => ?_)
   clear hK K
   try simp only [zp0, zp1, zp2, zp3, zp4]
   refine tk 6 rfl ?_
   try simp only [zp0, zp1, zp2, zp3, zp4]
   refine tk 7 rfl ?_
   try simp only [zp0, zp1, zp2, zp3, zp4]
   refine tk 8 rfl ?_
   try simp only [zp0, zp1, zp2, zp3, zp4]
   refine Reg.one_op (i := 9) rfl (by kernel_rfl) (fun K hK => ?_)
   go_simp
   have S9 := Lib.hid (show Sl.Sep W _ [_, _, _, _, _, _] from L4.push_box S8.out 56 #[.slice none 0 0] w6.heap.size rfl)
   clear S8
   obtain ⟨gb0, hg⟩ : ∃ g', g' = w6.heap.size := ⟨_, rfl⟩
   rw [← hg] at S9 ⊢
   clear hg
   generalize w6.alloc (.cells #[.slice none 0 0] 56) = w7 at S9 ⊢
   refine hK.out _ _ ⟨Bag.cs4 S9.out 0 rfl, Bag.cs1 S9.out 1 rfl⟩ (fun hS => ?_)
   clear hK K
   try simp only [zp0, zp1, zp2, zp3, zp4]
   have S10 := Lib.hid (show Sl.Sep W _ [_, _, _, L4.boxR gb0 56 V.cz_TxQueue] from Bag.take S9.out [0, 1, 4, 5] (by rfl) (by decide))
   clear S9
   revert S10
   revert HZzr0
   revert hS
   exact hrest gb0 zr0 zs0 zs1 w7
   refine Reg.cons_op (i := 9) rfl (fun K hK => ?_) ?_
   go_simp
   have S8 := Lib.hid (show Sl.Sep W _ [_, _, _, _, _] from L4.push_box S7.out 56 #[.slice none 0 0] w5.heap.size rfl)
   clear S7
   obtain ⟨gb0, hg⟩ : ∃ g', g' = w5.heap.size := ⟨_, rfl⟩
   rw [← hg] at S8 ⊢
   clear hg
   generalize w5.alloc (.cells #[.slice none 0 0] 56) = w6 at S8 ⊢
   refine hK.out _ _ ⟨Bag.cs4 S8.out 0 rfl, Bag.cs1 S8.out 1 rfl⟩ (fun hS => ?_)
   clear hK K
   try simp only [zp0, zp1, zp2, zp3, zp4]
   refine Reg.one_op (i := 5) rfl (by kernel_rfl) (fun K hK => ?_)
   go_simp
   go_at_call 22
   refine (Cspec.out zs0 HZzs0.out zs1 HZzs1.out _ (Bag.bag_rd S8.out 2 rfl) (Bag.bag_rd S8.out 3 rfl)).mono ?_
   rintro e w7 ⟨zr0, rfl, hcon0, ho, hb⟩
   have S9 := Lib.hid (show Sl.Sep W _ [_, _, _, _, L4.boxR gb0 56 V.cz_TxQueue, Bag.bag (V.rw_TxQueue zr0)] from Bag.push_bag S8.out hb ho)
   clear S8
   clear hb ho
   have HZzr0 := Lib.hid hcon0
   clear hcon0
   go_wp2_with fail
   refine hK.out _ _ ⟨Bag.cs4 S9.out 0 rfl, Bag.cs1 S9.out 1 rfl⟩ (fun hS => ?_)
   clear hK K
   try simp only [zp0, zp1, zp2, zp3, zp4]
   refine tk 6 rfl ?_
   try simp only [zp0, zp1, zp2, zp3, zp4]
   refine tk 7 rfl ?_
   try simp only [zp0, zp1, zp2, zp3, zp4]
   refine tk 8 rfl ?_
   try simp only [zp0, zp1, zp2, zp3, zp4]
   have S10 := Lib.hid (show Sl.Sep W _ [_, _, _, _] from Bag.take S9.out [0, 1, 5, 4] (by rfl) (by decide))
   clear S9
   revert S10
   revert HZzr0
   revert hS
   exact hrest gb0 zr0 zs0 zs1 w7
   exact AllReadyH.nil
   refine Reg.cons_op (i := 9) rfl (fun K hK => ?_) ?_
   go_simp
   have S7 := Lib.hid (show Sl.Sep W _ [_, _, _, _] from L4.push_box S6.out 56 #[.slice none 0 0] w4.heap.size rfl)
   clear S6
   obtain ⟨gb0, hg⟩ : ∃ g', g' = w4.heap.size := ⟨_, rfl⟩
   rw [← hg] at S7 ⊢
   clear hg
   generalize w4.alloc (.cells #[.slice none 0 0] 56) = w5 at S7 ⊢
   refine hK.out _ _ ⟨Bag.cs4 S7.out 0 rfl, Bag.cs1 S7.out 1 rfl⟩ (fun hS => ?_)
   clear hK K
   try simp only [zp0, zp1, zp2, zp3, zp4]
   refine Reg.one_op (i := 3) rfl (by kernel_rfl) (fun K hK => ?_)
   go_simp
   go_at_call 23
   refine (HTO1.out _ S7.out.old).mono ?_
   rintro e w6 ⟨zs1, rfl, hcon, ho, hb⟩
   have S8 := Lib.hid (show Sl.Sep W _ [_, _, _, L4.boxR gb0 56 V.cz_TxQueue, Bag.bag (V.rw_TxQueue zs1)] from Bag.push_bag S7.out hb ho)
   clear S7
   clear hb ho
   have HZzs1 := Lib.hid (hcon.trans HC1.out)
   clear hcon
   go_wp2_with fail
   refine hK.out _ _ ⟨Bag.cs4 S8.out 0 rfl, Bag.cs1 S8.out 1 rfl⟩ (fun hS => ?_)
   clear hK K
   try simp only [zp0, zp1, zp2, zp3, zp4]
   refine Reg.one_op (i := 5) rfl (by kernel_rfl) (fun K hK => ?_)
   go_simp
   go_at_call 22
   refine (Cspec.out zs0 HZzs0.out zs1 HZzs1.out _ (Bag.bag_rd S8.out 2 rfl) (Bag.bag_rd S8.out 4 rfl)).mono ?_
   rintro e w7 ⟨zr0, rfl, hcon0, ho, hb⟩
   have S9 := Lib.hid (show Sl.Sep W _ [_, _, _, _, _, Bag.bag (V.rw_TxQueue zr0)] from Bag.push_bag S8.out hb ho)
   clear S8
   clear hb ho
   have HZzr0 := Lib.hid hcon0
   clear hcon0
   go_wp2_with fail
   refine hK.out _ _ ⟨Bag.cs4 S9.out 0 rfl, Bag.cs1 S9.out 1 rfl⟩ (fun hS => ?_)
   clear hK K
   try simp only [zp0, zp1, zp2, zp3, zp4]
   refine tk 6 rfl ?_
   try simp only [zp0, zp1, zp2, zp3, zp4]
   refine tk 7 rfl ?_
   try simp only [zp0, zp1, zp2, zp3, zp4]
   refine tk 8 rfl ?_
   try simp only [zp0, zp1, zp2, zp3, zp4]
   have S10 := Lib.hid (show Sl.Sep W _ [_, _, _, _] from Bag.take S9.out [0, 1, 5, 3] (by rfl) (by decide))
   clear S9
   revert S10
   revert HZzr0
   revert hS
   exact hrest gb0 zr0 zs0 zs1 w7
   exact AllReadyH.nil
   refine Reg.cons_op (i := 9) rfl (fun K hK => ?_) ?_
   go_simp
   have S6 := Lib.hid (show Sl.Sep W _ [_, _, _] from L4.push_box S5.out 56 #[.slice none 0 0] w3.heap.size rfl)
   obtain ⟨gb0, hg⟩ : ∃ g', g' = w3.heap.size := ⟨_, rfl⟩
   rw [← hg] at S6 ⊢
   clear hg
   generalize w3.alloc (.cells #[.slice none 0 0] 56) = w4 at S6 ⊢
   refine hK.out _ _ ⟨Bag.cs4 S6.out 0 rfl, Bag.cs1 S6.out 1 rfl⟩ (fun hS => ?_)
   clear hK K
   try simp only [zp0, zp1, zp2, zp3, zp4]
   refine Reg.one_op (i := 1) rfl (by kernel_rfl) (fun K hK => ?_)
   go_simp
   go_at_call 9
   refine (HTO0.out _ S6.out.old).mono ?_
   rintro e w5 ⟨zs0, rfl, hcon, ho, hb⟩
   have S7 := Lib.hid (show Sl.Sep W _ [_, _, L4.boxR gb0 56 V.cz_TxQueue, Bag.bag (V.rw_Database zs0)] from Bag.push_bag S6.out hb ho)
   clear S6
   clear hb ho
   have HZzs0 := Lib.hid (hcon.trans HC0.out)
   clear hcon
   go_wp2_with fail
   refine hK.out _ _ ⟨Bag.cs4 S7.out 0 rfl, Bag.cs1 S7.out 1 rfl⟩ (fun hS => ?_)
   clear hK K
   try simp only [zp0, zp1, zp2, zp3, zp4]
   refine Reg.one_op (i := 3) rfl (by kernel_rfl) (fun K hK => ?_)
   go_simp
   go_at_call 23
   refine (HTO1.out _ S7.out.old).mono ?_
   rintro e w6 ⟨zs1, rfl, hcon, ho, hb⟩
   have S8 := Lib.hid (show Sl.Sep W _ [_, _, _, _, Bag.bag (V.rw_TxQueue zs1)] from Bag.push_bag S7.out hb ho)
   clear S7
   clear hb ho
   have HZzs1 := Lib.hid (hcon.trans HC1.out)
   clear hcon
   go_wp2_with fail
   refine hK.out _ _ ⟨Bag.cs4 S8.out 0 rfl, Bag.cs1 S8.out 1 rfl⟩ (fun hS => ?_)
   clear hK K
   try simp only [zp0, zp1, zp2, zp3, zp4]
   refine Reg.one_op (i := 5) rfl (by kernel_rfl) (fun K hK => ?_)
   go_simp
   go_at_call 22
   refine (Cspec.out zs0 HZzs0.out zs1 HZzs1.out _ (Bag.bag_rd S8.out 3 rfl) (Bag.bag_rd S8.out 4 rfl)).mono ?_
   rintro e w7 ⟨zr0, rfl, hcon0, ho, hb⟩
   have S9 := Lib.hid (show Sl.Sep W _ [_, _, _, _, _, Bag.bag (V.rw_TxQueue zr0)] from Bag.push_bag S8.out hb ho)
   clear S8
   clear hb ho
   have HZzr0 := Lib.hid hcon0
   clear hcon0
   go_wp2_with fail
   refine hK.out _ _ ⟨Bag.cs4 S9.out 0 rfl, Bag.cs1 S9.out 1 rfl⟩ (fun hS => ?_)
   clear hK K
   try simp only [zp0, zp1, zp2, zp3, zp4]
   refine tk 6 rfl ?_
   try simp only [zp0, zp1, zp2, zp3, zp4]
   refine tk 7 rfl ?_
   try simp only [zp0, zp1, zp2, zp3, zp4]
   refine tk 8 rfl ?_
   try simp only [zp0, zp1, zp2, zp3, zp4]
   have S10 := Lib.hid (show Sl.Sep W _ [_, _, _, _] from Bag.take S9.out [0, 1, 5, 2] (by rfl) (by decide))
   clear S9
   revert S10
   revert HZzr0
   revert hS
   exact hrest gb0 zr0 zs0 zs1 w7
   exact AllReadyH.nil
  case pf =>
   intro gb0 zr0 zs0 zs1 w7 hS HZzr0 S10
   refine Reg.one_op (i := 10) rfl (by kernel_rfl) (fun K hK => ?_)
   have f0 := Bag.cs1 S10.out 3 rfl
   have z0 := Bag.free_at S10.out 3 rfl 0
   go_simp
   clear f0 z0
   have S11 := Lib.hid (show Sl.Sep W _ [_, _, _, L4.boxR gb0 56 (V.cs_TxQueue zr0)] from L5.put_box5 (S10.out) 3 rfl 0 (.slice zr0.f_Txs_a zr0.f_Txs.length zr0.f_Txs_c))
   clear S10
   refine hK.out _ _ ⟨Bag.cs4 S11.out 0 rfl, Bag.cs1 S11.out 1 rfl⟩ (fun hS => ?_)
   clear hK K
   try simp only [zp0, zp1, zp2, zp3, zp4]
   refine tk 11 rfl ?_
   try simp only [zp0, zp1, zp2, zp3, zp4]
   refine wpAnyH_done (by kernel_rfl) ?_ _
   go_wp2_with fail
   go_meet
   case rel =>
    exact ⟨gb0, zr0, rfl, rfl, And.intro HZzr0.out (S11.out)⟩
 case rest =>
  obtain ⟨g1a', z1r0', rfl, rfl, hq⟩ := hcut
  have HZz1r0' := Lib.hid hq.out.1
  obtain ⟨w3, hww, hSS⟩ : ∃ u, u = _ ∧ Sl.Sep W u [L4.boxR W.heap.size 25 (V.cs_Database y0), L4.boxR (W.heap.size + 1) 52 (V.cs_TxQueue y1), Bag.bag (V.rw_TxQueue z1r0'), L4.boxR g1a' 56 (V.cs_TxQueue z1r0')] := ⟨_, rfl, hq.out.2⟩
  subst hww
  have S5 := Lib.hid hSS
  clear hSS hq S4 HTO0 HTO1
  obtain ⟨f0, f1, f2, f3⟩ := Bag.cs4 S5.out 0 rfl
  go_wp2_with fail
  go_at_call 9
  have HC := V.to_Database y0 (by rw [HC0.out]; exact HF0.out) _ (HRY0.out _ S5.out.old)
  try dsimp only [V.vv_Database, V.vv_TxQueue] at HC
  refine HC.mono ?_
  clear HC
  rintro e w4 ⟨z2', rfl, hcon, ho, hb⟩
  clear f0 f1 f2 f3
  have S6 := Lib.hid (show Sl.Sep W _ [_, _, Bag.bag (V.rw_TxQueue z1r0'), L4.boxR g1a' 56 (V.cs_TxQueue z1r0'), Bag.bag (V.rw_Database z2')] from Bag.push_bag S5.out hb ho)
  clear S5
  clear hb ho
  have HZz2' := Lib.hid (hcon.trans HC0.out)
  clear hcon
  try dsimp only [V.vv_Database, V.vv_TxQueue]
  go_upto_region 10 with fail
  have S7 := Lib.hid (show Sl.Sep W _ [_, _, _, _, _, _] from L4.push_box S6.out 33 #[.string z2'.f_Name, .int .i64 z2'.f_Version, .slice z2'.f_Stores_a z2'.f_Stores.length z2'.f_Stores_c, .slice z2'.f_Unique_a z2'.f_Unique.length z2'.f_Unique_c] w4.heap.size rfl)
  clear S6
  obtain ⟨g1, hg⟩ : ∃ g', g' = w4.heap.size := ⟨_, rfl⟩
  rw [← hg] at S7 ⊢
  clear hg
  generalize w4.alloc (.cells #[.string z2'.f_Name, .int .i64 z2'.f_Version, .slice z2'.f_Stores_a z2'.f_Stores.length z2'.f_Stores_c, .slice z2'.f_Unique_a z2'.f_Unique.length z2'.f_Unique_c] 33) = w5 at S7 ⊢
  have f0 := Bag.cs1 S7.out 1 rfl
  go_wp2_with fail
  go_at_call 23
  have HC := V.to_TxQueue y1 (by rw [HC1.out]; exact HF1.out) _ (HRY1.out _ S7.out.old)
  try dsimp only [V.vv_Database, V.vv_TxQueue] at HC
  refine HC.mono ?_
  clear HC
  rintro e w6 ⟨z3', rfl, hcon, ho, hb⟩
  clear f0
  have S8 := Lib.hid (show Sl.Sep W _ [_, _, _, _, _, L4.boxR g1 33 (V.cs_Database z2'), Bag.bag (V.rw_TxQueue z3')] from Bag.push_bag S7.out hb ho)
  clear S7
  clear hb ho
  have HZz3' := Lib.hid (hcon.trans HC1.out)
  clear hcon
  try dsimp only [V.vv_Database, V.vv_TxQueue]
  go_upto_region 11 with fail
  have S9 := Lib.hid (show Sl.Sep W _ [_, _, _, _, _, _, _, _] from L4.push_box S8.out 56 #[.slice z3'.f_Txs_a z3'.f_Txs.length z3'.f_Txs_c] w6.heap.size rfl)
  clear S8
  obtain ⟨g2, hg⟩ : ∃ g', g' = w6.heap.size := ⟨_, rfl⟩
  rw [← hg] at S9 ⊢
  clear hg
  generalize w6.alloc (.cells #[.slice z3'.f_Txs_a z3'.f_Txs.length z3'.f_Txs_c] 56) = w7 at S9 ⊢
  obtain ⟨f0, f1, f2, f3⟩ := Bag.cs4 S9.out 5 rfl
  have f4 := Bag.cs1 S9.out 7 rfl
  go_wp2_with fail
  go_at_call 24
  have HC := Cimpl.out z2' HZz2'.out z3' HZz3'.out _ (Bag.bag_rd S9.out 4 rfl) (Bag.bag_rd S9.out 6 rfl)
  try dsimp only [V.vv_Database, V.vv_TxQueue] at HC
  refine HC.mono ?_
  clear HC
  rintro e w8 ⟨z4r0', rfl, hcon0, ho, hb⟩
  clear f0 f1 f2 f3 f4
  have S10 := Lib.hid (show Sl.Sep W _ [_, _, _, _, _, _, _, L4.boxR g2 56 (V.cs_TxQueue z3'), Bag.bag (V.rw_TxQueue z4r0')] from Bag.push_bag S9.out hb ho)
  clear S9
  clear hb ho
  have HZz4r0' := Lib.hid hcon0
  clear hcon0
  go_upto_region 12 with fail
  have S11 := Lib.hid (show Sl.Sep W _ [_, _, _, _, _, _, _, _, _, _] from L4.push_box (S10.out) 56 #[.slice z4r0'.f_Txs_a z4r0'.f_Txs.length z4r0'.f_Txs_c] (w8.heap.size) (by simp))
  clear S10
  obtain ⟨g3, hg⟩ : ∃ g', g' = w8.heap.size := ⟨_, rfl⟩
  rw [← hg] at S11 ⊢
  clear hg
  generalize (w8.alloc (.cells #[.slice z4r0'.f_Txs_a z4r0'.f_Txs.length z4r0'.f_Txs_c] 56)) = w9 at S11 ⊢
  have f0 := Bag.cs1 S11.out 3 rfl
  have f1 := Bag.cs1 S11.out 9 rfl
  go_wp2_with fail
  go_at_call 25
  have HC := V.eq_TxQueue z4r0' z1r0' (HZz4r0'.out.trans HZz1r0'.out.symm) (by rw [HZz4r0'.out]; exact HFR0.out) _ (Bag.bag_rd S11.out 8 rfl) (Bag.bag_rd S11.out 2 rfl)
  try dsimp only [V.vv_Database, V.vv_TxQueue] at HC
  refine HC.mono ?_
  clear HC
  rintro e w10 ⟨rfl, hb⟩
  clear f0 f1
  have S12 := Lib.hid (S11.out.keep hb)
  clear S11
  clear hb
  go_upto_region 14 with fail
  refine wp_region_held_drew (S := (fun w' => (w'.cell? ⟨W.heap.size, 0, none⟩ = some (.string y0.f_Name) ∧ w'.cell? ⟨W.heap.size, 1, none⟩ = some (.int .i64 y0.f_Version) ∧ w'.cell? ⟨W.heap.size, 2, none⟩ = some (.slice y0.f_Stores_a y0.f_Stores.length y0.f_Stores_c) ∧ w'.cell? ⟨W.heap.size, 3, none⟩ = some (.slice y0.f_Unique_a y0.f_Unique.length y0.f_Unique_c)) ∧ (w'.cell? ⟨g1, 0, none⟩ = some (.string z2'.f_Name) ∧ w'.cell? ⟨g1, 1, none⟩ = some (.int .i64 z2'.f_Version) ∧ w'.cell? ⟨g1, 2, none⟩ = some (.slice z2'.f_Stores_a z2'.f_Stores.length z2'.f_Stores_c) ∧ w'.cell? ⟨g1, 3, none⟩ = some (.slice z2'.f_Unique_a z2'.f_Unique.length z2'.f_Unique_c)))) (by kernel_rfl) ⟨Bag.cs4 (Bag.drew1 S12.out) 0 rfl, Bag.cs4 (Bag.drew1 S12.out) 5 rfl⟩ (fun hS => ?_)
  have S13 := Lib.hid (Bag.drew1 S12.out)
  clear S12
  generalize World.drew _ = w11 at hS S13 ⊢
  refine tk 0 rfl ?_
  try simp only [zp0, zp1, zp2, zp3, zp4]
  refine tk 1 rfl ?_
  try simp only [zp0, zp1, zp2, zp3, zp4]
  refine Reg.one_op (i := 2) rfl (by kernel_rfl) (fun K hK => ?_)
  go_simp
  go_at_call 9
  have HC := V.to_Database y0 (by rw [HC0.out]; exact HF0.out) _ (HRY0.out _ S13.out.old)
  try dsimp only [V.vv_Database, V.vv_TxQueue] at HC
  refine HC.mono ?_
  clear HC
  rintro e w12 ⟨z5', rfl, hcon, ho, hb⟩
  have S14 := Lib.hid (show Sl.Sep W _ [_, _, _, _, _, _, _, _, _, _, Bag.bag (V.rw_Database z5')] from Bag.push_bag S13.out hb ho)
  clear S13
  clear hb ho
  have HZz5' := Lib.hid (hcon.trans HC0.out)
  clear hcon
  try dsimp only [V.vv_Database, V.vv_TxQueue]
  go_wp2_with fail
  refine hK.out _ _ ⟨Bag.cs4 S14.out 0 rfl, Bag.cs4 S14.out 5 rfl⟩ (fun hS => ?_)
  clear hK K
  try simp only [zp0, zp1, zp2, zp3, zp4]
  refine Reg.one_op (i := 3) rfl (by kernel_rfl) (fun K hK => ?_)
  go_simp
  go_at_call 12
  have HC := V.eq_Database z2' z5' (HZz2'.out.trans HZz5'.out.symm) (by rw [HZz2'.out]; exact (Nat.le_trans HF0.out (by decide : (1048576 : Nat) ≤ 1125899906842624))) _ (Bag.bag_rd S14.out 4 rfl) (Bag.bag_rd S14.out 10 rfl)
  try dsimp only [V.vv_Database, V.vv_TxQueue] at HC
  refine HC.mono ?_
  clear HC
  rintro e w13 ⟨rfl, hb⟩
  have S15 := Lib.hid (S14.out.keep hb)
  clear S14
  clear hb
  go_wp2_with fail
  refine hK.out _ _ ⟨Bag.cs4 S15.out 0 rfl, Bag.cs4 S15.out 5 rfl⟩ (fun hS => ?_)
  clear hK K
  try simp only [zp0, zp1, zp2, zp3, zp4]
  refine tk 4 rfl ?_
  try simp only [zp0, zp1, zp2, zp3, zp4]
  refine wpAnyH_done (by kernel_rfl) ?_ _
  obtain ⟨f0, f1, f2, f3⟩ := Bag.cs4 S15.out 0 rfl
  have f4 := Bag.cs1 S15.out 1 rfl
  have f5 := Bag.cs1 S15.out 3 rfl
  obtain ⟨f6, f7, f8, f9⟩ := Bag.cs4 S15.out 5 rfl
  have f10 := Bag.cs1 S15.out 7 rfl
  have f11 := Bag.cs1 S15.out 9 rfl
  have S16 := Lib.hid (show Sl.Sep W _ [L4.boxR W.heap.size 25 (V.cs_Database y0), L4.boxR (W.heap.size + 1) 52 (V.cs_TxQueue y1), Bag.bag (V.rw_TxQueue z1r0'), L4.boxR g1a' 56 (V.cs_TxQueue z1r0'), Bag.bag (V.rw_Database z2'), L4.boxR g1 33 (V.cs_Database z2'), Bag.bag (V.rw_TxQueue z3'), L4.boxR g2 56 (V.cs_TxQueue z3'), Bag.bag (V.rw_TxQueue z4r0'), L4.boxR g3 56 (V.cs_TxQueue z4r0')] from Bag.take S15.out [0, 1, 2, 3, 4, 5, 6, 7, 8, 9] (by rfl) (by decide))
  clear S15
  go_upto_region 16 with fail
  clear f0 f1 f2 f3 f4 f5 f6 f7 f8 f9 f10 f11
  refine wp_region_held_drew (S := (fun w' => (w'.cell? ⟨W.heap.size + 1, 0, none⟩ = some (.slice y1.f_Txs_a y1.f_Txs.length y1.f_Txs_c)) ∧ (w'.cell? ⟨g2, 0, none⟩ = some (.slice z3'.f_Txs_a z3'.f_Txs.length z3'.f_Txs_c)))) (by kernel_rfl) ⟨Bag.cs1 (Bag.drew1 S16.out) 1 rfl, Bag.cs1 (Bag.drew1 S16.out) 7 rfl⟩ (fun hS => ?_)
  have S17 := Lib.hid (Bag.drew1 S16.out)
  clear S16
  generalize World.drew _ = w14 at hS S17 ⊢
  refine tk 0 rfl ?_
  try simp only [zp0, zp1, zp2, zp3, zp4]
  refine tk 1 rfl ?_
  try simp only [zp0, zp1, zp2, zp3, zp4]
  refine Reg.one_op (i := 2) rfl (by kernel_rfl) (fun K hK => ?_)
  go_simp
  go_at_call 23
  have HC := V.to_TxQueue y1 (by rw [HC1.out]; exact HF1.out) _ (HRY1.out _ S17.out.old)
  try dsimp only [V.vv_Database, V.vv_TxQueue] at HC
  refine HC.mono ?_
  clear HC
  rintro e w15 ⟨z6', rfl, hcon, ho, hb⟩
  have S18 := Lib.hid (show Sl.Sep W _ [_, _, _, _, _, _, _, _, _, _, Bag.bag (V.rw_TxQueue z6')] from Bag.push_bag S17.out hb ho)
  clear S17
  clear hb ho
  have HZz6' := Lib.hid (hcon.trans HC1.out)
  clear hcon
  try dsimp only [V.vv_Database, V.vv_TxQueue]
  go_wp2_with fail
  refine hK.out _ _ ⟨Bag.cs1 S18.out 1 rfl, Bag.cs1 S18.out 7 rfl⟩ (fun hS => ?_)
  clear hK K
  try simp only [zp0, zp1, zp2, zp3, zp4]
  refine Reg.one_op (i := 3) rfl (by kernel_rfl) (fun K hK => ?_)
  go_simp
  go_at_call 25
  have HC := V.eq_TxQueue z3' z6' (HZz3'.out.trans HZz6'.out.symm) (by rw [HZz3'.out]; exact (Nat.le_trans HF1.out (by decide : (1048576 : Nat) ≤ 1125899906842624))) _ (Bag.bag_rd S18.out 6 rfl) (Bag.bag_rd S18.out 10 rfl)
  try dsimp only [V.vv_Database, V.vv_TxQueue] at HC
  refine HC.mono ?_
  clear HC
  rintro e w16 ⟨rfl, hb⟩
  have S19 := Lib.hid (S18.out.keep hb)
  clear S18
  clear hb
  go_wp2_with fail
  refine hK.out _ _ ⟨Bag.cs1 S19.out 1 rfl, Bag.cs1 S19.out 7 rfl⟩ (fun hS => ?_)
  clear hK K
  try simp only [zp0, zp1, zp2, zp3, zp4]
  refine tk 4 rfl ?_
  try simp only [zp0, zp1, zp2, zp3, zp4]
  refine wpAnyH_done (by kernel_rfl) ?_ _
  obtain ⟨f0, f1, f2, f3⟩ := Bag.cs4 S19.out 0 rfl
  have f4 := Bag.cs1 S19.out 1 rfl
  have f5 := Bag.cs1 S19.out 3 rfl
  obtain ⟨f6, f7, f8, f9⟩ := Bag.cs4 S19.out 5 rfl
  have f10 := Bag.cs1 S19.out 7 rfl
  have f11 := Bag.cs1 S19.out 9 rfl
  have S20 := Lib.hid (show Sl.Sep W _ [L4.boxR W.heap.size 25 (V.cs_Database y0), L4.boxR (W.heap.size + 1) 52 (V.cs_TxQueue y1), Bag.bag (V.rw_TxQueue z1r0'), L4.boxR g1a' 56 (V.cs_TxQueue z1r0'), Bag.bag (V.rw_Database z2'), L4.boxR g1 33 (V.cs_Database z2'), Bag.bag (V.rw_TxQueue z3'), L4.boxR g2 56 (V.cs_TxQueue z3'), Bag.bag (V.rw_TxQueue z4r0'), L4.boxR g3 56 (V.cs_TxQueue z4r0')] from Bag.take S19.out [0, 1, 2, 3, 4, 5, 6, 7, 8, 9] (by rfl) (by decide))
  clear S19
  obtain ⟨Ez2', hE⟩ : ∃ E, (1 : Int) + (V.ct_Database z2' : Int) = E := ⟨_, rfl⟩
  have hEb := V.ctS_Database z2'
  have hEc : V.wt_Database (V.co_Database z2') ≤ 1125899906842624 := (by rw [HZz2'.out]; exact (Nat.le_trans HF0.out (by decide : (1048576 : Nat) ≤ 1125899906842624)))
  have hEb0 : 1 ≤ Ez2' := by omega
  have hEb1 : Ez2' ≤ 1 + 72057594037928000 := by omega
  clear hEc
  have hEb2 : 0 < Ez2' := by omega
  have hEb3 : ¬ Ez2' < 0 := by omega
  have HEz2' := Lib.hid hE
  clear hE hEb
  clear f0 f1 f2 f3 f4 f5 f6 f7 f8 f9 f10 f11
  obtain ⟨f0, f1, f2, f3⟩ := Bag.cs4 S20.out 5 rfl
  go_wp2_with fail
  go_at_call 13
  have HC := V.mark_Database S20.out 4 (z := z2') rfl 1 (by rw [HZz2'.out]; exact (Nat.le_trans HF0.out (by decide : (1048576 : Nat) ≤ 1125899906842624))) (by omega) (by rw [HEz2'.out]; omega)
  try dsimp only [V.vv_Database, V.vv_TxQueue] at HC
  rw [HEz2'.out] at HC
  refine HC.mono ?_
  clear HC
  rintro e w17 ⟨rfl, hS⟩
  clear f0 f1 f2 f3
  have S21 := Lib.hid (show Sl.Sep W _ [_, _, _, _, Bag.bag (V.rw_Database (V.md_Database 1 z2')), _, _, _, _, _] from hS)
  clear S20
  clear hS
  obtain ⟨Ez3', hE⟩ : ∃ E, (Ez2' : Int) + (V.ct_TxQueue z3' : Int) = E := ⟨_, rfl⟩
  have hEb := V.ctS_TxQueue z3'
  have hEc : V.wt_TxQueue (V.co_TxQueue z3') ≤ 1125899906842624 := (by rw [HZz3'.out]; exact (Nat.le_trans HF1.out (by decide : (1048576 : Nat) ≤ 1125899906842624)))
  have hEb0 : Ez2' ≤ Ez3' := by omega
  have hEb1 : Ez3' ≤ Ez2' + 72057594037928000 := by omega
  clear hEc
  have hEb2 : 0 < Ez3' := by omega
  have hEb3 : ¬ Ez3' < 0 := by omega
  have HEz3' := Lib.hid hE
  clear hE hEb
  have f0 := Bag.cs1 S21.out 7 rfl
  go_wp2_with fail
  go_at_call 26
  have HC := V.mark_TxQueue S21.out 6 (z := z3') rfl Ez2' (by rw [HZz3'.out]; exact (Nat.le_trans HF1.out (by decide : (1048576 : Nat) ≤ 1125899906842624))) (by omega) (by rw [HEz3'.out]; omega)
  try dsimp only [V.vv_Database, V.vv_TxQueue] at HC
  rw [HEz3'.out] at HC
  refine HC.mono ?_
  clear HC
  rintro e w18 ⟨rfl, hS⟩
  clear f0
  have S22 := Lib.hid (show Sl.Sep W _ [_, _, _, _, _, _, Bag.bag (V.rw_TxQueue (V.md_TxQueue Ez2' z3')), _, _, _] from hS)
  clear S21
  clear hS
  have f0 := Bag.cs1 S22.out 3 rfl
  have f1 := Bag.cs1 S22.out 9 rfl
  go_wp2_with fail
  go_at_call 25
  have HC := V.eq_TxQueue z4r0' z1r0' (HZz4r0'.out.trans HZz1r0'.out.symm) (by rw [HZz4r0'.out]; exact HFR0.out) _ (Bag.bag_rd S22.out 8 rfl) (Bag.bag_rd S22.out 2 rfl)
  try dsimp only [V.vv_Database, V.vv_TxQueue] at HC
  refine HC.mono ?_
  clear HC
  rintro e w19 ⟨rfl, hb⟩
  clear f0 f1
  have S23 := Lib.hid (S22.out.keep hb)
  clear S22
  clear hb
  obtain ⟨Ez4r0', hE⟩ : ∃ E, (1 : Int) + (V.ct_TxQueue z4r0' : Int) = E := ⟨_, rfl⟩
  have hEb := V.ctS_TxQueue z4r0'
  have hEc : V.wt_TxQueue (V.co_TxQueue z4r0') ≤ 1125899906842624 := (by rw [HZz4r0'.out]; exact HFR0.out)
  have hEb0 : 1 ≤ Ez4r0' := by omega
  have hEb1 : Ez4r0' ≤ 1 + 72057594037928000 := by omega
  clear hEc
  have hEb2 : 0 < Ez4r0' := by omega
  have hEb3 : ¬ Ez4r0' < 0 := by omega
  have HEz4r0' := Lib.hid hE
  clear hE hEb
  have f0 := Bag.cs1 S23.out 9 rfl
  go_wp2_with fail
  go_at_call 26
  have HC := V.mark_TxQueue S23.out 8 (z := z4r0') rfl 1 (by rw [HZz4r0'.out]; exact HFR0.out) (by omega) (by rw [HEz4r0'.out]; omega)
  try dsimp only [V.vv_Database, V.vv_TxQueue] at HC
  rw [HEz4r0'.out] at HC
  refine HC.mono ?_
  clear HC
  rintro e w20 ⟨rfl, hS⟩
  clear f0
  have S24 := Lib.hid (show Sl.Sep W _ [_, _, _, _, _, _, _, _, Bag.bag (V.rw_TxQueue (V.md_TxQueue 1 z4r0')), _] from hS)
  clear S23
  clear hS
  have f0 := Bag.cs1 S24.out 9 rfl
  go_wp2_with fail
  go_at_call 27
  have HC := V.held_TxQueue z4r0' 1 (by rw [HZz4r0'.out]; exact HFR0.out) (by omega) (by rw [HEz4r0'.out]; omega) _ (Bag.bag_rd S24.out 8 rfl)
  try dsimp only [V.vv_Database, V.vv_TxQueue] at HC
  rw [HEz4r0'.out] at HC
  refine HC.mono ?_
  clear HC
  rintro e w21 ⟨rfl, hb⟩
  clear f0
  have S25 := Lib.hid (S24.out.keep hb)
  clear S24
  clear hb
  have S26 := Lib.hid (show Sl.Sep W _ [L4.boxR W.heap.size 25 (V.cs_Database y0), L4.boxR (W.heap.size + 1) 52 (V.cs_TxQueue y1), Bag.bag (V.rw_TxQueue z1r0'), L4.boxR g1a' 56 (V.cs_TxQueue z1r0'), Bag.bag (V.rw_Database (V.md_Database 1 z2')), L4.boxR g1 33 (V.cs_Database z2'), Bag.bag (V.rw_TxQueue (V.md_TxQueue Ez2' z3')), L4.boxR g2 56 (V.cs_TxQueue z3'), Bag.bag (V.rw_TxQueue (V.md_TxQueue 1 z4r0')), L4.boxR g3 56 (V.cs_TxQueue z4r0')] from Bag.take S25.out [0, 1, 2, 3, 4, 5, 6, 7, 8, 9] (by rfl) (by decide))
  clear S25
  have S27 := Lib.hid (show Sl.Sep W _ [L4.boxR W.heap.size 25 (V.cs_Database y0), L4.boxR (W.heap.size + 1) 52 (V.cs_TxQueue y1), Run.allR [Bag.bag (V.rw_TxQueue z1r0'), L4.boxR g1a' 56 (V.cs_TxQueue z1r0'), Bag.bag (V.rw_Database (V.md_Database 1 z2')), L4.boxR g1 33 (V.cs_Database z2'), Bag.bag (V.rw_TxQueue (V.md_TxQueue Ez2' z3')), L4.boxR g2 56 (V.cs_TxQueue z3'), Bag.bag (V.rw_TxQueue (V.md_TxQueue 1 z4r0')), L4.boxR g3 56 (V.cs_TxQueue z4r0')]] from Run.packR (us := [L4.boxR W.heap.size 25 (V.cs_Database y0), L4.boxR (W.heap.size + 1) 52 (V.cs_TxQueue y1)]) (vs := [Bag.bag (V.rw_TxQueue z1r0'), L4.boxR g1a' 56 (V.cs_TxQueue z1r0'), Bag.bag (V.rw_Database (V.md_Database 1 z2')), L4.boxR g1 33 (V.cs_Database z2'), Bag.bag (V.rw_TxQueue (V.md_TxQueue Ez2' z3')), L4.boxR g2 56 (V.cs_TxQueue z3'), Bag.bag (V.rw_TxQueue (V.md_TxQueue 1 z4r0')), L4.boxR g3 56 (V.cs_TxQueue z4r0')]) S26.out)
  clear S26
  obtain ⟨QQ, hQQ⟩ : ∃ Q, Q = Run.allR [Bag.bag (V.rw_TxQueue z1r0'), L4.boxR g1a' 56 (V.cs_TxQueue z1r0'), Bag.bag (V.rw_Database (V.md_Database 1 z2')), L4.boxR g1 33 (V.cs_Database z2'), Bag.bag (V.rw_TxQueue (V.md_TxQueue Ez2' z3')), L4.boxR g2 56 (V.cs_TxQueue z3'), Bag.bag (V.rw_TxQueue (V.md_TxQueue 1 z4r0')), L4.boxR g3 56 (V.cs_TxQueue z4r0')] := ⟨_, rfl⟩
  rw [← hQQ] at S27
  have HQQ := Lib.hid hQQ
  clear hQQ
  go_upto_region 31 with fail
  have HTO0 := Lib.hid (fun w' (h : Below W.heap.size W w') => V.to_Database y0 (by rw [HC0.out]; exact HF0.out) w' (HRY0.out w' h))
  try dsimp only [V.vv_Database, V.vv_TxQueue] at HTO0
  have HTO1 := Lib.hid (fun w' (h : Below W.heap.size W w') => V.to_TxQueue y1 (by rw [HC1.out]; exact HF1.out) w' (HRY1.out w' h))
  try dsimp only [V.vv_Database, V.vv_TxQueue] at HTO1
  go_cut [17, 18] (fun pz0 qs0 wx => ∃ (g7a' : Nat) (z7r0' : V.Y_TxQueue), pz0 = .pointer (some ⟨g7a', 0, none⟩) ∧ qs0 = .bool r1' ∧ Hid (V.co_TxQueue z7r0' = r0' ∧ Sl.Sep W wx [L4.boxR W.heap.size 25 (V.cs_Database y0), L4.boxR (W.heap.size + 1) 52 (V.cs_TxQueue y1), QQ, Bag.bag (V.rw_TxQueue z7r0'), L4.boxR g7a' 56 (V.cs_TxQueue z7r0')]))
  case first =>
   refine wp_region_held_drew (S := (fun w' => (w'.cell? ⟨W.heap.size, 0, none⟩ = some (.string y0.f_Name) ∧ w'.cell? ⟨W.heap.size, 1, none⟩ = some (.int .i64 y0.f_Version) ∧ w'.cell? ⟨W.heap.size, 2, none⟩ = some (.slice y0.f_Stores_a y0.f_Stores.length y0.f_Stores_c) ∧ w'.cell? ⟨W.heap.size, 3, none⟩ = some (.slice y0.f_Unique_a y0.f_Unique.length y0.f_Unique_c)) ∧ (w'.cell? ⟨W.heap.size + 1, 0, none⟩ = some (.slice y1.f_Txs_a y1.f_Txs.length y1.f_Txs_c)))) (by kernel_rfl) ⟨Bag.cs4 (Bag.drew1 S27.out) 0 rfl, Bag.cs1 (Bag.drew1 S27.out) 1 rfl⟩ (fun hS => ?_)
   have S28 := Lib.hid (Bag.drew1 S27.out)
   clear S27
   generalize World.drew _ = w22 at hS S28 ⊢
   apply share5
   case main =>
    intro hrest
    refine tk 0 rfl ?_
    try simp only [zp0, zp1, zp2, zp3, zp4]
    refine tk 2 rfl ?_
    try simp only [zp0, zp1, zp2, zp3, zp4]
    refine tk 4 rfl ?_
    try simp only [zp0, zp1, zp2, zp3, zp4]
    refine wpAnyH_ready (rs := [1, 9]) (by kernel_rfl) (by simp) ?_
    refine Reg.cons_op (i := 1) rfl (fun K hK => ?_) ?_
    go_simp
    go_at_call 9
    refine (HTO0.out _ S28.out.old).mono ?_
    rintro e w23 ⟨zs0, rfl, hcon, ho, hb⟩
    have S29 := Lib.hid (show Sl.Sep W _ [_, _, QQ, Bag.bag (V.rw_Database zs0)] from Bag.push_bag S28.out hb ho)
    clear hb ho
    have HZzs0 := Lib.hid (hcon.trans HC0.out)
    clear hcon
    go_wp2_with fail
    refine hK.out _ _ ⟨Bag.cs4 S29.out 0 rfl, Bag.cs1 S29.out 1 rfl⟩ (fun hS => ?_)
    clear hK K
    try simp only [zp0, zp1, zp2, zp3, zp4]
    refine wpAnyH_ready (rs := [3, 9]) (by kernel_rfl) (by simp) ?_
    refine Reg.cons_op (i := 3) rfl (fun K hK => ?_) ?_
    go_simp
    go_at_call 23
    refine (HTO1.out _ S29.out.old).mono ?_
    rintro e w24 ⟨zs1, rfl, hcon, ho, hb⟩
    have S30 := Lib.hid (show Sl.Sep W _ [_, _, QQ, _, Bag.bag (V.rw_TxQueue zs1)] from Bag.push_bag S29.out hb ho)
    clear S29
    clear hb ho
    have HZzs1 := Lib.hid (hcon.trans HC1.out)
    clear hcon
    go_wp2_with fail
    refine hK.out _ _ ⟨Bag.cs4 S30.out 0 rfl, Bag.cs1 S30.out 1 rfl⟩ (fun hS => ?_)
    clear hK K
    try simp only [zp0, zp1, zp2, zp3, zp4]
    refine wpAnyH_ready (rs := [5, 9]) (by kernel_rfl) (by simp) ?_
    refine Reg.cons_op (i := 5) rfl (fun K hK => ?_) ?_
    go_simp
    go_at_call 24
    refine (Cimpl.out zs0 HZzs0.out zs1 HZzs1.out _ (Bag.bag_rd S30.out 3 rfl) (Bag.bag_rd S30.out 4 rfl)).mono ?_
    rintro e w25 ⟨zr0, rfl, hcon0, ho, hb⟩
    have S31 := Lib.hid (show Sl.Sep W _ [_, _, QQ, _, _, Bag.bag (V.rw_TxQueue zr0)] from Bag.push_bag S30.out hb ho)
    clear S30
    clear hb ho
    have HZzr0 := Lib.hid hcon0
    clear hcon0
    go_wp2_with fail
    refine hK.out _ _ ⟨Bag.cs4 S31.out 0 rfl, Bag.cs1 S31.out 1 rfl⟩ (fun hS => ?_)
    clear hK K
    try simp only [zp0, zp1, zp2, zp3, zp4]
    refine tk 6 rfl ?_
    try simp only [zp0, zp1, zp2, zp3, zp4]
    refine tk 7 rfl ?_
    try simp only [zp0, zp1, zp2, zp3, zp4]
    refine tk 8 rfl ?_
    try simp only [zp0, zp1, zp2, zp3, zp4]
    refine Reg.one_op (i := 9) rfl (by kernel_rfl) (fun K hK => ?_)
    go_simp
    have S32 := Lib.hid (show Sl.Sep W _ [_, _, _, _, _, _, _] from L4.push_box S31.out 56 #[.slice none 0 0] w25.heap.size rfl)
    clear S31
    obtain ⟨gb0, hg⟩ : ∃ g', g' = w25.heap.size := ⟨_, rfl⟩
    rw [← hg] at S32 ⊢
    clear hg
    generalize w25.alloc (.cells #[.slice none 0 0] 56) = w26 at S32 ⊢
    refine hK.out _ _ ⟨Bag.cs4 S32.out 0 rfl, Bag.cs1 S32.out 1 rfl⟩ (fun hS => ?_)
    clear hK K
    try simp only [zp0, zp1, zp2, zp3, zp4]
    have S33 := Lib.hid (show Sl.Sep W _ [_, _, QQ, _, L4.boxR gb0 56 V.cz_TxQueue] from Bag.take S32.out [0, 1, 2, 5, 6] (by rfl) (by decide))
    clear S32
    revert S33
    revert HZzr0
    revert hS
    exact hrest gb0 zr0 zs0 zs1 w26
    refine Reg.cons_op (i := 9) rfl (fun K hK => ?_) ?_
    go_simp
    have S31 := Lib.hid (show Sl.Sep W _ [_, _, _, _, _, _] from L4.push_box S30.out 56 #[.slice none 0 0] w24.heap.size rfl)
    clear S30
    obtain ⟨gb0, hg⟩ : ∃ g', g' = w24.heap.size := ⟨_, rfl⟩
    rw [← hg] at S31 ⊢
    clear hg
    generalize w24.alloc (.cells #[.slice none 0 0] 56) = w25 at S31 ⊢
    refine hK.out _ _ ⟨Bag.cs4 S31.out 0 rfl, Bag.cs1 S31.out 1 rfl⟩ (fun hS => ?_)
    clear hK K
    try simp only [zp0, zp1, zp2, zp3, zp4]
    refine Reg.one_op (i := 5) rfl (by kernel_rfl) (fun K hK => ?_)
    go_simp
    go_at_call 24
    refine (Cimpl.out zs0 HZzs0.out zs1 HZzs1.out _ (Bag.bag_rd S31.out 3 rfl) (Bag.bag_rd S31.out 4 rfl)).mono ?_
    rintro e w26 ⟨zr0, rfl, hcon0, ho, hb⟩
    have S32 := Lib.hid (show Sl.Sep W _ [_, _, QQ, _, _, L4.boxR gb0 56 V.cz_TxQueue, Bag.bag (V.rw_TxQueue zr0)] from Bag.push_bag S31.out hb ho)
    clear S31
    clear hb ho
    have HZzr0 := Lib.hid hcon0
    clear hcon0
    go_wp2_with fail
    refine hK.out _ _ ⟨Bag.cs4 S32.out 0 rfl, Bag.cs1 S32.out 1 rfl⟩ (fun hS => ?_)
    clear hK K
    try simp only [zp0, zp1, zp2, zp3, zp4]
    refine tk 6 rfl ?_
    try simp only [zp0, zp1, zp2, zp3, zp4]
    refine tk 7 rfl ?_
    try simp only [zp0, zp1, zp2, zp3, zp4]
    refine tk 8 rfl ?_
    try simp only [zp0, zp1, zp2, zp3, zp4]
    have S33 := Lib.hid (show Sl.Sep W _ [_, _, QQ, _, _] from Bag.take S32.out [0, 1, 2, 6, 5] (by rfl) (by decide))
    clear S32
    revert S33
    revert HZzr0
    revert hS
    exact hrest gb0 zr0 zs0 zs1 w26
    exact AllReadyH.nil
    refine Reg.cons_op (i := 9) rfl (fun K hK => ?_) ?_
    go_simp
    have S30 := Lib.hid (show Sl.Sep W _ [_, _, _, _, _] from L4.push_box S29.out 56 #[.slice none 0 0] w23.heap.size rfl)
    clear S29
    obtain ⟨gb0, hg⟩ : ∃ g', g' = w23.heap.size := ⟨_, rfl⟩
    rw [← hg] at S30 ⊢
    clear hg
    generalize w23.alloc (.cells #[.slice none 0 0] 56) = w24 at S30 ⊢
    refine hK.out _ _ ⟨Bag.cs4 S30.out 0 rfl, Bag.cs1 S30.out 1 rfl⟩ (fun hS => ?_)
    clear hK K
    try simp only [zp0, zp1, zp2, zp3, zp4]
    refine Reg.one_op (i := 3) rfl (by kernel_rfl) (fun K hK => ?_)
    go_simp
    go_at_call 23
    refine (HTO1.out _ S30.out.old).mono ?_
    rintro e w25 ⟨zs1, rfl, hcon, ho, hb⟩
    have S31 := Lib.hid (show Sl.Sep W _ [_, _, QQ, _, L4.boxR gb0 56 V.cz_TxQueue, Bag.bag (V.rw_TxQueue zs1)] from Bag.push_bag S30.out hb ho)
    clear S30
    clear hb ho
    have HZzs1 := Lib.hid (hcon.trans HC1.out)
    clear hcon
    go_wp2_with fail
    refine hK.out _ _ ⟨Bag.cs4 S31.out 0 rfl, Bag.cs1 S31.out 1 rfl⟩ (fun hS => ?_)
    clear hK K
    try simp only [zp0, zp1, zp2, zp3, zp4]
    refine Reg.one_op (i := 5) rfl (by kernel_rfl) (fun K hK => ?_)
    go_simp
    go_at_call 24
    refine (Cimpl.out zs0 HZzs0.out zs1 HZzs1.out _ (Bag.bag_rd S31.out 3 rfl) (Bag.bag_rd S31.out 5 rfl)).mono ?_
    rintro e w26 ⟨zr0, rfl, hcon0, ho, hb⟩
    have S32 := Lib.hid (show Sl.Sep W _ [_, _, QQ, _, _, _, Bag.bag (V.rw_TxQueue zr0)] from Bag.push_bag S31.out hb ho)
    clear S31
    clear hb ho
    have HZzr0 := Lib.hid hcon0
    clear hcon0
    go_wp2_with fail
    refine hK.out _ _ ⟨Bag.cs4 S32.out 0 rfl, Bag.cs1 S32.out 1 rfl⟩ (fun hS => ?_)
    clear hK K
    try simp only [zp0, zp1, zp2, zp3, zp4]
    refine tk 6 rfl ?_
    try simp only [zp0, zp1, zp2, zp3, zp4]
    refine tk 7 rfl ?_
    try simp only [zp0, zp1, zp2, zp3, zp4]
    refine tk 8 rfl ?_
    try simp only [zp0, zp1, zp2, zp3, zp4]
    have S33 := Lib.hid (show Sl.Sep W _ [_, _, QQ, _, _] from Bag.take S32.out [0, 1, 2, 6, 4] (by rfl) (by decide))
    clear S32
    revert S33
    revert HZzr0
    revert hS
    exact hrest gb0 zr0 zs0 zs1 w26
    exact AllReadyH.nil
    refine Reg.cons_op (i := 9) rfl (fun K hK => ?_) ?_
    go_simp
    have S29 := Lib.hid (show Sl.Sep W _ [_, _, _, _] from L4.push_box S28.out 56 #[.slice none 0 0] w22.heap.size rfl)
    obtain ⟨gb0, hg⟩ : ∃ g', g' = w22.heap.size := ⟨_, rfl⟩
    rw [← hg] at S29 ⊢
    clear hg
    generalize w22.alloc (.cells #[.slice none 0 0] 56) = w23 at S29 ⊢
    refine hK.out _ _ ⟨Bag.cs4 S29.out 0 rfl, Bag.cs1 S29.out 1 rfl⟩ (fun hS => ?_)
    clear hK K
    try simp only [zp0, zp1, zp2, zp3, zp4]
    refine Reg.one_op (i := 1) rfl (by kernel_rfl) (fun K hK => ?_)
    go_simp
    go_at_call 9
    refine (HTO0.out _ S29.out.old).mono ?_
    rintro e w24 ⟨zs0, rfl, hcon, ho, hb⟩
    have S30 := Lib.hid (show Sl.Sep W _ [_, _, QQ, L4.boxR gb0 56 V.cz_TxQueue, Bag.bag (V.rw_Database zs0)] from Bag.push_bag S29.out hb ho)
    clear S29
    clear hb ho
    have HZzs0 := Lib.hid (hcon.trans HC0.out)
    clear hcon
    go_wp2_with fail
    refine hK.out _ _ ⟨Bag.cs4 S30.out 0 rfl, Bag.cs1 S30.out 1 rfl⟩ (fun hS => ?_)
    clear hK K
    try simp only [zp0, zp1, zp2, zp3, zp4]
    refine Reg.one_op (i := 3) rfl (by kernel_rfl) (fun K hK => ?_)
    go_simp
    go_at_call 23
    refine (HTO1.out _ S30.out.old).mono ?_
    rintro e w25 ⟨zs1, rfl, hcon, ho, hb⟩
    have S31 := Lib.hid (show Sl.Sep W _ [_, _, QQ, _, _, Bag.bag (V.rw_TxQueue zs1)] from Bag.push_bag S30.out hb ho)
    clear S30
    clear hb ho
    have HZzs1 := Lib.hid (hcon.trans HC1.out)
    clear hcon
    go_wp2_with fail
    refine hK.out _ _ ⟨Bag.cs4 S31.out 0 rfl, Bag.cs1 S31.out 1 rfl⟩ (fun hS => ?_)
    clear hK K
    try simp only [zp0, zp1, zp2, zp3, zp4]
    refine Reg.one_op (i := 5) rfl (by kernel_rfl) (fun K hK => ?_)
    go_simp
    go_at_call 24
    refine (Cimpl.out zs0 HZzs0.out zs1 HZzs1.out _ (Bag.bag_rd S31.out 4 rfl) (Bag.bag_rd S31.out 5 rfl)).mono ?_
    rintro e w26 ⟨zr0, rfl, hcon0, ho, hb⟩
    have S32 := Lib.hid (show Sl.Sep W _ [_, _, QQ, _, _, _, Bag.bag (V.rw_TxQueue zr0)] from Bag.push_bag S31.out hb ho)
    clear S31
    clear hb ho
    have HZzr0 := Lib.hid hcon0
    clear hcon0
    go_wp2_with fail
    refine hK.out _ _ ⟨Bag.cs4 S32.out 0 rfl, Bag.cs1 S32.out 1 rfl⟩ (fun hS => ?_)
    clear hK K
    try simp only [zp0, zp1, zp2, zp3, zp4]
    refine tk 6 rfl ?_
    try simp only [zp0, zp1, zp2, zp3, zp4]
    refine tk 7 rfl ?_
    try simp only [zp0, zp1, zp2, zp3, zp4]
    refine tk 8 rfl ?_
    try simp only [zp0, zp1, zp2, zp3, zp4]
    have S33 := Lib.hid (show Sl.Sep W _ [_, _, QQ, _, _] from Bag.take S32.out [0, 1, 2, 6, 3] (by rfl) (by decide))
    clear S32
    revert S33
    revert HZzr0
    revert hS
    exact hrest gb0 zr0 zs0 zs1 w26
    exact AllReadyH.nil
   case pf =>
    intro gb0 zr0 zs0 zs1 w26 hS HZzr0 S33
    refine Reg.one_op (i := 10) rfl (by kernel_rfl) (fun K hK => ?_)
    have f0 := Bag.cs1 S33.out 4 rfl
    have z0 := Bag.free_at S33.out 4 rfl 0
    go_simp
    clear f0 z0
    have S34 := Lib.hid (show Sl.Sep W _ [_, _, QQ, _, L4.boxR gb0 56 (V.cs_TxQueue zr0)] from L5.put_box5 (S33.out) 4 rfl 0 (.slice zr0.f_Txs_a zr0.f_Txs.length zr0.f_Txs_c))
    clear S33
    refine hK.out _ _ ⟨Bag.cs4 S34.out 0 rfl, Bag.cs1 S34.out 1 rfl⟩ (fun hS => ?_)
    clear hK K
    try simp only [zp0, zp1, zp2, zp3, zp4]
    refine tk 11 rfl ?_
    try simp only [zp0, zp1, zp2, zp3, zp4]
    refine wpAnyH_done (by kernel_rfl) ?_ _
    go_wp2_with fail
    go_meet
    case rel =>
     exact ⟨gb0, zr0, rfl, rfl, And.intro HZzr0.out (S34.out)⟩
  case rest =>
   obtain ⟨g7a', z7r0', rfl, rfl, hq⟩ := hcut
   have HZz7r0' := Lib.hid hq.out.1
   obtain ⟨w22, hww, hSS⟩ : ∃ u, u = _ ∧ Sl.Sep W u [L4.boxR W.heap.size 25 (V.cs_Database y0), L4.boxR (W.heap.size + 1) 52 (V.cs_TxQueue y1), QQ, Bag.bag (V.rw_TxQueue z7r0'), L4.boxR g7a' 56 (V.cs_TxQueue z7r0')] := ⟨_, rfl, hq.out.2⟩
   subst hww
   have S28 := Lib.hid hSS
   clear hSS hq S27 HTO0 HTO1
   have S29 := Lib.hid (show Sl.Sep W _ [L4.boxR W.heap.size 25 (V.cs_Database y0), L4.boxR (W.heap.size + 1) 52 (V.cs_TxQueue y1), Bag.bag (V.rw_TxQueue z7r0'), L4.boxR g7a' 56 (V.cs_TxQueue z7r0'), QQ] from Bag.take S28.out [0, 1, 3, 4, 2] (by rfl) (by decide))
   clear S28
   have S30 := Lib.hid (show Sl.Sep W _ [L4.boxR W.heap.size 25 (V.cs_Database y0), L4.boxR (W.heap.size + 1) 52 (V.cs_TxQueue y1), Bag.bag (V.rw_TxQueue z7r0'), L4.boxR g7a' 56 (V.cs_TxQueue z7r0'), Bag.bag (V.rw_TxQueue z1r0'), L4.boxR g1a' 56 (V.cs_TxQueue z1r0'), Bag.bag (V.rw_Database (V.md_Database 1 z2')), L4.boxR g1 33 (V.cs_Database z2'), Bag.bag (V.rw_TxQueue (V.md_TxQueue Ez2' z3')), L4.boxR g2 56 (V.cs_TxQueue z3'), Bag.bag (V.rw_TxQueue (V.md_TxQueue 1 z4r0')), L4.boxR g3 56 (V.cs_TxQueue z4r0')] from (by have h := S29.out; rw [HQQ.out] at h; exact Run.unpackR (us := [L4.boxR W.heap.size 25 (V.cs_Database y0), L4.boxR (W.heap.size + 1) 52 (V.cs_TxQueue y1), Bag.bag (V.rw_TxQueue z7r0'), L4.boxR g7a' 56 (V.cs_TxQueue z7r0')]) (vs := [Bag.bag (V.rw_TxQueue z1r0'), L4.boxR g1a' 56 (V.cs_TxQueue z1r0'), Bag.bag (V.rw_Database (V.md_Database 1 z2')), L4.boxR g1 33 (V.cs_Database z2'), Bag.bag (V.rw_TxQueue (V.md_TxQueue Ez2' z3')), L4.boxR g2 56 (V.cs_TxQueue z3'), Bag.bag (V.rw_TxQueue (V.md_TxQueue 1 z4r0')), L4.boxR g3 56 (V.cs_TxQueue z4r0')]) h))
   clear S29
   clear HQQ QQ
   have f0 := Bag.cs1 S30.out 3 rfl
   have f1 := Bag.cs1 S30.out 5 rfl
   go_wp2_with fail
   go_at_call 25
   have HC := V.eq_TxQueue z7r0' z1r0' (HZz7r0'.out.trans HZz1r0'.out.symm) (by rw [HZz7r0'.out]; exact HFR0.out) _ (Bag.bag_rd S30.out 2 rfl) (Bag.bag_rd S30.out 4 rfl)
   try dsimp only [V.vv_Database, V.vv_TxQueue] at HC
   refine HC.mono ?_
   clear HC
   rintro e w23 ⟨rfl, hb⟩
   clear f0 f1
   have S31 := Lib.hid (S30.out.keep hb)
   clear S30
   clear hb
   have f0 := Bag.cs1 S31.out 11 rfl
   go_wp2_with fail
   go_at_call 27
   have HC := V.held_TxQueue z4r0' 1 (by rw [HZz4r0'.out]; exact HFR0.out) (by omega) (by rw [HEz4r0'.out]; omega) _ (Bag.bag_rd S31.out 10 rfl)
   try dsimp only [V.vv_Database, V.vv_TxQueue] at HC
   rw [HEz4r0'.out] at HC
   refine HC.mono ?_
   clear HC
   rintro e w24 ⟨rfl, hb⟩
   clear f0
   have S32 := Lib.hid (S31.out.keep hb)
   clear S31
   clear hb
   go_wp2_with fail
   go_ret
   exact ⟨rfl, S32.out.old⟩

set_option maxRecDepth 100000 in
theorem lifted (os : Os) (started : os.Started) (H : Type) (enc : TypeId × Value → H) :
  ReturnsInHanded {} Tryz.checked os 5 .any (Rows.fnExactStartTxSpec.pre6 enc Tryz.prog Tryz.f5 Rows.fnExactStartTxRow.domain false) (Rows.fnExactStartTxSpec.post enc Tryz.prog Tryz.f5 false true false false) := by
 refine returnsInHanded_of_change_sized (C := Tryz.checked) own started (by kernel_rfl) Tryz.func5
  (ChangeSpec.witness6 (enc := enc) (C := Tryz.checked) false ⟨#[], #[.agg #[.string ⟨#[]⟩, .int .i64 0, .slice none 0 0, .slice none 0 0], .agg #[.slice none 0 0], .int .i64 0], []⟩ 8 (by kernel_rfl) (by kernel_rfl) (by kernel_rfl) (by kernel_rfl)) ?_
 intro W base args ds gs before hval0 hW _ hsz0 _
 have hval : ∀ (j : Nat) t v, Tryz.f5.params[j]? = some t → args[j]? = some v → Value.okWide Tryz.prog W .any base t v := hval0
 have hW' := hW
 obtain ⟨p, q, hA0, hV, rfl, _, _⟩ := hW
 have hA : DataW.TrodAll enc Tryz.prog W 0 (fun _ => true) true Tryz.f5.params.toList args.toList ds p := hA0
 obtain ⟨rfl, rfl⟩ := trodVars_none hV
 have hlt : ∀ x ∈ p, x.block < W.heap.size := fun x hx => hW'.lt x (by simpa using hx)
 simp only [List.append_nil] at hW'
 have hw := walk H enc W base args ds p hval hA hlt hsz0
 have hA1 := hA
 clear hA0 hval0 hsz0 hval hlt
 rw [Tryz.params5] at hA
 obtain ⟨v0, vs0, d0, ds0, p0, q0, e0, rfl, rfl, h0, hr0⟩ := trodAll_cons hA
 obtain ⟨v1, vs1, d1, ds1, p1, q1, e1, rfl, rfl, h1, hr1⟩ := trodAll_cons hr0
 obtain ⟨v2, vs2, d2, ds2, p2, q2, e2, rfl, rfl, h2, hr2⟩ := trodAll_cons hr1
 obtain ⟨e3, rfl, rfl⟩ := trodAll_nil hr2
 refine hw.mono fun e W' ⟨he, hb⟩ => ?_
 subst he
 exact ⟨_, rfl, Frame.law_post (tb := 4) rfl hW' hA1 rfl rfl rfl laidOut (by kernel_rfl) (by kernel_rfl) Tryz.underlying4 hb⟩

theorem closedFacts : joinedFacts Tryz.pinned.checked.prog 5 Tryz.f5 Rows.fnExactStartTxSpec Rows.fnExactStartTxRow = true := by
 have h1 : Tryz.pinned.checked.prog.mayEnter = true := Closed.mayIn
 have h2 : (Rows.fnExactStartTxRow.lifted == Tryz.pinned.checked.prog.liftsFinal) = true := by
  rw [show Tryz.pinned.checked.prog.liftsFinal = false from Closed.liftsNone]; rfl
 have h3 : (Tryz.pinned.checked.prog.make == some Rows.fnExactStartTxRow.make) = true := by
  rw [show Tryz.pinned.checked.prog.make = some .cut from Closed.makeIs]; rfl
 unfold joinedFacts
 rw [h1, h2, h3]
 change _ = true
 kernel_rfl
theorem holds : Rows.FnExactStartTxSaid :=
 OpenClaim.holds_of_wide 5 Tryz.f5 rfl rfl rfl rfl rfl rfl rfl ⟨rfl, rfl, rfl, rfl, rfl⟩ rfl rfl rfl rfl rfl (by kernel_rfl) Tryz.func5 closedFacts
  (of_decide_eq_true (by kernel_rfl)) (by unfold Func.isWrapper; first | (rw [if_pos (by decide +kernel)]; kernel_rfl) | (rw [if_neg (by decide +kernel)]; exact ⟨rfl, rfl⟩))
  (fun os started H enc _ => lifted os started H enc)

#print axioms holds
end Go.Proofs.YthljdhfgphebnaaGreat.lawFnExactStartTx
