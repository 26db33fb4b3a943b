import Derived.Test.YthljdhfgphebnaaGreatFnExactApplyUpgradeP6
import Derived.Test.YthljdhfgphebnaaGreatClosed
import Derived.JoinedOf
import Derived.SizedLaws
import Derived.LaidLaws
import Derived.ShutString
import Derived.Stop.LaidErr
import Derived.Lib.LaidTab
import Derived.Deep.RegionHeld3
import Derived.Deep.DeepCutAuto
set_option linter.unusedSimpArgs false
namespace Go.Proofs.YthljdhfgphebnaaGreat.lawFnExactApplyUpgrade
open Go.ChangeShapes Go.WideShapes Go.ChangeAt Go.RowKit
open Go.ChangeMaps (open_string shut_string)
theorem own : ownKnob Tryz.prog.godebug = none := by kernel_rfl
theorem laidOut : laidOutB Tryz.prog = true := by kernel_rfl
open Mem Sl Bag
open Go.Proofs.YthljdhfgphebnaaGreat.L5 (cellsF)
set_option maxRecDepth 100000 in
set_option maxHeartbeats 8000000 in
theorem walk (H : Type) (enc : TypeId × Value → H) (W : World) (base : Nat) (args : Array Value) (ds : List (DataW H)) (p : List MemPlace)
  (hval : ∀ (j : Nat) t v, Tryz.f3.params[j]? = some t → args[j]? = some v → Value.okWide Tryz.prog W .any base t v)
  (hA : DataW.TrodAll enc Tryz.prog W 0 (fun _ => true) true Tryz.f3.params.toList args.toList ds p)
  (hlt : ∀ x ∈ p, x.block < W.heap.size)
  (hsz : (DataW.weightsEach Tryz.prog (Tryz.f3.params.toList ++ Rows.fnExactApplyUpgradeSpec.plain.varTypes Tryz.prog) (ds ++ [])).all (· ≤ reachBytes) = true) :
  Calls Tryz.prog 3 args W fun e w' => e = .returned (.bool true) ∧ Below W.heap.size W w' := by
 rw [Tryz.params3] at hA hval hsz
 obtain ⟨v0, vs0, d0, ds0, p0, q0, e0, rfl, rfl, h0, g0⟩ := trodAll_cons hA
 obtain ⟨v1, vs1, d1, ds1, p1, q1, e1, rfl, rfl, h1, g1⟩ := trodAll_cons g0
 obtain ⟨ez, rfl, rfl⟩ := trodAll_nil g1
 subst ez
 subst e1
 obtain rfl : args = #[v0, v1] := Array.toList_inj.1 e0
 clear e0
 obtain ⟨y0, rfl, hR0, hW0⟩ := V.open_Database (hval 0 25 v0 rfl rfl) h0 (fun x hx => hlt x (by simp [hx]))
 obtain ⟨y1, rfl, -, hW1⟩ := V.open_Upgrade (hval 1 27 v1 rfl rfl) h1 (fun x hx => hlt x (by simp [hx]))
 clear hval hA hlt hsz h0 h1
 have HSZ0 := Lib.hid (fun (q : Int) (h0 : -1 ≤ q) (h1 : q ≤ 1048576) (w' : World) (h : Below W.heap.size W w') => (V.sz_Database y0 q hW0 h0 h1 w' ((hR0.below h).more h.size)).mono (R' := fun e w2 => ∃ u : Int, e = .returned (.int .i64 u) ∧ (-1 ≤ u ∧ u ≤ 1048576 ∧ (0 ≤ u → V.wt_Database (V.co_Database y0) ≤ 1048576)) ∧ Below w'.heap.size w' w2) fun e w2 ⟨he, hb⟩ => by obtain ⟨u, hu, hq⟩ := (show ∃ u : Int, V.lft q (V.wt_Database (V.co_Database y0)) = u ∧ (-1 ≤ u ∧ u ≤ 1048576 ∧ (0 ≤ u → V.wt_Database (V.co_Database y0) ≤ 1048576)) from ⟨_, rfl, (V.lft_range _ h1).1, (V.lft_range _ h1).2, fun h3 => (V.lft_small (by omega) h1).1⟩); exact ⟨u, by rw [he, hu], hq, hb⟩)
 have HRY0 := Lib.hid (fun w' (h : Below W.heap.size W w') => ((hR0.below h).more h.size : RowsRd w' w'.heap.size (V.rw_Database y0)))
 clear hR0 hW0
 try dsimp only [V.vv_Database, V.vv_Upgrade] at HSZ0
 have HSZ1 := Lib.hid (fun (q : Int) (h0 : -1 ≤ q) (h1 : q ≤ 1048576) (w' : World) => (V.sz_Upgrade y1 q hW1 h0 h1 w').mono (R' := fun e w2 => ∃ u : Int, e = .returned (.int .i64 u) ∧ (-1 ≤ u ∧ u ≤ 1048576 ∧ (0 ≤ u → V.wt_Upgrade (V.co_Upgrade y1) ≤ 1048576)) ∧ Below w'.heap.size w' w2) fun e w2 ⟨he, hb⟩ => by obtain ⟨u, hu, hq⟩ := (show ∃ u : Int, V.lft q (V.wt_Upgrade (V.co_Upgrade y1)) = u ∧ (-1 ≤ u ∧ u ≤ 1048576 ∧ (0 ≤ u → V.wt_Upgrade (V.co_Upgrade y1) ≤ 1048576)) from ⟨_, rfl, (V.lft_range _ h1).1, (V.lft_range _ h1).2, fun h3 => (V.lft_small (by omega) h1).1⟩); exact ⟨u, by rw [he, hu], hq, hb⟩)
 clear hW1
 try dsimp only [V.vv_Database, V.vv_Upgrade] at HSZ1
 try dsimp only [V.vv_Database, V.vv_Upgrade]
 have S1 := Lib.hid (show Sl.Sep W _ [_, _] from L4.push_box (L4.push_box (Sl.Sep.start W) 25 #[.string y0.f_Name, .int .i64 y0.f_Version, .slice y0.f_Stores_a y0.f_Stores.length y0.f_Stores_c, .slice y0.f_Unique_a y0.f_Unique.length y0.f_Unique_c] (W.heap.size) (by simp)) 27 #[.int .i64 y1.f_Kind, .string y1.f_Store, .string y1.f_Field] (W.heap.size + 1) (by simp))
 obtain ⟨wa, hwa⟩ : ∃ w_, w_ = ((W.alloc (.cells #[.string y0.f_Name, .int .i64 y0.f_Version, .slice y0.f_Stores_a y0.f_Stores.length y0.f_Stores_c, .slice y0.f_Unique_a y0.f_Unique.length y0.f_Unique_c] 25)).alloc (.cells #[.int .i64 y1.f_Kind, .string y1.f_Store, .string y1.f_Field] 27)) := ⟨_, rfl⟩
 rw [← hwa] at S1
 go_enter Tryz.func3, Tryz.ntmps3
 go_upto_region 1 with fail
 rw [← hwa]
 clear hwa
 obtain ⟨f0, f1, f2, f3⟩ := Bag.cs4 S1.out 0 rfl
 go_wp2_with fail
 go_at_call 6
 have HC := HSZ0.out 1048576 (by omega) (by omega) _ S1.out.old
 try dsimp only [V.vv_Database, V.vv_Upgrade] at HC
 refine HC.mono ?_
 clear HC
 rintro e w1 ⟨u0, rfl, ro, hb⟩
 clear f0 f1 f2 f3
 have S2 := Lib.hid (S1.out.keep hb)
 clear S1
 clear hb
 have HRO0 := Lib.hid ro
 have X0 : -1 ≤ u0 ∧ u0 ≤ 1048576 := ⟨ro.1, ro.2.1⟩
 clear ro
 by_cases neg0 : u0 < 0
 ·
  skip
  go_wp2_with fail
  go_ret
  exact ⟨rfl, S2.out.old⟩
 have HF0 := Lib.hid (HRO0.out.2.2 (by omega))
 obtain ⟨f0, f1, f2⟩ := Bag.cs3 S2.out 1 rfl
 go_wp2_with fail
 go_at_call 7
 have HC := HSZ1.out u0 (by omega) (by omega) w1
 try dsimp only [V.vv_Database, V.vv_Upgrade] at HC
 refine HC.mono ?_
 clear HC
 rintro e w2 ⟨u1, rfl, ro, hb⟩
 clear f0 f1 f2
 have S3 := Lib.hid (S2.out.keep hb)
 clear S2
 clear hb
 have HRO1 := Lib.hid ro
 have X1 : -1 ≤ u1 ∧ u1 ≤ 1048576 := ⟨ro.1, ro.2.1⟩
 clear ro
 by_cases neg1 : u1 < 0
 ·
  skip
  go_wp2_with fail
  go_ret
  exact ⟨rfl, S3.out.old⟩
 have HF1 := Lib.hid (HRO1.out.2.2 (by omega))
 obtain ⟨C0, hC0⟩ : ∃ C, V.co_Database y0 = C := ⟨_, rfl⟩
 rw [hC0] at HF0
 have HC0 := Lib.hid hC0
 clear hC0
 have HUW := Lib.hid (show y1.f_Store.size ≤ 281474976710656 ∧ y1.f_Field.size ≤ 281474976710656 from by have h := HF1.out; unfold V.wt_Upgrade V.co_Upgrade at h; omega)
 obtain ⟨r0', hr0'⟩ : ∃ r : V.X_Database, L8.upD C0 y1 = r := ⟨_, rfl⟩
 obtain ⟨r1', hr1'⟩ : ∃ r : Bool, L8.upB C0 y1 = r := ⟨_, rfl⟩
 have Cspec : ∀ (z0 : V.Y_Database), V.co_Database z0 = C0 → ∀ w' : World, RowsRd w' w'.heap.size (V.rw_Database z0) → Calls Tryz.prog 8 #[.agg #[.string z0.f_Name, .int .i64 z0.f_Version, .slice z0.f_Stores_a z0.f_Stores.length z0.f_Stores_c, .slice z0.f_Unique_a z0.f_Unique.length z0.f_Unique_c], .agg #[.int .i64 y1.f_Kind, .string y1.f_Store, .string y1.f_Field]] w' fun e w'' => ∃ (z0 : V.Y_Database), e = .returned (.tuple #[.agg #[.string z0.f_Name, .int .i64 z0.f_Version, .slice z0.f_Stores_a z0.f_Stores.length z0.f_Stores_c, .slice z0.f_Unique_a z0.f_Unique.length z0.f_Unique_c], .bool r1']) ∧ V.co_Database z0 = r0' ∧ BagOwn w'' w'.heap.size ((V.rw_Database z0)) ∧ Below w'.heap.size w' w'' := by
  intro z0 hz0 w' hr0
  have hf0 : V.wt_Database (V.co_Database z0) ≤ 1048576 := by rw [hz0]; exact HF0.out
  have h := L8.specApplyUpgrade_any z0 y1 (L8.fitD_wt hf0) HUW.out.1 HUW.out.2 w' hr0
  rw [hz0, hr0', hr1'] at h
  exact h
 replace Cspec := Lib.hid Cspec
 have Cimpl : ∀ (z0 : V.Y_Database), V.co_Database z0 = C0 → ∀ w' : World, RowsRd w' w'.heap.size (V.rw_Database z0) → Calls Tryz.prog 11 #[.agg #[.string z0.f_Name, .int .i64 z0.f_Version, .slice z0.f_Stores_a z0.f_Stores.length z0.f_Stores_c, .slice z0.f_Unique_a z0.f_Unique.length z0.f_Unique_c], .agg #[.int .i64 y1.f_Kind, .string y1.f_Store, .string y1.f_Field]] w' fun e w'' => ∃ (z0 : V.Y_Database), e = .returned (.tuple #[.agg #[.string z0.f_Name, .int .i64 z0.f_Version, .slice z0.f_Stores_a z0.f_Stores.length z0.f_Stores_c, .slice z0.f_Unique_a z0.f_Unique.length z0.f_Unique_c], .bool r1']) ∧ V.co_Database z0 = r0' ∧ BagOwn w'' w'.heap.size ((V.rw_Database z0)) ∧ Below w'.heap.size w' w'' := by
  intro z0 hz0 w' hr0
  have hf0 : V.wt_Database (V.co_Database z0) ≤ 1048576 := by rw [hz0]; exact HF0.out
  have h := L8.applyUpgrade_any z0 y1 (L8.fitD_wt hf0) HUW.out.1 HUW.out.2 w' hr0
  rw [hz0, hr0', hr1'] at h
  exact h
 replace Cimpl := Lib.hid Cimpl
 have HFR0 := Lib.hid (show V.wt_Database r0' ≤ 1125899906842624 from by rw [← hr0']; exact (by have h1 := L8.wt_up C0 y1; have h2 := HF0.out; have h3 := HUW.out; omega))
 clear hr0' hr1'
 have S4 := Lib.hid (show Sl.Sep W _ [L4.boxR W.heap.size 25 (V.cs_Database y0), L4.boxR (W.heap.size + 1) 27 (V.cs_Upgrade y1)] from Bag.take S3.out [0, 1] (by rfl) (by decide))
 clear S3
 go_upto_region 8 with fail
 have HTO0 := Lib.hid (fun w' (h : Below W.heap.size W w') => V.to_Database y0 (by rw [HC0.out]; exact HF0.out) w' (HRY0.out w' h))
 try dsimp only [V.vv_Database, V.vv_Upgrade] at HTO0
 have HTO1 := Lib.hid (fun w' (h : Below W.heap.size W w') => V.to_Upgrade y1 w')
 try dsimp only [V.vv_Database, V.vv_Upgrade] at HTO1
 go_cut [6, 7] (fun pz0 qs0 wx => ∃ (g1a' : Nat) (z1r0' : V.Y_Database), pz0 = .pointer (some ⟨g1a', 0, none⟩) ∧ qs0 = .bool r1' ∧ Hid (V.co_Database z1r0' = r0' ∧ Sl.Sep W wx [L4.boxR W.heap.size 25 (V.cs_Database y0), L4.boxR (W.heap.size + 1) 27 (V.cs_Upgrade y1), Bag.bag (V.rw_Database z1r0'), L4.boxR g1a' 33 (V.cs_Database z1r0')]))
 case first =>
  refine wp_region_held_drew (S := (fun w' => (w'.cell? ⟨W.heap.size, 0, none⟩ = some (.string y0.f_Name) ∧ w'.cell? ⟨W.heap.size, 1, none⟩ = some (.int .i64 y0.f_Version) ∧ w'.cell? ⟨W.heap.size, 2, none⟩ = some (.slice y0.f_Stores_a y0.f_Stores.length y0.f_Stores_c) ∧ w'.cell? ⟨W.heap.size, 3, none⟩ = some (.slice y0.f_Unique_a y0.f_Unique.length y0.f_Unique_c)) ∧ (w'.cell? ⟨W.heap.size + 1, 0, none⟩ = some (.int .i64 y1.f_Kind) ∧ w'.cell? ⟨W.heap.size + 1, 1, none⟩ = some (.string y1.f_Store) ∧ w'.cell? ⟨W.heap.size + 1, 2, none⟩ = some (.string y1.f_Field)))) (by kernel_rfl) ⟨Bag.cs4 (Bag.drew1 S4.out) 0 rfl, Bag.cs3 (Bag.drew1 S4.out) 1 rfl⟩ (fun hS => ?_)
  have S5 := Lib.hid (Bag.drew1 S4.out)
  clear S4
  generalize World.drew _ = w3 at hS S5 ⊢
  apply share4
  case main =>
   intro hrest
   refine tk 0 rfl ?_
   try simp only [zp0, zp1, zp2, zp3, zp4]
   refine tk 2 rfl ?_
   try simp only [zp0, zp1, zp2, zp3, zp4]
   refine wpAnyH_ready (rs := [1, 8]) (by kernel_rfl) (by simp) ?_
   refine Reg.cons_op (i := 1) rfl (fun K hK => ?_) ?_
   go_simp
   go_at_call 9
   refine (HTO0.out _ S5.out.old).mono ?_
   rintro e w4 ⟨zs0, rfl, hcon, ho, hb⟩
   have S6 := Lib.hid (show Sl.Sep W _ [_, _, Bag.bag (V.rw_Database zs0)] from Bag.push_bag S5.out hb ho)
   clear hb ho
   have HZzs0 := Lib.hid (hcon.trans HC0.out)
   clear hcon
   go_wp2_with fail
   refine hK.out _ _ ⟨Bag.cs4 S6.out 0 rfl, Bag.cs3 S6.out 1 rfl⟩ (fun hS => ?_)
   clear hK K
   try simp only [zp0, zp1, zp2, zp3, zp4]
   refine wpAnyH_ready (rs := [3, 8]) (by kernel_rfl) (by simp) ?_
   refine Reg.cons_op (i := 3) rfl (fun K hK => ?_) ?_
   go_simp
   go_at_call 10
   refine (HTO1.out w4 S6.out.old).mono ?_
   rintro e w5 ⟨rfl, hb⟩
   have S7 := Lib.hid (S6.out.keep hb)
   clear S6
   clear hb
   go_wp2_with fail
   refine hK.out _ _ ⟨Bag.cs4 S7.out 0 rfl, Bag.cs3 S7.out 1 rfl⟩ (fun hS => ?_)
   clear hK K
   try simp only [zp0, zp1, zp2, zp3, zp4]
   refine wpAnyH_ready (rs := [4, 8]) (by kernel_rfl) (by simp) ?_
   refine Reg.cons_op (i := 4) rfl (fun K hK => ?_) ?_
   go_simp
   go_at_call 8
   refine (Cspec.out zs0 HZzs0.out _ (Bag.bag_rd S7.out 2 rfl)).mono ?_
   rintro e w6 ⟨zr0, rfl, hcon0, ho, hb⟩
   have S8 := Lib.hid (show Sl.Sep W _ [L4.boxR W.heap.size 25 (V.cs_Database y0), L4.boxR (W.heap.size + 1) 27 (V.cs_Upgrade y1), Bag.bag (V.rw_Database zs0), Bag.bag (V.rw_Database zr0)] from Bag.push_bag S7.out hb ho)
   clear S7
   clear hb ho
   have HZzr0 := Lib.hid hcon0
   clear hcon0
   go_wp2_with fail
   refine hK.out _ _ ⟨Bag.cs4 S8.out 0 rfl, Bag.cs3 S8.out 1 rfl⟩ (fun hS => ?_)
   clear hK K
   try simp only [zp0, zp1, zp2, zp3, zp4]
   refine tk 5 rfl ?_
   try simp only [zp0, zp1, zp2, zp3, zp4]
   refine tk 6 rfl ?_
   try simp only [zp0, zp1, zp2, zp3, zp4]
   refine tk 7 rfl ?_
   try simp only [zp0, zp1, zp2, zp3, zp4]
   refine Reg.one_op (i := 8) rfl (by kernel_rfl) (fun K hK => ?_)
   go_simp
   have S9 := Lib.hid (show Sl.Sep W _ [_, _, _, _, _] from L4.push_box S8.out 33 #[.string ⟨#[]⟩, .int .i64 0, .slice none 0 0, .slice none 0 0] w6.heap.size rfl)
   clear S8
   obtain ⟨gb0, hg⟩ : ∃ g', g' = w6.heap.size := ⟨_, rfl⟩
   rw [← hg] at S9 ⊢
   clear hg
   generalize w6.alloc (.cells #[.string ⟨#[]⟩, .int .i64 0, .slice none 0 0, .slice none 0 0] 33) = w7 at S9 ⊢
   refine hK.out _ _ ⟨Bag.cs4 S9.out 0 rfl, Bag.cs3 S9.out 1 rfl⟩ (fun hS => ?_)
   clear hK K
   try simp only [zp0, zp1, zp2, zp3, zp4]
   have S10 := Lib.hid (show Sl.Sep W _ [_, _, _, L4.boxR gb0 33 V.cz_Database] from Bag.take S9.out [0, 1, 3, 4] (by rfl) (by decide))
   clear S9
   revert S10
   revert HZzr0
   revert hS
   exact hrest gb0 zr0 zs0 w7
   refine Reg.cons_op (i := 8) rfl (fun K hK => ?_) ?_
   go_simp
   have S8 := Lib.hid (show Sl.Sep W _ [_, _, _, _] from L4.push_box S7.out 33 #[.string ⟨#[]⟩, .int .i64 0, .slice none 0 0, .slice none 0 0] w5.heap.size rfl)
   clear S7
   obtain ⟨gb0, hg⟩ : ∃ g', g' = w5.heap.size := ⟨_, rfl⟩
   rw [← hg] at S8 ⊢
   clear hg
   generalize w5.alloc (.cells #[.string ⟨#[]⟩, .int .i64 0, .slice none 0 0, .slice none 0 0] 33) = w6 at S8 ⊢
   refine hK.out _ _ ⟨Bag.cs4 S8.out 0 rfl, Bag.cs3 S8.out 1 rfl⟩ (fun hS => ?_)
   clear hK K
   try simp only [zp0, zp1, zp2, zp3, zp4]
   refine Reg.one_op (i := 4) rfl (by kernel_rfl) (fun K hK => ?_)
   go_simp
   go_at_call 8
   refine (Cspec.out zs0 HZzs0.out _ (Bag.bag_rd S8.out 2 rfl)).mono ?_
   rintro e w7 ⟨zr0, rfl, hcon0, ho, hb⟩
   have S9 := Lib.hid (show Sl.Sep W _ [_, _, _, L4.boxR gb0 33 V.cz_Database, Bag.bag (V.rw_Database zr0)] from Bag.push_bag S8.out hb ho)
   clear S8
   clear hb ho
   have HZzr0 := Lib.hid hcon0
   clear hcon0
   go_wp2_with fail
   refine hK.out _ _ ⟨Bag.cs4 S9.out 0 rfl, Bag.cs3 S9.out 1 rfl⟩ (fun hS => ?_)
   clear hK K
   try simp only [zp0, zp1, zp2, zp3, zp4]
   refine tk 5 rfl ?_
   try simp only [zp0, zp1, zp2, zp3, zp4]
   refine tk 6 rfl ?_
   try simp only [zp0, zp1, zp2, zp3, zp4]
   refine tk 7 rfl ?_
   try simp only [zp0, zp1, zp2, zp3, zp4]
   have S10 := Lib.hid (show Sl.Sep W _ [_, _, _, _] from Bag.take S9.out [0, 1, 4, 3] (by rfl) (by decide))
   clear S9
   revert S10
   revert HZzr0
   revert hS
   exact hrest gb0 zr0 zs0 w7
   exact AllReadyH.nil
   refine Reg.cons_op (i := 8) rfl (fun K hK => ?_) ?_
   go_simp
   have S7 := Lib.hid (show Sl.Sep W _ [_, _, _, _] from L4.push_box S6.out 33 #[.string ⟨#[]⟩, .int .i64 0, .slice none 0 0, .slice none 0 0] w4.heap.size rfl)
   clear S6
   obtain ⟨gb0, hg⟩ : ∃ g', g' = w4.heap.size := ⟨_, rfl⟩
   rw [← hg] at S7 ⊢
   clear hg
   generalize w4.alloc (.cells #[.string ⟨#[]⟩, .int .i64 0, .slice none 0 0, .slice none 0 0] 33) = w5 at S7 ⊢
   refine hK.out _ _ ⟨Bag.cs4 S7.out 0 rfl, Bag.cs3 S7.out 1 rfl⟩ (fun hS => ?_)
   clear hK K
   try simp only [zp0, zp1, zp2, zp3, zp4]
   refine Reg.one_op (i := 3) rfl (by kernel_rfl) (fun K hK => ?_)
   go_simp
   go_at_call 10
   refine (HTO1.out w5 S7.out.old).mono ?_
   rintro e w6 ⟨rfl, hb⟩
   have S8 := Lib.hid (S7.out.keep hb)
   clear S7
   clear hb
   go_wp2_with fail
   refine hK.out _ _ ⟨Bag.cs4 S8.out 0 rfl, Bag.cs3 S8.out 1 rfl⟩ (fun hS => ?_)
   clear hK K
   try simp only [zp0, zp1, zp2, zp3, zp4]
   refine Reg.one_op (i := 4) rfl (by kernel_rfl) (fun K hK => ?_)
   go_simp
   go_at_call 8
   refine (Cspec.out zs0 HZzs0.out _ (Bag.bag_rd S8.out 2 rfl)).mono ?_
   rintro e w7 ⟨zr0, rfl, hcon0, ho, hb⟩
   have S9 := Lib.hid (show Sl.Sep W _ [_, _, _, L4.boxR gb0 33 V.cz_Database, Bag.bag (V.rw_Database zr0)] from Bag.push_bag S8.out hb ho)
   clear S8
   clear hb ho
   have HZzr0 := Lib.hid hcon0
   clear hcon0
   go_wp2_with fail
   refine hK.out _ _ ⟨Bag.cs4 S9.out 0 rfl, Bag.cs3 S9.out 1 rfl⟩ (fun hS => ?_)
   clear hK K
   try simp only [zp0, zp1, zp2, zp3, zp4]
   refine tk 5 rfl ?_
   try simp only [zp0, zp1, zp2, zp3, zp4]
   refine tk 6 rfl ?_
   try simp only [zp0, zp1, zp2, zp3, zp4]
   refine tk 7 rfl ?_
   try simp only [zp0, zp1, zp2, zp3, zp4]
   have S10 := Lib.hid (show Sl.Sep W _ [_, _, _, _] from Bag.take S9.out [0, 1, 4, 3] (by rfl) (by decide))
   clear S9
   revert S10
   revert HZzr0
   revert hS
   exact hrest gb0 zr0 zs0 w7
   exact AllReadyH.nil
   refine Reg.cons_op (i := 8) rfl (fun K hK => ?_) ?_
   go_simp
   have S6 := Lib.hid (show Sl.Sep W _ [_, _, _] from L4.push_box S5.out 33 #[.string ⟨#[]⟩, .int .i64 0, .slice none 0 0, .slice none 0 0] w3.heap.size rfl)
   obtain ⟨gb0, hg⟩ : ∃ g', g' = w3.heap.size := ⟨_, rfl⟩
   rw [← hg] at S6 ⊢
   clear hg
   generalize w3.alloc (.cells #[.string ⟨#[]⟩, .int .i64 0, .slice none 0 0, .slice none 0 0] 33) = w4 at S6 ⊢
   refine hK.out _ _ ⟨Bag.cs4 S6.out 0 rfl, Bag.cs3 S6.out 1 rfl⟩ (fun hS => ?_)
   clear hK K
   try simp only [zp0, zp1, zp2, zp3, zp4]
   refine Reg.one_op (i := 1) rfl (by kernel_rfl) (fun K hK => ?_)
   go_simp
   go_at_call 9
   refine (HTO0.out _ S6.out.old).mono ?_
   rintro e w5 ⟨zs0, rfl, hcon, ho, hb⟩
   have S7 := Lib.hid (show Sl.Sep W _ [_, _, L4.boxR gb0 33 V.cz_Database, Bag.bag (V.rw_Database zs0)] from Bag.push_bag S6.out hb ho)
   clear S6
   clear hb ho
   have HZzs0 := Lib.hid (hcon.trans HC0.out)
   clear hcon
   go_wp2_with fail
   refine hK.out _ _ ⟨Bag.cs4 S7.out 0 rfl, Bag.cs3 S7.out 1 rfl⟩ (fun hS => ?_)
   clear hK K
   try simp only [zp0, zp1, zp2, zp3, zp4]
   refine Reg.one_op (i := 3) rfl (by kernel_rfl) (fun K hK => ?_)
   go_simp
   go_at_call 10
   refine (HTO1.out w5 S7.out.old).mono ?_
   rintro e w6 ⟨rfl, hb⟩
   have S8 := Lib.hid (S7.out.keep hb)
   clear S7
   clear hb
   go_wp2_with fail
   refine hK.out _ _ ⟨Bag.cs4 S8.out 0 rfl, Bag.cs3 S8.out 1 rfl⟩ (fun hS => ?_)
   clear hK K
   try simp only [zp0, zp1, zp2, zp3, zp4]
   refine Reg.one_op (i := 4) rfl (by kernel_rfl) (fun K hK => ?_)
   go_simp
   go_at_call 8
   refine (Cspec.out zs0 HZzs0.out _ (Bag.bag_rd S8.out 3 rfl)).mono ?_
   rintro e w7 ⟨zr0, rfl, hcon0, ho, hb⟩
   have S9 := Lib.hid (show Sl.Sep W _ [_, _, L4.boxR gb0 33 V.cz_Database, Bag.bag (V.rw_Database zs0), Bag.bag (V.rw_Database zr0)] from Bag.push_bag S8.out hb ho)
   clear S8
   clear hb ho
   have HZzr0 := Lib.hid hcon0
   clear hcon0
   go_wp2_with fail
   refine hK.out _ _ ⟨Bag.cs4 S9.out 0 rfl, Bag.cs3 S9.out 1 rfl⟩ (fun hS => ?_)
   clear hK K
   try simp only [zp0, zp1, zp2, zp3, zp4]
   refine tk 5 rfl ?_
   try simp only [zp0, zp1, zp2, zp3, zp4]
   refine tk 6 rfl ?_
   try simp only [zp0, zp1, zp2, zp3, zp4]
   refine tk 7 rfl ?_
   try simp only [zp0, zp1, zp2, zp3, zp4]
   have S10 := Lib.hid (show Sl.Sep W _ [_, _, _, _] from Bag.take S9.out [0, 1, 4, 2] (by rfl) (by decide))
   clear S9
   revert S10
   revert HZzr0
   revert hS
   exact hrest gb0 zr0 zs0 w7
   exact AllReadyH.nil
  case pf =>
   intro gb0 zr0 zs0 w7 hS HZzr0 S10
   refine Reg.one_op (i := 9) rfl (by kernel_rfl) (fun K hK => ?_)
   obtain ⟨f0, f1, f2, f3⟩ := Bag.cs4 S10.out 3 rfl
   obtain ⟨z0, z1, z2, z3⟩ := Bag.fs4 S10.out 3 rfl
   go_simp
   clear f0 f1 f2 f3 z0 z1 z2 z3
   have S11 := Lib.hid (show Sl.Sep W _ [_, _, _, L4.boxR gb0 33 (V.cs_Database zr0)] from L5.put_box5 (L5.put_box5 (L5.put_box5 (L5.put_box5 (S10.out) 3 rfl 0 (.string zr0.f_Name)) 3 rfl 1 (.int .i64 zr0.f_Version)) 3 rfl 2 (.slice zr0.f_Stores_a zr0.f_Stores.length zr0.f_Stores_c)) 3 rfl 3 (.slice zr0.f_Unique_a zr0.f_Unique.length zr0.f_Unique_c))
   clear S10
   refine hK.out _ _ ⟨Bag.cs4 S11.out 0 rfl, Bag.cs3 S11.out 1 rfl⟩ (fun hS => ?_)
   clear hK K
   try simp only [zp0, zp1, zp2, zp3, zp4]
   refine tk 10 rfl ?_
   try simp only [zp0, zp1, zp2, zp3, zp4]
   refine wpAnyH_done (by kernel_rfl) ?_ _
   go_wp2_with fail
   go_meet
   case rel =>
    exact ⟨gb0, zr0, rfl, rfl, And.intro HZzr0.out (S11.out)⟩
 case rest =>
  obtain ⟨g1a', z1r0', rfl, rfl, hq⟩ := hcut
  have HZz1r0' := Lib.hid hq.out.1
  obtain ⟨w3, hww, hSS⟩ : ∃ u, u = _ ∧ Sl.Sep W u [L4.boxR W.heap.size 25 (V.cs_Database y0), L4.boxR (W.heap.size + 1) 27 (V.cs_Upgrade y1), Bag.bag (V.rw_Database z1r0'), L4.boxR g1a' 33 (V.cs_Database z1r0')] := ⟨_, rfl, hq.out.2⟩
  subst hww
  have S5 := Lib.hid hSS
  clear hSS hq S4 HTO0 HTO1
  obtain ⟨f0, f1, f2, f3⟩ := Bag.cs4 S5.out 0 rfl
  go_wp2_with fail
  go_at_call 9
  have HC := V.to_Database y0 (by rw [HC0.out]; exact HF0.out) _ (HRY0.out _ S5.out.old)
  try dsimp only [V.vv_Database, V.vv_Upgrade] at HC
  refine HC.mono ?_
  clear HC
  rintro e w4 ⟨z2', rfl, hcon, ho, hb⟩
  clear f0 f1 f2 f3
  have S6 := Lib.hid (show Sl.Sep W _ [_, _, Bag.bag (V.rw_Database z1r0'), L4.boxR g1a' 33 (V.cs_Database z1r0'), Bag.bag (V.rw_Database z2')] from Bag.push_bag S5.out hb ho)
  clear S5
  clear hb ho
  have HZz2' := Lib.hid (hcon.trans HC0.out)
  clear hcon
  try dsimp only [V.vv_Database, V.vv_Upgrade]
  go_upto_region 10 with fail
  have S7 := Lib.hid (show Sl.Sep W _ [_, _, _, _, _, _] from L4.push_box S6.out 33 #[.string z2'.f_Name, .int .i64 z2'.f_Version, .slice z2'.f_Stores_a z2'.f_Stores.length z2'.f_Stores_c, .slice z2'.f_Unique_a z2'.f_Unique.length z2'.f_Unique_c] w4.heap.size rfl)
  clear S6
  obtain ⟨g1, hg⟩ : ∃ g', g' = w4.heap.size := ⟨_, rfl⟩
  rw [← hg] at S7 ⊢
  clear hg
  generalize w4.alloc (.cells #[.string z2'.f_Name, .int .i64 z2'.f_Version, .slice z2'.f_Stores_a z2'.f_Stores.length z2'.f_Stores_c, .slice z2'.f_Unique_a z2'.f_Unique.length z2'.f_Unique_c] 33) = w5 at S7 ⊢
  have S8 := Lib.hid (show Sl.Sep W _ [_, _, L4.boxR g1 33 (V.cs_Database z2'), _, _, _] from Bag.take S7.out [1, 4, 5, 0, 2, 3] (by rfl) (by decide))
  clear S7
  have S9 := Lib.hid (show Sl.Sep W _ [L4.boxR (W.heap.size + 1) 27 (V.cs_Upgrade y1), Bag.bag (V.rw_Database z2'), L4.boxR g1 33 (V.cs_Database z2'), Run.allR [L4.boxR W.heap.size 25 (V.cs_Database y0), Bag.bag (V.rw_Database z1r0'), L4.boxR g1a' 33 (V.cs_Database z1r0')]] from Run.packR (us := [L4.boxR (W.heap.size + 1) 27 (V.cs_Upgrade y1), Bag.bag (V.rw_Database z2'), L4.boxR g1 33 (V.cs_Database z2')]) (vs := [L4.boxR W.heap.size 25 (V.cs_Database y0), Bag.bag (V.rw_Database z1r0'), L4.boxR g1a' 33 (V.cs_Database z1r0')]) S8.out)
  clear S8
  obtain ⟨QQ, hQQ⟩ : ∃ Q, Q = Run.allR [L4.boxR W.heap.size 25 (V.cs_Database y0), Bag.bag (V.rw_Database z1r0'), L4.boxR g1a' 33 (V.cs_Database z1r0')] := ⟨_, rfl⟩
  rw [← hQQ] at S9
  have HQQ := Lib.hid hQQ
  clear hQQ
  go_upto_region 10 with fail
  have HTO0 := Lib.hid (fun w' (h : Below W.heap.size W w') => V.to_Upgrade y1 w')
  try dsimp only [V.vv_Database, V.vv_Upgrade] at HTO0
  go_cut [9, 10] (fun pz0 qs0 wx => ∃ (g3a' : Nat) (z3r0' : V.Y_Database), pz0 = .pointer (some ⟨g3a', 0, none⟩) ∧ qs0 = .bool r1' ∧ Hid (V.co_Database z3r0' = r0' ∧ Sl.Sep W wx [L4.boxR (W.heap.size + 1) 27 (V.cs_Upgrade y1), Bag.bag (V.rw_Database z2'), L4.boxR g1 33 (V.cs_Database z2'), QQ, Bag.bag (V.rw_Database z3r0'), L4.boxR g3a' 33 (V.cs_Database z3r0')]))
  case first =>
   refine wp_region_held_drew (S := (fun w' => (w'.cell? ⟨W.heap.size + 1, 0, none⟩ = some (.int .i64 y1.f_Kind) ∧ w'.cell? ⟨W.heap.size + 1, 1, none⟩ = some (.string y1.f_Store) ∧ w'.cell? ⟨W.heap.size + 1, 2, none⟩ = some (.string y1.f_Field)) ∧ (w'.cell? ⟨g1, 0, none⟩ = some (.string z2'.f_Name) ∧ w'.cell? ⟨g1, 1, none⟩ = some (.int .i64 z2'.f_Version) ∧ w'.cell? ⟨g1, 2, none⟩ = some (.slice z2'.f_Stores_a z2'.f_Stores.length z2'.f_Stores_c) ∧ w'.cell? ⟨g1, 3, none⟩ = some (.slice z2'.f_Unique_a z2'.f_Unique.length z2'.f_Unique_c)))) (by kernel_rfl) ⟨Bag.cs3 (Bag.drew1 S9.out) 0 rfl, Bag.cs4 (Bag.drew1 S9.out) 2 rfl⟩ (fun hS => ?_)
   have S10 := Lib.hid (Bag.drew1 S9.out)
   clear S9
   generalize World.drew _ = w6 at hS S10 ⊢
   apply share3
   case main =>
    intro hrest
    refine tk 0 rfl ?_
    try simp only [zp0, zp1, zp2, zp3, zp4]
    refine tk 1 rfl ?_
    try simp only [zp0, zp1, zp2, zp3, zp4]
    refine wpAnyH_ready (rs := [2, 7]) (by kernel_rfl) (by simp) ?_
    refine Reg.cons_op (i := 2) rfl (fun K hK => ?_) ?_
    go_simp
    go_at_call 10
    refine (HTO0.out w6 S10.out.old).mono ?_
    rintro e w7 ⟨rfl, hb⟩
    have S11 := Lib.hid (S10.out.keep hb)
    clear hb
    go_wp2_with fail
    refine hK.out _ _ ⟨Bag.cs3 S11.out 0 rfl, Bag.cs4 S11.out 2 rfl⟩ (fun hS => ?_)
    clear hK K
    try simp only [zp0, zp1, zp2, zp3, zp4]
    refine wpAnyH_ready (rs := [3, 7]) (by kernel_rfl) (by simp) ?_
    refine Reg.cons_op (i := 3) rfl (fun K hK => ?_) ?_
    go_simp
    go_at_call 11
    refine (Cimpl.out z2' HZz2'.out _ (Bag.bag_rd S11.out 1 rfl)).mono ?_
    rintro e w8 ⟨zr0, rfl, hcon0, ho, hb⟩
    have S12 := Lib.hid (show Sl.Sep W _ [L4.boxR (W.heap.size + 1) 27 (V.cs_Upgrade y1), Bag.bag (V.rw_Database z2'), L4.boxR g1 33 (V.cs_Database z2'), QQ, Bag.bag (V.rw_Database zr0)] from Bag.push_bag S11.out hb ho)
    clear S11
    clear hb ho
    have HZzr0 := Lib.hid hcon0
    clear hcon0
    go_wp2_with fail
    refine hK.out _ _ ⟨Bag.cs3 S12.out 0 rfl, Bag.cs4 S12.out 2 rfl⟩ (fun hS => ?_)
    clear hK K
    try simp only [zp0, zp1, zp2, zp3, zp4]
    refine tk 4 rfl ?_
    try simp only [zp0, zp1, zp2, zp3, zp4]
    refine tk 5 rfl ?_
    try simp only [zp0, zp1, zp2, zp3, zp4]
    refine tk 6 rfl ?_
    try simp only [zp0, zp1, zp2, zp3, zp4]
    refine Reg.one_op (i := 7) rfl (by kernel_rfl) (fun K hK => ?_)
    go_simp
    have S13 := Lib.hid (show Sl.Sep W _ [_, _, _, _, _, _] from L4.push_box S12.out 33 #[.string ⟨#[]⟩, .int .i64 0, .slice none 0 0, .slice none 0 0] w8.heap.size rfl)
    clear S12
    obtain ⟨gb0, hg⟩ : ∃ g', g' = w8.heap.size := ⟨_, rfl⟩
    rw [← hg] at S13 ⊢
    clear hg
    generalize w8.alloc (.cells #[.string ⟨#[]⟩, .int .i64 0, .slice none 0 0, .slice none 0 0] 33) = w9 at S13 ⊢
    refine hK.out _ _ ⟨Bag.cs3 S13.out 0 rfl, Bag.cs4 S13.out 2 rfl⟩ (fun hS => ?_)
    clear hK K
    try simp only [zp0, zp1, zp2, zp3, zp4]
    have S14 := Lib.hid (show Sl.Sep W _ [_, _, _, QQ, _, L4.boxR gb0 33 V.cz_Database] from Bag.take S13.out [0, 1, 2, 3, 4, 5] (by rfl) (by decide))
    clear S13
    revert S14
    revert HZzr0
    revert hS
    exact hrest gb0 zr0 w9
    refine Reg.cons_op (i := 7) rfl (fun K hK => ?_) ?_
    go_simp
    have S12 := Lib.hid (show Sl.Sep W _ [_, _, _, _, _] from L4.push_box S11.out 33 #[.string ⟨#[]⟩, .int .i64 0, .slice none 0 0, .slice none 0 0] w7.heap.size rfl)
    clear S11
    obtain ⟨gb0, hg⟩ : ∃ g', g' = w7.heap.size := ⟨_, rfl⟩
    rw [← hg] at S12 ⊢
    clear hg
    generalize w7.alloc (.cells #[.string ⟨#[]⟩, .int .i64 0, .slice none 0 0, .slice none 0 0] 33) = w8 at S12 ⊢
    refine hK.out _ _ ⟨Bag.cs3 S12.out 0 rfl, Bag.cs4 S12.out 2 rfl⟩ (fun hS => ?_)
    clear hK K
    try simp only [zp0, zp1, zp2, zp3, zp4]
    refine Reg.one_op (i := 3) rfl (by kernel_rfl) (fun K hK => ?_)
    go_simp
    go_at_call 11
    refine (Cimpl.out z2' HZz2'.out _ (Bag.bag_rd S12.out 1 rfl)).mono ?_
    rintro e w9 ⟨zr0, rfl, hcon0, ho, hb⟩
    have S13 := Lib.hid (show Sl.Sep W _ [_, _, _, QQ, L4.boxR gb0 33 V.cz_Database, Bag.bag (V.rw_Database zr0)] from Bag.push_bag S12.out hb ho)
    clear S12
    clear hb ho
    have HZzr0 := Lib.hid hcon0
    clear hcon0
    go_wp2_with fail
    refine hK.out _ _ ⟨Bag.cs3 S13.out 0 rfl, Bag.cs4 S13.out 2 rfl⟩ (fun hS => ?_)
    clear hK K
    try simp only [zp0, zp1, zp2, zp3, zp4]
    refine tk 4 rfl ?_
    try simp only [zp0, zp1, zp2, zp3, zp4]
    refine tk 5 rfl ?_
    try simp only [zp0, zp1, zp2, zp3, zp4]
    refine tk 6 rfl ?_
    try simp only [zp0, zp1, zp2, zp3, zp4]
    have S14 := Lib.hid (show Sl.Sep W _ [_, _, _, QQ, _, _] from Bag.take S13.out [0, 1, 2, 3, 5, 4] (by rfl) (by decide))
    clear S13
    revert S14
    revert HZzr0
    revert hS
    exact hrest gb0 zr0 w9
    exact AllReadyH.nil
    refine Reg.cons_op (i := 7) rfl (fun K hK => ?_) ?_
    go_simp
    have S11 := Lib.hid (show Sl.Sep W _ [_, _, _, _, _] from L4.push_box S10.out 33 #[.string ⟨#[]⟩, .int .i64 0, .slice none 0 0, .slice none 0 0] w6.heap.size rfl)
    obtain ⟨gb0, hg⟩ : ∃ g', g' = w6.heap.size := ⟨_, rfl⟩
    rw [← hg] at S11 ⊢
    clear hg
    generalize w6.alloc (.cells #[.string ⟨#[]⟩, .int .i64 0, .slice none 0 0, .slice none 0 0] 33) = w7 at S11 ⊢
    refine hK.out _ _ ⟨Bag.cs3 S11.out 0 rfl, Bag.cs4 S11.out 2 rfl⟩ (fun hS => ?_)
    clear hK K
    try simp only [zp0, zp1, zp2, zp3, zp4]
    refine Reg.one_op (i := 2) rfl (by kernel_rfl) (fun K hK => ?_)
    go_simp
    go_at_call 10
    refine (HTO0.out w7 S11.out.old).mono ?_
    rintro e w8 ⟨rfl, hb⟩
    have S12 := Lib.hid (S11.out.keep hb)
    clear S11
    clear hb
    go_wp2_with fail
    refine hK.out _ _ ⟨Bag.cs3 S12.out 0 rfl, Bag.cs4 S12.out 2 rfl⟩ (fun hS => ?_)
    clear hK K
    try simp only [zp0, zp1, zp2, zp3, zp4]
    refine Reg.one_op (i := 3) rfl (by kernel_rfl) (fun K hK => ?_)
    go_simp
    go_at_call 11
    refine (Cimpl.out z2' HZz2'.out _ (Bag.bag_rd S12.out 1 rfl)).mono ?_
    rintro e w9 ⟨zr0, rfl, hcon0, ho, hb⟩
    have S13 := Lib.hid (show Sl.Sep W _ [_, _, _, QQ, L4.boxR gb0 33 V.cz_Database, Bag.bag (V.rw_Database zr0)] from Bag.push_bag S12.out hb ho)
    clear S12
    clear hb ho
    have HZzr0 := Lib.hid hcon0
    clear hcon0
    go_wp2_with fail
    refine hK.out _ _ ⟨Bag.cs3 S13.out 0 rfl, Bag.cs4 S13.out 2 rfl⟩ (fun hS => ?_)
    clear hK K
    try simp only [zp0, zp1, zp2, zp3, zp4]
    refine tk 4 rfl ?_
    try simp only [zp0, zp1, zp2, zp3, zp4]
    refine tk 5 rfl ?_
    try simp only [zp0, zp1, zp2, zp3, zp4]
    refine tk 6 rfl ?_
    try simp only [zp0, zp1, zp2, zp3, zp4]
    have S14 := Lib.hid (show Sl.Sep W _ [_, _, _, QQ, _, _] from Bag.take S13.out [0, 1, 2, 3, 5, 4] (by rfl) (by decide))
    clear S13
    revert S14
    revert HZzr0
    revert hS
    exact hrest gb0 zr0 w9
    exact AllReadyH.nil
   case pf =>
    intro gb0 zr0 w9 hS HZzr0 S14
    refine Reg.one_op (i := 8) rfl (by kernel_rfl) (fun K hK => ?_)
    obtain ⟨f0, f1, f2, f3⟩ := Bag.cs4 S14.out 5 rfl
    obtain ⟨z0, z1, z2, z3⟩ := Bag.fs4 S14.out 5 rfl
    go_simp
    clear f0 f1 f2 f3 z0 z1 z2 z3
    have S15 := Lib.hid (show Sl.Sep W _ [_, _, _, QQ, _, L4.boxR gb0 33 (V.cs_Database zr0)] from L5.put_box5 (L5.put_box5 (L5.put_box5 (L5.put_box5 (S14.out) 5 rfl 0 (.string zr0.f_Name)) 5 rfl 1 (.int .i64 zr0.f_Version)) 5 rfl 2 (.slice zr0.f_Stores_a zr0.f_Stores.length zr0.f_Stores_c)) 5 rfl 3 (.slice zr0.f_Unique_a zr0.f_Unique.length zr0.f_Unique_c))
    clear S14
    refine hK.out _ _ ⟨Bag.cs3 S15.out 0 rfl, Bag.cs4 S15.out 2 rfl⟩ (fun hS => ?_)
    clear hK K
    try simp only [zp0, zp1, zp2, zp3, zp4]
    refine tk 9 rfl ?_
    try simp only [zp0, zp1, zp2, zp3, zp4]
    refine wpAnyH_done (by kernel_rfl) ?_ _
    go_wp2_with fail
    go_meet
    case rel =>
     exact ⟨gb0, zr0, rfl, rfl, And.intro HZzr0.out (S15.out)⟩
  case rest =>
   obtain ⟨g3a', z3r0', rfl, rfl, hq⟩ := hcut
   have HZz3r0' := Lib.hid hq.out.1
   obtain ⟨w6, hww, hSS⟩ : ∃ u, u = _ ∧ Sl.Sep W u [L4.boxR (W.heap.size + 1) 27 (V.cs_Upgrade y1), Bag.bag (V.rw_Database z2'), L4.boxR g1 33 (V.cs_Database z2'), QQ, Bag.bag (V.rw_Database z3r0'), L4.boxR g3a' 33 (V.cs_Database z3r0')] := ⟨_, rfl, hq.out.2⟩
   subst hww
   have S10 := Lib.hid hSS
   clear hSS hq S9 HTO0
   have S11 := Lib.hid (show Sl.Sep W _ [L4.boxR (W.heap.size + 1) 27 (V.cs_Upgrade y1), Bag.bag (V.rw_Database z2'), L4.boxR g1 33 (V.cs_Database z2'), Bag.bag (V.rw_Database z3r0'), L4.boxR g3a' 33 (V.cs_Database z3r0'), QQ] from Bag.take S10.out [0, 1, 2, 4, 5, 3] (by rfl) (by decide))
   clear S10
   have S12 := Lib.hid (show Sl.Sep W _ [L4.boxR (W.heap.size + 1) 27 (V.cs_Upgrade y1), Bag.bag (V.rw_Database z2'), L4.boxR g1 33 (V.cs_Database z2'), Bag.bag (V.rw_Database z3r0'), L4.boxR g3a' 33 (V.cs_Database z3r0'), L4.boxR W.heap.size 25 (V.cs_Database y0), Bag.bag (V.rw_Database z1r0'), L4.boxR g1a' 33 (V.cs_Database z1r0')] from (by have h := S11.out; rw [HQQ.out] at h; exact Run.unpackR (us := [L4.boxR (W.heap.size + 1) 27 (V.cs_Upgrade y1), Bag.bag (V.rw_Database z2'), L4.boxR g1 33 (V.cs_Database z2'), Bag.bag (V.rw_Database z3r0'), L4.boxR g3a' 33 (V.cs_Database z3r0')]) (vs := [L4.boxR W.heap.size 25 (V.cs_Database y0), Bag.bag (V.rw_Database z1r0'), L4.boxR g1a' 33 (V.cs_Database z1r0')]) h))
   clear S11
   clear HQQ QQ
   obtain ⟨f0, f1, f2, f3⟩ := Bag.cs4 S12.out 4 rfl
   obtain ⟨f4, f5, f6, f7⟩ := Bag.cs4 S12.out 7 rfl
   go_wp2_with fail
   go_at_call 12
   have HC := V.eq_Database z3r0' z1r0' (HZz3r0'.out.trans HZz1r0'.out.symm) (by rw [HZz3r0'.out]; exact HFR0.out) _ (Bag.bag_rd S12.out 3 rfl) (Bag.bag_rd S12.out 6 rfl)
   try dsimp only [V.vv_Database, V.vv_Upgrade] at HC
   refine HC.mono ?_
   clear HC
   rintro e w7 ⟨rfl, hb⟩
   clear f0 f1 f2 f3 f4 f5 f6 f7
   have S13 := Lib.hid (S12.out.keep hb)
   clear S12
   clear hb
   go_upto_region 13 with fail
   refine wp_region_held_drew (S := (fun w' => (w'.cell? ⟨g1, 0, none⟩ = some (.string z2'.f_Name) ∧ w'.cell? ⟨g1, 1, none⟩ = some (.int .i64 z2'.f_Version) ∧ w'.cell? ⟨g1, 2, none⟩ = some (.slice z2'.f_Stores_a z2'.f_Stores.length z2'.f_Stores_c) ∧ w'.cell? ⟨g1, 3, none⟩ = some (.slice z2'.f_Unique_a z2'.f_Unique.length z2'.f_Unique_c)) ∧ (w'.cell? ⟨W.heap.size, 0, none⟩ = some (.string y0.f_Name) ∧ w'.cell? ⟨W.heap.size, 1, none⟩ = some (.int .i64 y0.f_Version) ∧ w'.cell? ⟨W.heap.size, 2, none⟩ = some (.slice y0.f_Stores_a y0.f_Stores.length y0.f_Stores_c) ∧ w'.cell? ⟨W.heap.size, 3, none⟩ = some (.slice y0.f_Unique_a y0.f_Unique.length y0.f_Unique_c)))) (by kernel_rfl) ⟨Bag.cs4 (Bag.drew1 S13.out) 2 rfl, Bag.cs4 (Bag.drew1 S13.out) 5 rfl⟩ (fun hS => ?_)
   have S14 := Lib.hid (Bag.drew1 S13.out)
   clear S13
   generalize World.drew _ = w8 at hS S14 ⊢
   refine tk 0 rfl ?_
   try simp only [zp0, zp1, zp2, zp3, zp4]
   refine tk 1 rfl ?_
   try simp only [zp0, zp1, zp2, zp3, zp4]
   refine Reg.one_op (i := 2) rfl (by kernel_rfl) (fun K hK => ?_)
   go_simp
   go_at_call 9
   have HC := V.to_Database y0 (by rw [HC0.out]; exact HF0.out) _ (HRY0.out _ S14.out.old)
   try dsimp only [V.vv_Database, V.vv_Upgrade] at HC
   refine HC.mono ?_
   clear HC
   rintro e w9 ⟨z4', rfl, hcon, ho, hb⟩
   have S15 := Lib.hid (show Sl.Sep W _ [_, _, _, _, _, _, _, _, Bag.bag (V.rw_Database z4')] from Bag.push_bag S14.out hb ho)
   clear S14
   clear hb ho
   have HZz4' := Lib.hid (hcon.trans HC0.out)
   clear hcon
   try dsimp only [V.vv_Database, V.vv_Upgrade]
   go_wp2_with fail
   refine hK.out _ _ ⟨Bag.cs4 S15.out 2 rfl, Bag.cs4 S15.out 5 rfl⟩ (fun hS => ?_)
   clear hK K
   try simp only [zp0, zp1, zp2, zp3, zp4]
   refine Reg.one_op (i := 3) rfl (by kernel_rfl) (fun K hK => ?_)
   go_simp
   go_at_call 12
   have HC := V.eq_Database z2' z4' (HZz2'.out.trans HZz4'.out.symm) (by rw [HZz2'.out]; exact (Nat.le_trans HF0.out (by decide : (1048576 : Nat) ≤ 1125899906842624))) _ (Bag.bag_rd S15.out 1 rfl) (Bag.bag_rd S15.out 8 rfl)
   try dsimp only [V.vv_Database, V.vv_Upgrade] at HC
   refine HC.mono ?_
   clear HC
   rintro e w10 ⟨rfl, hb⟩
   have S16 := Lib.hid (S15.out.keep hb)
   clear S15
   clear hb
   go_wp2_with fail
   refine hK.out _ _ ⟨Bag.cs4 S16.out 2 rfl, Bag.cs4 S16.out 5 rfl⟩ (fun hS => ?_)
   clear hK K
   try simp only [zp0, zp1, zp2, zp3, zp4]
   refine tk 4 rfl ?_
   try simp only [zp0, zp1, zp2, zp3, zp4]
   refine wpAnyH_done (by kernel_rfl) ?_ _
   obtain ⟨f0, f1, f2⟩ := Bag.cs3 S16.out 0 rfl
   obtain ⟨f3, f4, f5, f6⟩ := Bag.cs4 S16.out 2 rfl
   obtain ⟨f7, f8, f9, f10⟩ := Bag.cs4 S16.out 4 rfl
   obtain ⟨f11, f12, f13, f14⟩ := Bag.cs4 S16.out 5 rfl
   obtain ⟨f15, f16, f17, f18⟩ := Bag.cs4 S16.out 7 rfl
   have S17 := Lib.hid (show Sl.Sep W _ [L4.boxR (W.heap.size + 1) 27 (V.cs_Upgrade y1), Bag.bag (V.rw_Database z2'), L4.boxR g1 33 (V.cs_Database z2'), Bag.bag (V.rw_Database z3r0'), L4.boxR g3a' 33 (V.cs_Database z3r0'), L4.boxR W.heap.size 25 (V.cs_Database y0), Bag.bag (V.rw_Database z1r0'), L4.boxR g1a' 33 (V.cs_Database z1r0')] from Bag.take S16.out [0, 1, 2, 3, 4, 5, 6, 7] (by rfl) (by decide))
   clear S16
   obtain ⟨Ez2', hE⟩ : ∃ E, (1 : Int) + (V.ct_Database z2' : Int) = E := ⟨_, rfl⟩
   have hEb := V.ctS_Database z2'
   have hEc : V.wt_Database (V.co_Database z2') ≤ 1125899906842624 := (by rw [HZz2'.out]; exact (Nat.le_trans HF0.out (by decide : (1048576 : Nat) ≤ 1125899906842624)))
   have hEb0 : 1 ≤ Ez2' := by omega
   have hEb1 : Ez2' ≤ 1 + 72057594037928000 := by omega
   clear hEc
   have hEb2 : 0 < Ez2' := by omega
   have hEb3 : ¬ Ez2' < 0 := by omega
   have HEz2' := Lib.hid hE
   clear hE hEb
   clear f0 f1 f2 f3 f4 f5 f6 f7 f8 f9 f10 f11 f12 f13 f14 f15 f16 f17 f18
   obtain ⟨f0, f1, f2, f3⟩ := Bag.cs4 S17.out 2 rfl
   go_wp2_with fail
   go_at_call 13
   have HC := V.mark_Database S17.out 1 (z := z2') rfl 1 (by rw [HZz2'.out]; exact (Nat.le_trans HF0.out (by decide : (1048576 : Nat) ≤ 1125899906842624))) (by omega) (by rw [HEz2'.out]; omega)
   try dsimp only [V.vv_Database, V.vv_Upgrade] at HC
   rw [HEz2'.out] at HC
   refine HC.mono ?_
   clear HC
   rintro e w11 ⟨rfl, hS⟩
   clear f0 f1 f2 f3
   have S18 := Lib.hid (show Sl.Sep W _ [_, Bag.bag (V.rw_Database (V.md_Database 1 z2')), _, _, _, _, _, _] from hS)
   clear S17
   clear hS
   obtain ⟨f0, f1, f2, f3⟩ := Bag.cs4 S18.out 4 rfl
   obtain ⟨f4, f5, f6, f7⟩ := Bag.cs4 S18.out 7 rfl
   go_wp2_with fail
   go_at_call 12
   have HC := V.eq_Database z3r0' z1r0' (HZz3r0'.out.trans HZz1r0'.out.symm) (by rw [HZz3r0'.out]; exact HFR0.out) _ (Bag.bag_rd S18.out 3 rfl) (Bag.bag_rd S18.out 6 rfl)
   try dsimp only [V.vv_Database, V.vv_Upgrade] at HC
   refine HC.mono ?_
   clear HC
   rintro e w12 ⟨rfl, hb⟩
   clear f0 f1 f2 f3 f4 f5 f6 f7
   have S19 := Lib.hid (S18.out.keep hb)
   clear S18
   clear hb
   obtain ⟨Ez3r0', hE⟩ : ∃ E, (1 : Int) + (V.ct_Database z3r0' : Int) = E := ⟨_, rfl⟩
   have hEb := V.ctS_Database z3r0'
   have hEc : V.wt_Database (V.co_Database z3r0') ≤ 1125899906842624 := (by rw [HZz3r0'.out]; exact HFR0.out)
   have hEb0 : 1 ≤ Ez3r0' := by omega
   have hEb1 : Ez3r0' ≤ 1 + 72057594037928000 := by omega
   clear hEc
   have hEb2 : 0 < Ez3r0' := by omega
   have hEb3 : ¬ Ez3r0' < 0 := by omega
   have HEz3r0' := Lib.hid hE
   clear hE hEb
   obtain ⟨f0, f1, f2, f3⟩ := Bag.cs4 S19.out 4 rfl
   go_wp2_with fail
   go_at_call 13
   have HC := V.mark_Database S19.out 3 (z := z3r0') rfl 1 (by rw [HZz3r0'.out]; exact HFR0.out) (by omega) (by rw [HEz3r0'.out]; omega)
   try dsimp only [V.vv_Database, V.vv_Upgrade] at HC
   rw [HEz3r0'.out] at HC
   refine HC.mono ?_
   clear HC
   rintro e w13 ⟨rfl, hS⟩
   clear f0 f1 f2 f3
   have S20 := Lib.hid (show Sl.Sep W _ [_, _, _, Bag.bag (V.rw_Database (V.md_Database 1 z3r0')), _, _, _, _] from hS)
   clear S19
   clear hS
   obtain ⟨f0, f1, f2, f3⟩ := Bag.cs4 S20.out 4 rfl
   go_wp2_with fail
   go_at_call 14
   have HC := V.held_Database z3r0' 1 (by rw [HZz3r0'.out]; exact HFR0.out) (by omega) (by rw [HEz3r0'.out]; omega) _ (Bag.bag_rd S20.out 3 rfl)
   try dsimp only [V.vv_Database, V.vv_Upgrade] at HC
   rw [HEz3r0'.out] at HC
   refine HC.mono ?_
   clear HC
   rintro e w14 ⟨rfl, hb⟩
   clear f0 f1 f2 f3
   have S21 := Lib.hid (S20.out.keep hb)
   clear S20
   clear hb
   have S22 := Lib.hid (show Sl.Sep W _ [L4.boxR (W.heap.size + 1) 27 (V.cs_Upgrade y1), L4.boxR W.heap.size 25 (V.cs_Database y0), Bag.bag (V.rw_Database (V.md_Database 1 z2')), L4.boxR g1 33 (V.cs_Database z2'), Bag.bag (V.rw_Database (V.md_Database 1 z3r0')), L4.boxR g3a' 33 (V.cs_Database z3r0'), Bag.bag (V.rw_Database z1r0'), L4.boxR g1a' 33 (V.cs_Database z1r0')] from Bag.take S21.out [0, 5, 1, 2, 3, 4, 6, 7] (by rfl) (by decide))
   clear S21
   have S23 := Lib.hid (show Sl.Sep W _ [L4.boxR (W.heap.size + 1) 27 (V.cs_Upgrade y1), L4.boxR W.heap.size 25 (V.cs_Database y0), Run.allR [Bag.bag (V.rw_Database (V.md_Database 1 z2')), L4.boxR g1 33 (V.cs_Database z2'), Bag.bag (V.rw_Database (V.md_Database 1 z3r0')), L4.boxR g3a' 33 (V.cs_Database z3r0'), Bag.bag (V.rw_Database z1r0'), L4.boxR g1a' 33 (V.cs_Database z1r0')]] from Run.packR (us := [L4.boxR (W.heap.size + 1) 27 (V.cs_Upgrade y1), L4.boxR W.heap.size 25 (V.cs_Database y0)]) (vs := [Bag.bag (V.rw_Database (V.md_Database 1 z2')), L4.boxR g1 33 (V.cs_Database z2'), Bag.bag (V.rw_Database (V.md_Database 1 z3r0')), L4.boxR g3a' 33 (V.cs_Database z3r0'), Bag.bag (V.rw_Database z1r0'), L4.boxR g1a' 33 (V.cs_Database z1r0')]) S22.out)
   clear S22
   obtain ⟨QQ, hQQ⟩ : ∃ Q, Q = Run.allR [Bag.bag (V.rw_Database (V.md_Database 1 z2')), L4.boxR g1 33 (V.cs_Database z2'), Bag.bag (V.rw_Database (V.md_Database 1 z3r0')), L4.boxR g3a' 33 (V.cs_Database z3r0'), Bag.bag (V.rw_Database z1r0'), L4.boxR g1a' 33 (V.cs_Database z1r0')] := ⟨_, rfl⟩
   rw [← hQQ] at S23
   have HQQ := Lib.hid hQQ
   clear hQQ
   go_upto_region 27 with fail
   have HTO0 := Lib.hid (fun w' (h : Below W.heap.size W w') => V.to_Database y0 (by rw [HC0.out]; exact HF0.out) w' (HRY0.out w' h))
   try dsimp only [V.vv_Database, V.vv_Upgrade] at HTO0
   have HTO1 := Lib.hid (fun w' (h : Below W.heap.size W w') => V.to_Upgrade y1 w')
   try dsimp only [V.vv_Database, V.vv_Upgrade] at HTO1
   go_cut [14, 15] (fun pz0 qs0 wx => ∃ (g5a' : Nat) (z5r0' : V.Y_Database), pz0 = .pointer (some ⟨g5a', 0, none⟩) ∧ qs0 = .bool r1' ∧ Hid (V.co_Database z5r0' = r0' ∧ Sl.Sep W wx [L4.boxR (W.heap.size + 1) 27 (V.cs_Upgrade y1), L4.boxR W.heap.size 25 (V.cs_Database y0), QQ, Bag.bag (V.rw_Database z5r0'), L4.boxR g5a' 33 (V.cs_Database z5r0')]))
   case first =>
    refine wp_region_held_drew (S := (fun w' => (w'.cell? ⟨W.heap.size + 1, 0, none⟩ = some (.int .i64 y1.f_Kind) ∧ w'.cell? ⟨W.heap.size + 1, 1, none⟩ = some (.string y1.f_Store) ∧ w'.cell? ⟨W.heap.size + 1, 2, none⟩ = some (.string y1.f_Field)) ∧ (w'.cell? ⟨W.heap.size, 0, none⟩ = some (.string y0.f_Name) ∧ w'.cell? ⟨W.heap.size, 1, none⟩ = some (.int .i64 y0.f_Version) ∧ w'.cell? ⟨W.heap.size, 2, none⟩ = some (.slice y0.f_Stores_a y0.f_Stores.length y0.f_Stores_c) ∧ w'.cell? ⟨W.heap.size, 3, none⟩ = some (.slice y0.f_Unique_a y0.f_Unique.length y0.f_Unique_c)))) (by kernel_rfl) ⟨Bag.cs3 (Bag.drew1 S23.out) 0 rfl, Bag.cs4 (Bag.drew1 S23.out) 1 rfl⟩ (fun hS => ?_)
    have S24 := Lib.hid (Bag.drew1 S23.out)
    clear S23
    generalize World.drew _ = w15 at hS S24 ⊢
    apply share4
    case main =>
     intro hrest
     refine tk 0 rfl ?_
     try simp only [zp0, zp1, zp2, zp3, zp4]
     refine tk 2 rfl ?_
     try simp only [zp0, zp1, zp2, zp3, zp4]
     refine wpAnyH_ready (rs := [1, 8]) (by kernel_rfl) (by simp) ?_
     refine Reg.cons_op (i := 1) rfl (fun K hK => ?_) ?_
     go_simp
     go_at_call 9
     refine (HTO0.out _ S24.out.old).mono ?_
     rintro e w16 ⟨zs0, rfl, hcon, ho, hb⟩
     have S25 := Lib.hid (show Sl.Sep W _ [_, _, QQ, Bag.bag (V.rw_Database zs0)] from Bag.push_bag S24.out hb ho)
     clear hb ho
     have HZzs0 := Lib.hid (hcon.trans HC0.out)
     clear hcon
     go_wp2_with fail
     refine hK.out _ _ ⟨Bag.cs3 S25.out 0 rfl, Bag.cs4 S25.out 1 rfl⟩ (fun hS => ?_)
     clear hK K
     try simp only [zp0, zp1, zp2, zp3, zp4]
     refine wpAnyH_ready (rs := [3, 8]) (by kernel_rfl) (by simp) ?_
     refine Reg.cons_op (i := 3) rfl (fun K hK => ?_) ?_
     go_simp
     go_at_call 10
     refine (HTO1.out w16 S25.out.old).mono ?_
     rintro e w17 ⟨rfl, hb⟩
     have S26 := Lib.hid (S25.out.keep hb)
     clear S25
     clear hb
     go_wp2_with fail
     refine hK.out _ _ ⟨Bag.cs3 S26.out 0 rfl, Bag.cs4 S26.out 1 rfl⟩ (fun hS => ?_)
     clear hK K
     try simp only [zp0, zp1, zp2, zp3, zp4]
     refine wpAnyH_ready (rs := [4, 8]) (by kernel_rfl) (by simp) ?_
     refine Reg.cons_op (i := 4) rfl (fun K hK => ?_) ?_
     go_simp
     go_at_call 11
     refine (Cimpl.out zs0 HZzs0.out _ (Bag.bag_rd S26.out 3 rfl)).mono ?_
     rintro e w18 ⟨zr0, rfl, hcon0, ho, hb⟩
     have S27 := Lib.hid (show Sl.Sep W _ [L4.boxR (W.heap.size + 1) 27 (V.cs_Upgrade y1), L4.boxR W.heap.size 25 (V.cs_Database y0), QQ, Bag.bag (V.rw_Database zs0), Bag.bag (V.rw_Database zr0)] from Bag.push_bag S26.out hb ho)
     clear S26
     clear hb ho
     have HZzr0 := Lib.hid hcon0
     clear hcon0
     go_wp2_with fail
     refine hK.out _ _ ⟨Bag.cs3 S27.out 0 rfl, Bag.cs4 S27.out 1 rfl⟩ (fun hS => ?_)
     clear hK K
     try simp only [zp0, zp1, zp2, zp3, zp4]
     refine tk 5 rfl ?_
     try simp only [zp0, zp1, zp2, zp3, zp4]
     refine tk 6 rfl ?_
     try simp only [zp0, zp1, zp2, zp3, zp4]
     refine tk 7 rfl ?_
     try simp only [zp0, zp1, zp2, zp3, zp4]
     refine Reg.one_op (i := 8) rfl (by kernel_rfl) (fun K hK => ?_)
     go_simp
     have S28 := Lib.hid (show Sl.Sep W _ [_, _, _, _, _, _] from L4.push_box S27.out 33 #[.string ⟨#[]⟩, .int .i64 0, .slice none 0 0, .slice none 0 0] w18.heap.size rfl)
     clear S27
     obtain ⟨gb0, hg⟩ : ∃ g', g' = w18.heap.size := ⟨_, rfl⟩
     rw [← hg] at S28 ⊢
     clear hg
     generalize w18.alloc (.cells #[.string ⟨#[]⟩, .int .i64 0, .slice none 0 0, .slice none 0 0] 33) = w19 at S28 ⊢
     refine hK.out _ _ ⟨Bag.cs3 S28.out 0 rfl, Bag.cs4 S28.out 1 rfl⟩ (fun hS => ?_)
     clear hK K
     try simp only [zp0, zp1, zp2, zp3, zp4]
     have S29 := Lib.hid (show Sl.Sep W _ [_, _, QQ, _, L4.boxR gb0 33 V.cz_Database] from Bag.take S28.out [0, 1, 2, 4, 5] (by rfl) (by decide))
     clear S28
     revert S29
     revert HZzr0
     revert hS
     exact hrest gb0 zr0 zs0 w19
     refine Reg.cons_op (i := 8) rfl (fun K hK => ?_) ?_
     go_simp
     have S27 := Lib.hid (show Sl.Sep W _ [_, _, _, _, _] from L4.push_box S26.out 33 #[.string ⟨#[]⟩, .int .i64 0, .slice none 0 0, .slice none 0 0] w17.heap.size rfl)
     clear S26
     obtain ⟨gb0, hg⟩ : ∃ g', g' = w17.heap.size := ⟨_, rfl⟩
     rw [← hg] at S27 ⊢
     clear hg
     generalize w17.alloc (.cells #[.string ⟨#[]⟩, .int .i64 0, .slice none 0 0, .slice none 0 0] 33) = w18 at S27 ⊢
     refine hK.out _ _ ⟨Bag.cs3 S27.out 0 rfl, Bag.cs4 S27.out 1 rfl⟩ (fun hS => ?_)
     clear hK K
     try simp only [zp0, zp1, zp2, zp3, zp4]
     refine Reg.one_op (i := 4) rfl (by kernel_rfl) (fun K hK => ?_)
     go_simp
     go_at_call 11
     refine (Cimpl.out zs0 HZzs0.out _ (Bag.bag_rd S27.out 3 rfl)).mono ?_
     rintro e w19 ⟨zr0, rfl, hcon0, ho, hb⟩
     have S28 := Lib.hid (show Sl.Sep W _ [_, _, QQ, _, L4.boxR gb0 33 V.cz_Database, Bag.bag (V.rw_Database zr0)] from Bag.push_bag S27.out hb ho)
     clear S27
     clear hb ho
     have HZzr0 := Lib.hid hcon0
     clear hcon0
     go_wp2_with fail
     refine hK.out _ _ ⟨Bag.cs3 S28.out 0 rfl, Bag.cs4 S28.out 1 rfl⟩ (fun hS => ?_)
     clear hK K
     try simp only [zp0, zp1, zp2, zp3, zp4]
     refine tk 5 rfl ?_
     try simp only [zp0, zp1, zp2, zp3, zp4]
     refine tk 6 rfl ?_
     try simp only [zp0, zp1, zp2, zp3, zp4]
     refine tk 7 rfl ?_
     try simp only [zp0, zp1, zp2, zp3, zp4]
     have S29 := Lib.hid (show Sl.Sep W _ [_, _, QQ, _, _] from Bag.take S28.out [0, 1, 2, 5, 4] (by rfl) (by decide))
     clear S28
     revert S29
     revert HZzr0
     revert hS
     exact hrest gb0 zr0 zs0 w19
     exact AllReadyH.nil
     refine Reg.cons_op (i := 8) rfl (fun K hK => ?_) ?_
     go_simp
     have S26 := Lib.hid (show Sl.Sep W _ [_, _, _, _, _] from L4.push_box S25.out 33 #[.string ⟨#[]⟩, .int .i64 0, .slice none 0 0, .slice none 0 0] w16.heap.size rfl)
     clear S25
     obtain ⟨gb0, hg⟩ : ∃ g', g' = w16.heap.size := ⟨_, rfl⟩
     rw [← hg] at S26 ⊢
     clear hg
     generalize w16.alloc (.cells #[.string ⟨#[]⟩, .int .i64 0, .slice none 0 0, .slice none 0 0] 33) = w17 at S26 ⊢
     refine hK.out _ _ ⟨Bag.cs3 S26.out 0 rfl, Bag.cs4 S26.out 1 rfl⟩ (fun hS => ?_)
     clear hK K
     try simp only [zp0, zp1, zp2, zp3, zp4]
     refine Reg.one_op (i := 3) rfl (by kernel_rfl) (fun K hK => ?_)
     go_simp
     go_at_call 10
     refine (HTO1.out w17 S26.out.old).mono ?_
     rintro e w18 ⟨rfl, hb⟩
     have S27 := Lib.hid (S26.out.keep hb)
     clear S26
     clear hb
     go_wp2_with fail
     refine hK.out _ _ ⟨Bag.cs3 S27.out 0 rfl, Bag.cs4 S27.out 1 rfl⟩ (fun hS => ?_)
     clear hK K
     try simp only [zp0, zp1, zp2, zp3, zp4]
     refine Reg.one_op (i := 4) rfl (by kernel_rfl) (fun K hK => ?_)
     go_simp
     go_at_call 11
     refine (Cimpl.out zs0 HZzs0.out _ (Bag.bag_rd S27.out 3 rfl)).mono ?_
     rintro e w19 ⟨zr0, rfl, hcon0, ho, hb⟩
     have S28 := Lib.hid (show Sl.Sep W _ [_, _, QQ, _, L4.boxR gb0 33 V.cz_Database, Bag.bag (V.rw_Database zr0)] from Bag.push_bag S27.out hb ho)
     clear S27
     clear hb ho
     have HZzr0 := Lib.hid hcon0
     clear hcon0
     go_wp2_with fail
     refine hK.out _ _ ⟨Bag.cs3 S28.out 0 rfl, Bag.cs4 S28.out 1 rfl⟩ (fun hS => ?_)
     clear hK K
     try simp only [zp0, zp1, zp2, zp3, zp4]
     refine tk 5 rfl ?_
     try simp only [zp0, zp1, zp2, zp3, zp4]
     refine tk 6 rfl ?_
     try simp only [zp0, zp1, zp2, zp3, zp4]
     refine tk 7 rfl ?_
     try simp only [zp0, zp1, zp2, zp3, zp4]
     have S29 := Lib.hid (show Sl.Sep W _ [_, _, QQ, _, _] from Bag.take S28.out [0, 1, 2, 5, 4] (by rfl) (by decide))
     clear S28
     revert S29
     revert HZzr0
     revert hS
     exact hrest gb0 zr0 zs0 w19
     exact AllReadyH.nil
     refine Reg.cons_op (i := 8) rfl (fun K hK => ?_) ?_
     go_simp
     have S25 := Lib.hid (show Sl.Sep W _ [_, _, _, _] from L4.push_box S24.out 33 #[.string ⟨#[]⟩, .int .i64 0, .slice none 0 0, .slice none 0 0] w15.heap.size rfl)
     obtain ⟨gb0, hg⟩ : ∃ g', g' = w15.heap.size := ⟨_, rfl⟩
     rw [← hg] at S25 ⊢
     clear hg
     generalize w15.alloc (.cells #[.string ⟨#[]⟩, .int .i64 0, .slice none 0 0, .slice none 0 0] 33) = w16 at S25 ⊢
     refine hK.out _ _ ⟨Bag.cs3 S25.out 0 rfl, Bag.cs4 S25.out 1 rfl⟩ (fun hS => ?_)
     clear hK K
     try simp only [zp0, zp1, zp2, zp3, zp4]
     refine Reg.one_op (i := 1) rfl (by kernel_rfl) (fun K hK => ?_)
     go_simp
     go_at_call 9
     refine (HTO0.out _ S25.out.old).mono ?_
     rintro e w17 ⟨zs0, rfl, hcon, ho, hb⟩
     have S26 := Lib.hid (show Sl.Sep W _ [_, _, QQ, L4.boxR gb0 33 V.cz_Database, Bag.bag (V.rw_Database zs0)] from Bag.push_bag S25.out hb ho)
     clear S25
     clear hb ho
     have HZzs0 := Lib.hid (hcon.trans HC0.out)
     clear hcon
     go_wp2_with fail
     refine hK.out _ _ ⟨Bag.cs3 S26.out 0 rfl, Bag.cs4 S26.out 1 rfl⟩ (fun hS => ?_)
     clear hK K
     try simp only [zp0, zp1, zp2, zp3, zp4]
     refine Reg.one_op (i := 3) rfl (by kernel_rfl) (fun K hK => ?_)
     go_simp
     go_at_call 10
     refine (HTO1.out w17 S26.out.old).mono ?_
     rintro e w18 ⟨rfl, hb⟩
     have S27 := Lib.hid (S26.out.keep hb)
     clear S26
     clear hb
     go_wp2_with fail
     refine hK.out _ _ ⟨Bag.cs3 S27.out 0 rfl, Bag.cs4 S27.out 1 rfl⟩ (fun hS => ?_)
     clear hK K
     try simp only [zp0, zp1, zp2, zp3, zp4]
     refine Reg.one_op (i := 4) rfl (by kernel_rfl) (fun K hK => ?_)
     go_simp
     go_at_call 11
     refine (Cimpl.out zs0 HZzs0.out _ (Bag.bag_rd S27.out 4 rfl)).mono ?_
     rintro e w19 ⟨zr0, rfl, hcon0, ho, hb⟩
     have S28 := Lib.hid (show Sl.Sep W _ [_, _, QQ, L4.boxR gb0 33 V.cz_Database, Bag.bag (V.rw_Database zs0), Bag.bag (V.rw_Database zr0)] from Bag.push_bag S27.out hb ho)
     clear S27
     clear hb ho
     have HZzr0 := Lib.hid hcon0
     clear hcon0
     go_wp2_with fail
     refine hK.out _ _ ⟨Bag.cs3 S28.out 0 rfl, Bag.cs4 S28.out 1 rfl⟩ (fun hS => ?_)
     clear hK K
     try simp only [zp0, zp1, zp2, zp3, zp4]
     refine tk 5 rfl ?_
     try simp only [zp0, zp1, zp2, zp3, zp4]
     refine tk 6 rfl ?_
     try simp only [zp0, zp1, zp2, zp3, zp4]
     refine tk 7 rfl ?_
     try simp only [zp0, zp1, zp2, zp3, zp4]
     have S29 := Lib.hid (show Sl.Sep W _ [_, _, QQ, _, _] from Bag.take S28.out [0, 1, 2, 5, 3] (by rfl) (by decide))
     clear S28
     revert S29
     revert HZzr0
     revert hS
     exact hrest gb0 zr0 zs0 w19
     exact AllReadyH.nil
    case pf =>
     intro gb0 zr0 zs0 w19 hS HZzr0 S29
     refine Reg.one_op (i := 9) rfl (by kernel_rfl) (fun K hK => ?_)
     obtain ⟨f0, f1, f2, f3⟩ := Bag.cs4 S29.out 4 rfl
     obtain ⟨z0, z1, z2, z3⟩ := Bag.fs4 S29.out 4 rfl
     go_simp
     clear f0 f1 f2 f3 z0 z1 z2 z3
     have S30 := Lib.hid (show Sl.Sep W _ [_, _, QQ, _, L4.boxR gb0 33 (V.cs_Database zr0)] from L5.put_box5 (L5.put_box5 (L5.put_box5 (L5.put_box5 (S29.out) 4 rfl 0 (.string zr0.f_Name)) 4 rfl 1 (.int .i64 zr0.f_Version)) 4 rfl 2 (.slice zr0.f_Stores_a zr0.f_Stores.length zr0.f_Stores_c)) 4 rfl 3 (.slice zr0.f_Unique_a zr0.f_Unique.length zr0.f_Unique_c))
     clear S29
     refine hK.out _ _ ⟨Bag.cs3 S30.out 0 rfl, Bag.cs4 S30.out 1 rfl⟩ (fun hS => ?_)
     clear hK K
     try simp only [zp0, zp1, zp2, zp3, zp4]
     refine tk 10 rfl ?_
     try simp only [zp0, zp1, zp2, zp3, zp4]
     refine wpAnyH_done (by kernel_rfl) ?_ _
     go_wp2_with fail
     go_meet
     case rel =>
      exact ⟨gb0, zr0, rfl, rfl, And.intro HZzr0.out (S30.out)⟩
   case rest =>
    obtain ⟨g5a', z5r0', rfl, rfl, hq⟩ := hcut
    have HZz5r0' := Lib.hid hq.out.1
    obtain ⟨w15, hww, hSS⟩ : ∃ u, u = _ ∧ Sl.Sep W u [L4.boxR (W.heap.size + 1) 27 (V.cs_Upgrade y1), L4.boxR W.heap.size 25 (V.cs_Database y0), QQ, Bag.bag (V.rw_Database z5r0'), L4.boxR g5a' 33 (V.cs_Database z5r0')] := ⟨_, rfl, hq.out.2⟩
    subst hww
    have S24 := Lib.hid hSS
    clear hSS hq S23 HTO0 HTO1
    have S25 := Lib.hid (show Sl.Sep W _ [L4.boxR (W.heap.size + 1) 27 (V.cs_Upgrade y1), L4.boxR W.heap.size 25 (V.cs_Database y0), Bag.bag (V.rw_Database z5r0'), L4.boxR g5a' 33 (V.cs_Database z5r0'), QQ] from Bag.take S24.out [0, 1, 3, 4, 2] (by rfl) (by decide))
    clear S24
    have S26 := Lib.hid (show Sl.Sep W _ [L4.boxR (W.heap.size + 1) 27 (V.cs_Upgrade y1), L4.boxR W.heap.size 25 (V.cs_Database y0), Bag.bag (V.rw_Database z5r0'), L4.boxR g5a' 33 (V.cs_Database z5r0'), Bag.bag (V.rw_Database (V.md_Database 1 z2')), L4.boxR g1 33 (V.cs_Database z2'), Bag.bag (V.rw_Database (V.md_Database 1 z3r0')), L4.boxR g3a' 33 (V.cs_Database z3r0'), Bag.bag (V.rw_Database z1r0'), L4.boxR g1a' 33 (V.cs_Database z1r0')] from (by have h := S25.out; rw [HQQ.out] at h; exact Run.unpackR (us := [L4.boxR (W.heap.size + 1) 27 (V.cs_Upgrade y1), L4.boxR W.heap.size 25 (V.cs_Database y0), Bag.bag (V.rw_Database z5r0'), L4.boxR g5a' 33 (V.cs_Database z5r0')]) (vs := [Bag.bag (V.rw_Database (V.md_Database 1 z2')), L4.boxR g1 33 (V.cs_Database z2'), Bag.bag (V.rw_Database (V.md_Database 1 z3r0')), L4.boxR g3a' 33 (V.cs_Database z3r0'), Bag.bag (V.rw_Database z1r0'), L4.boxR g1a' 33 (V.cs_Database z1r0')]) h))
    clear S25
    clear HQQ QQ
    obtain ⟨f0, f1, f2, f3⟩ := Bag.cs4 S26.out 3 rfl
    obtain ⟨f4, f5, f6, f7⟩ := Bag.cs4 S26.out 9 rfl
    go_wp2_with fail
    go_at_call 12
    have HC := V.eq_Database z5r0' z1r0' (HZz5r0'.out.trans HZz1r0'.out.symm) (by rw [HZz5r0'.out]; exact HFR0.out) _ (Bag.bag_rd S26.out 2 rfl) (Bag.bag_rd S26.out 8 rfl)
    try dsimp only [V.vv_Database, V.vv_Upgrade] at HC
    refine HC.mono ?_
    clear HC
    rintro e w16 ⟨rfl, hb⟩
    clear f0 f1 f2 f3 f4 f5 f6 f7
    have S27 := Lib.hid (S26.out.keep hb)
    clear S26
    clear hb
    obtain ⟨f0, f1, f2, f3⟩ := Bag.cs4 S27.out 7 rfl
    go_wp2_with fail
    go_at_call 14
    have HC := V.held_Database z3r0' 1 (by rw [HZz3r0'.out]; exact HFR0.out) (by omega) (by rw [HEz3r0'.out]; omega) _ (Bag.bag_rd S27.out 6 rfl)
    try dsimp only [V.vv_Database, V.vv_Upgrade] at HC
    rw [HEz3r0'.out] at HC
    refine HC.mono ?_
    clear HC
    rintro e w17 ⟨rfl, hb⟩
    clear f0 f1 f2 f3
    have S28 := Lib.hid (S27.out.keep hb)
    clear S27
    clear hb
    go_wp2_with fail
    go_ret
    exact ⟨rfl, S28.out.old⟩

set_option maxRecDepth 100000 in
theorem lifted (os : Os) (started : os.Started) (H : Type) (enc : TypeId × Value → H) :
  ReturnsInHanded {} Tryz.checked os 3 .any (Rows.fnExactApplyUpgradeSpec.pre6 enc Tryz.prog Tryz.f3 Rows.fnExactApplyUpgradeRow.domain false) (Rows.fnExactApplyUpgradeSpec.post enc Tryz.prog Tryz.f3 false true false false) := by
 refine returnsInHanded_of_change_sized (C := Tryz.checked) own started (by kernel_rfl) Tryz.func3
  (ChangeSpec.witness6 (enc := enc) (C := Tryz.checked) false ⟨#[], #[.agg #[.string ⟨#[]⟩, .int .i64 0, .slice none 0 0, .slice none 0 0], .agg #[.int .i64 0, .string ⟨#[]⟩, .string ⟨#[]⟩]], []⟩ 8 (by kernel_rfl) (by kernel_rfl) (by kernel_rfl) (by kernel_rfl)) ?_
 intro W base args ds gs before hval0 hW _ hsz0 _
 have hval : ∀ (j : Nat) t v, Tryz.f3.params[j]? = some t → args[j]? = some v → Value.okWide Tryz.prog W .any base t v := hval0
 have hW' := hW
 obtain ⟨p, q, hA0, hV, rfl, _, _⟩ := hW
 have hA : DataW.TrodAll enc Tryz.prog W 0 (fun _ => true) true Tryz.f3.params.toList args.toList ds p := hA0
 obtain ⟨rfl, rfl⟩ := trodVars_none hV
 have hlt : ∀ x ∈ p, x.block < W.heap.size := fun x hx => hW'.lt x (by simpa using hx)
 simp only [List.append_nil] at hW'
 have hw := walk H enc W base args ds p hval hA hlt hsz0
 have hA1 := hA
 clear hA0 hval0 hsz0 hval hlt
 rw [Tryz.params3] at hA
 obtain ⟨v0, vs0, d0, ds0, p0, q0, e0, rfl, rfl, h0, hr0⟩ := trodAll_cons hA
 obtain ⟨v1, vs1, d1, ds1, p1, q1, e1, rfl, rfl, h1, hr1⟩ := trodAll_cons hr0
 obtain ⟨e2, rfl, rfl⟩ := trodAll_nil hr1
 refine hw.mono fun e W' ⟨he, hb⟩ => ?_
 subst he
 exact ⟨_, rfl, Frame.law_post (tb := 4) rfl hW' hA1 rfl rfl rfl laidOut (by kernel_rfl) (by kernel_rfl) Tryz.underlying4 hb⟩

theorem closedFacts : joinedFacts Tryz.pinned.checked.prog 3 Tryz.f3 Rows.fnExactApplyUpgradeSpec Rows.fnExactApplyUpgradeRow = true := by
 have h1 : Tryz.pinned.checked.prog.mayEnter = true := Closed.mayIn
 have h2 : (Rows.fnExactApplyUpgradeRow.lifted == Tryz.pinned.checked.prog.liftsFinal) = true := by
  rw [show Tryz.pinned.checked.prog.liftsFinal = false from Closed.liftsNone]; rfl
 have h3 : (Tryz.pinned.checked.prog.make == some Rows.fnExactApplyUpgradeRow.make) = true := by
  rw [show Tryz.pinned.checked.prog.make = some .cut from Closed.makeIs]; rfl
 unfold joinedFacts
 rw [h1, h2, h3]
 change _ = true
 kernel_rfl
theorem holds : Rows.FnExactApplyUpgradeSaid :=
 OpenClaim.holds_of_wide 3 Tryz.f3 rfl rfl rfl rfl rfl rfl rfl ⟨rfl, rfl, rfl, rfl, rfl⟩ rfl rfl rfl rfl rfl (by kernel_rfl) Tryz.func3 closedFacts
  (of_decide_eq_true (by kernel_rfl)) (by unfold Func.isWrapper; first | (rw [if_pos (by decide +kernel)]; kernel_rfl) | (rw [if_neg (by decide +kernel)]; exact ⟨rfl, rfl⟩))
  (fun os started H enc _ => lifted os started H enc)

#print axioms holds
end Go.Proofs.YthljdhfgphebnaaGreat.lawFnExactApplyUpgrade
