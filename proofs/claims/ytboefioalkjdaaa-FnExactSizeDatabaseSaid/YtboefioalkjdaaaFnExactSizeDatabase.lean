/-
  The law FnExactSizeDatabase answers true for every argument, and leaves its arguments as they were. No condition.
  (The frame is written by my program mk_law.py.)
-/
import Derived.Test.YtboefioalkjdaaaFnExactSizeDatabaseP2
import Derived.SizedLaws
import Derived.LaidLaws
import Derived.ShutString
import Derived.Stop.LaidErr
import Derived.Lib.LaidTab
import Derived.Deep.RegionHeld3
import Derived.Deep.DeepCutAuto
set_option linter.unusedSimpArgs false
namespace Go.Proofs.Ytboefioalkjdaaa.lawFnExactSizeDatabase
open Go.ChangeShapes Go.WideShapes Go.ChangeAt Go.RowKit
open Go.ChangeMaps (open_string shut_string)
set_option linter.unusedVariables false
theorem own : ownKnob Try.prog.godebug = none := by kernel_rfl
theorem laidOut : laidOutB Try.prog = true := by kernel_rfl
open Mem Sl Bag
open Go.Proofs.Ytboefioalkjdaaa.L5 (cellsF)
set_option maxRecDepth 100000 in
set_option maxHeartbeats 8000000 in
theorem walk (H : Type) (enc : TypeId × Value → H) (W : World) (base : Nat) (args : Array Value) (ds : List (DataW H)) (p : List MemPlace)
    (hval : ∀ (j : Nat) t v, Try.f5.params[j]? = some t → args[j]? = some v → Value.okWide Try.prog W .any base t v)
    (hA : DataW.TrodAll enc Try.prog W 0 (fun _ => true) true Try.f5.params.toList args.toList ds p)
    (hlt : ∀ x ∈ p, x.block < W.heap.size)
    (hsz : (DataW.weightsEach Try.prog (Try.f5.params.toList ++ Rows.fnExactSizeDatabaseSpec.plain.varTypes Try.prog) (ds ++ [])).all (· ≤ reachBytes) = true) :
    Calls Try.prog 5 args W fun e w' => e = .returned (.bool true) ∧ Below W.heap.size W w' := by
  rw [Try.params5] at hA hval hsz
  obtain ⟨v0, vs0, d0, ds0, p0, q0, e0, rfl, rfl, h0, g0⟩ := trodAll_cons hA
  obtain ⟨ez, rfl, rfl⟩ := trodAll_nil g0
  subst ez
  obtain rfl : args = #[v0] := Array.toList_inj.1 e0
  clear e0
  obtain ⟨y0, rfl, hR0, hW0⟩ := V.open_Database (hval 0 25 v0 rfl rfl) h0 (fun x hx => hlt x (by simp [hx]))
  clear hval hA hlt hsz h0
  have HSZ0 := Lib.hid (fun (q : Int) (h0 : -1 ≤ q) (h1 : q ≤ 1048576) (w' : World) (h : Below W.heap.size W w') => (V.sz_Database y0 q hW0 h0 h1 w' ((hR0.below h).more h.size)).mono (R' := fun e w2 => ∃ u : Int, e = .returned (.int .i64 u) ∧ (-1 ≤ u ∧ u ≤ 1048576 ∧ (0 ≤ u → V.wt_Database (V.co_Database y0) ≤ 1048576)) ∧ Below w'.heap.size w' w2) fun e w2 ⟨he, hb⟩ => by obtain ⟨u, hu, hq⟩ := (show ∃ u : Int, V.lft q (V.wt_Database (V.co_Database y0)) = u ∧ (-1 ≤ u ∧ u ≤ 1048576 ∧ (0 ≤ u → V.wt_Database (V.co_Database y0) ≤ 1048576)) from ⟨_, rfl, (V.lft_range _ h1).1, (V.lft_range _ h1).2, fun h3 => (V.lft_small (by omega) h1).1⟩); exact ⟨u, by rw [he, hu], hq, hb⟩)
  have HRY0 := Lib.hid (fun w' (h : Below W.heap.size W w') => ((hR0.below h).more h.size : RowsRd w' w'.heap.size (V.rw_Database y0)))
  clear hR0 hW0
  try dsimp only [V.vv_Database] at HSZ0
  try dsimp only [V.vv_Database]
  have S1 := Lib.hid (show Sl.Sep W (W.alloc (.cells #[.string y0.f_Name, .int .i64 y0.f_Version, .slice y0.f_Stores_a y0.f_Stores.length y0.f_Stores_c, .slice y0.f_Unique_a y0.f_Unique.length y0.f_Unique_c] 25)) [L4.boxR W.heap.size 25 (V.cs_Database y0)] from L4.push_box (Sl.Sep.start W) 25 #[.string y0.f_Name, .int .i64 y0.f_Version, .slice y0.f_Stores_a y0.f_Stores.length y0.f_Stores_c, .slice y0.f_Unique_a y0.f_Unique.length y0.f_Unique_c] (W.heap.size) (by simp))
  obtain ⟨wa, hwa⟩ : ∃ w_, w_ = (W.alloc (.cells #[.string y0.f_Name, .int .i64 y0.f_Version, .slice y0.f_Stores_a y0.f_Stores.length y0.f_Stores_c, .slice y0.f_Unique_a y0.f_Unique.length y0.f_Unique_c] 25)) := ⟨_, rfl⟩
  rw [← hwa] at S1
  go_enter Try.func5, Try.ntmps5
  go_upto_region 1 with fail
  rw [← hwa]
  clear hwa
  have hh := Bag.cs4 S1.out 0 rfl
  have f0 := hh.1; have f1 := hh.2.1; have f2 := hh.2.2.1; have f3 := hh.2.2.2; clear hh
  go_wp2_with fail
  go_at_call 7
  have HC := HSZ0.out 1048576 (by omega) (by omega) _ S1.out.old
  try dsimp only [V.vv_Database] at HC
  refine HC.mono ?_
  clear HC
  rintro e w1 ⟨u0, rfl, ro, hb⟩
  clear f0 f1 f2 f3
  have S2 := Lib.hid (S1.out.keep hb)
  clear S1
  clear hb
  have HRO0 := Lib.hid ro
  have X0 : -1 ≤ u0 ∧ u0 ≤ 1048576 := ⟨ro.1, ro.2.1⟩
  clear ro
  by_cases neg0 : u0 < 0
  · skip
    go_wp2_with fail
    go_ret
    exact ⟨rfl, S2.out.old⟩
  have HF0 := Lib.hid (HRO0.out.2.2 (by omega))
  obtain ⟨C0, hC0⟩ : ∃ C, V.co_Database y0 = C := ⟨_, rfl⟩
  rw [hC0] at HF0
  have HC0 := Lib.hid hC0
  clear hC0
  obtain ⟨r0', hr0'⟩ : ∃ r : Nat, L8.szD C0 = r := ⟨_, rfl⟩
  have Cspec : ∀ (z0 : V.Y_Database), V.co_Database z0 = C0 → ∀ w' : World, RowsRd w' w'.heap.size (V.rw_Database z0) → Calls Try.prog 14 #[.agg #[.string z0.f_Name, .int .i64 z0.f_Version, .slice z0.f_Stores_a z0.f_Stores.length z0.f_Stores_c, .slice z0.f_Unique_a z0.f_Unique.length z0.f_Unique_c]] w' fun e w'' => e = .returned (.int .i64 (r0' : Nat)) ∧ Below w'.heap.size w' w'' := by
    intro z0 hz0 w' hr0
    have hf0 : V.wt_Database (V.co_Database z0) ≤ 1048576 := by rw [hz0]; exact HF0.out
    have h := L8.specSizeDatabase_any z0 (L8.fitD_wt hf0) w' hr0
    rw [hz0, hr0'] at h
    exact h
  replace Cspec := Lib.hid Cspec
  have Cimpl : ∀ (z0 : V.Y_Database), V.co_Database z0 = C0 → ∀ w' : World, RowsRd w' w'.heap.size (V.rw_Database z0) → Calls Try.prog 15 #[.agg #[.string z0.f_Name, .int .i64 z0.f_Version, .slice z0.f_Stores_a z0.f_Stores.length z0.f_Stores_c, .slice z0.f_Unique_a z0.f_Unique.length z0.f_Unique_c]] w' fun e w'' => e = .returned (.int .i64 (r0' : Nat)) ∧ Below w'.heap.size w' w'' := by
    intro z0 hz0 w' hr0
    have hf0 : V.wt_Database (V.co_Database z0) ≤ 1048576 := by rw [hz0]; exact HF0.out
    have h := L8.sizeDatabase_any z0 (L8.fitD_wt hf0) w' hr0
    rw [hz0, hr0'] at h
    exact h
  replace Cimpl := Lib.hid Cimpl
  clear hr0'
  have hh := Bag.cs4 S2.out 0 rfl
  have f0 := hh.1; have f1 := hh.2.1; have f2 := hh.2.2.1; have f3 := hh.2.2.2; clear hh
  go_wp2_with fail
  go_at_call 9
  have HC := V.to_Database y0 (by rw [HC0.out]; exact HF0.out) _ (HRY0.out _ S2.out.old)
  try dsimp only [V.vv_Database] at HC
  refine HC.mono ?_
  clear HC
  rintro e w2 ⟨z1', rfl, hcon, ho, hb⟩
  clear f0 f1 f2 f3
  have S3 := Lib.hid (show Sl.Sep W _ [L4.boxR W.heap.size 25 (V.cs_Database y0), Bag.bag (V.rw_Database z1')] from Bag.push_bag S2.out hb ho)
  clear S2
  clear hb ho
  have HZz1' := Lib.hid (hcon.trans HC0.out)
  clear hcon
  try dsimp only [V.vv_Database]
  go_wp2_with fail
  go_at_call 14
  have HC := Cspec.out z1' HZz1'.out _ (Bag.bag_rd S3.out 1 rfl)
  try dsimp only [V.vv_Database] at HC
  refine HC.mono ?_
  clear HC
  rintro e w3 ⟨rfl, hb⟩
  have S4 := Lib.hid (S3.out.keep hb)
  clear S3
  clear hb
  have S5 := Lib.hid (show Sl.Sep W _ [L4.boxR W.heap.size 25 (V.cs_Database y0)] from Bag.take S4.out [0] (by rfl) (by decide))
  clear S4
  have hh := Bag.cs4 S5.out 0 rfl
  have f0 := hh.1; have f1 := hh.2.1; have f2 := hh.2.2.1; have f3 := hh.2.2.2; clear hh
  go_wp2_with fail
  go_at_call 9
  have HC := V.to_Database y0 (by rw [HC0.out]; exact HF0.out) _ (HRY0.out _ S5.out.old)
  try dsimp only [V.vv_Database] at HC
  refine HC.mono ?_
  clear HC
  rintro e w4 ⟨z3', rfl, hcon, ho, hb⟩
  clear f0 f1 f2 f3
  have S6 := Lib.hid (show Sl.Sep W _ [L4.boxR W.heap.size 25 (V.cs_Database y0), Bag.bag (V.rw_Database z3')] from Bag.push_bag S5.out hb ho)
  clear S5
  clear hb ho
  have HZz3' := Lib.hid (hcon.trans HC0.out)
  clear hcon
  try dsimp only [V.vv_Database]
  go_upto_region 7 with fail
  have S7 := Lib.hid (show Sl.Sep W _ [L4.boxR W.heap.size 25 (V.cs_Database y0), Bag.bag (V.rw_Database z3'), L4.boxR w4.heap.size 31 (V.cs_Database z3')] from L4.push_box S6.out 31 #[.string z3'.f_Name, .int .i64 z3'.f_Version, .slice z3'.f_Stores_a z3'.f_Stores.length z3'.f_Stores_c, .slice z3'.f_Unique_a z3'.f_Unique.length z3'.f_Unique_c] w4.heap.size rfl)
  clear S6
  obtain ⟨g1, hg⟩ : ∃ g', g' = w4.heap.size := ⟨_, rfl⟩
  rw [← hg] at S7 ⊢
  clear hg
  generalize w4.alloc (.cells #[.string z3'.f_Name, .int .i64 z3'.f_Version, .slice z3'.f_Stores_a z3'.f_Stores.length z3'.f_Stores_c, .slice z3'.f_Unique_a z3'.f_Unique.length z3'.f_Unique_c] 31) = w5 at S7 ⊢
  have hh := Bag.cs4 S7.out 2 rfl
  have f0 := hh.1; have f1 := hh.2.1; have f2 := hh.2.2.1; have f3 := hh.2.2.2; clear hh
  go_wp2_with fail
  go_at_call 15
  have HC := Cimpl.out z3' HZz3'.out _ (Bag.bag_rd S7.out 1 rfl)
  try dsimp only [V.vv_Database] at HC
  refine HC.mono ?_
  clear HC
  rintro e w6 ⟨rfl, hb⟩
  clear f0 f1 f2 f3
  have S8 := Lib.hid (S7.out.keep hb)
  clear S7
  clear hb
  go_upto_region 10 with fail
  refine wp_region_held_drew (S := (fun w' => (World.cell? w' ⟨W.heap.size, 0, none⟩ = some (.string y0.f_Name) ∧ World.cell? w' ⟨W.heap.size, 1, none⟩ = some (.int .i64 y0.f_Version) ∧ World.cell? w' ⟨W.heap.size, 2, none⟩ = some (.slice y0.f_Stores_a y0.f_Stores.length y0.f_Stores_c) ∧ World.cell? w' ⟨W.heap.size, 3, none⟩ = some (.slice y0.f_Unique_a y0.f_Unique.length y0.f_Unique_c)) ∧ (World.cell? w' ⟨g1, 0, none⟩ = some (.string z3'.f_Name) ∧ World.cell? w' ⟨g1, 1, none⟩ = some (.int .i64 z3'.f_Version) ∧ World.cell? w' ⟨g1, 2, none⟩ = some (.slice z3'.f_Stores_a z3'.f_Stores.length z3'.f_Stores_c) ∧ World.cell? w' ⟨g1, 3, none⟩ = some (.slice z3'.f_Unique_a z3'.f_Unique.length z3'.f_Unique_c)))) (by kernel_rfl) ⟨Bag.cs4 (Bag.drew1 S8.out) 0 rfl, Bag.cs4 (Bag.drew1 S8.out) 2 rfl⟩ (fun hS => ?_)
  have S9 := Lib.hid (show Sl.Sep W _ [L4.boxR W.heap.size 25 (V.cs_Database y0), Bag.bag (V.rw_Database z3'), L4.boxR g1 31 (V.cs_Database z3')] from Bag.drew1 S8.out)
  clear S8
  generalize World.drew _ = w7 at hS S9 ⊢
  refine tk 0 rfl ?_
  try simp only [zp0, zp1, zp2, zp3, zp4]
  refine tk 1 rfl ?_
  try simp only [zp0, zp1, zp2, zp3, zp4]
  refine Reg.one_op (i := 2) rfl (by kernel_rfl) (fun K hK => ?_)
  go_simp
  go_at_call 9
  have HC := V.to_Database y0 (by rw [HC0.out]; exact HF0.out) _ (HRY0.out _ S9.out.old)
  try dsimp only [V.vv_Database] at HC
  refine HC.mono ?_
  clear HC
  rintro e w8 ⟨z5', rfl, hcon, ho, hb⟩
  have S10 := Lib.hid (show Sl.Sep W _ [L4.boxR W.heap.size 25 (V.cs_Database y0), Bag.bag (V.rw_Database z3'), L4.boxR g1 31 (V.cs_Database z3'), Bag.bag (V.rw_Database z5')] from Bag.push_bag S9.out hb ho)
  clear S9
  clear hb ho
  have HZz5' := Lib.hid (hcon.trans HC0.out)
  clear hcon
  try dsimp only [V.vv_Database]
  go_wp2_with fail
  refine hK.out _ _ ⟨Bag.cs4 S10.out 0 rfl, Bag.cs4 S10.out 2 rfl⟩ (fun hS => ?_)
  clear hK K
  try simp only [zp0, zp1, zp2, zp3, zp4]
  refine Reg.one_op (i := 3) rfl (by kernel_rfl) (fun K hK => ?_)
  go_simp
  go_at_call 11
  have HC := V.eq_Database z3' z5' (HZz3'.out.trans HZz5'.out.symm) (by rw [HZz3'.out]; exact (Nat.le_trans HF0.out (by decide : (1048576 : Nat) ≤ 1125899906842624))) _ (Bag.bag_rd S10.out 1 rfl) (Bag.bag_rd S10.out 3 rfl)
  try dsimp only [V.vv_Database] at HC
  refine HC.mono ?_
  clear HC
  rintro e w9 ⟨rfl, hb⟩
  have S11 := Lib.hid (S10.out.keep hb)
  clear S10
  clear hb
  go_wp2_with fail
  refine hK.out _ _ ⟨Bag.cs4 S11.out 0 rfl, Bag.cs4 S11.out 2 rfl⟩ (fun hS => ?_)
  clear hK K
  try simp only [zp0, zp1, zp2, zp3, zp4]
  refine tk 4 rfl ?_
  try simp only [zp0, zp1, zp2, zp3, zp4]
  refine wpAnyH_done (by kernel_rfl) ?_ _
  have hh := Bag.cs4 S11.out 0 rfl
  have f0 := hh.1; have f1 := hh.2.1; have f2 := hh.2.2.1; have f3 := hh.2.2.2; clear hh
  have hh := Bag.cs4 S11.out 2 rfl
  have f4 := hh.1; have f5 := hh.2.1; have f6 := hh.2.2.1; have f7 := hh.2.2.2; clear hh
  have S12 := Lib.hid (show Sl.Sep W _ [L4.boxR W.heap.size 25 (V.cs_Database y0), Bag.bag (V.rw_Database z3'), L4.boxR g1 31 (V.cs_Database z3')] from Bag.take S11.out [0, 1, 2] (by rfl) (by decide))
  clear S11
  go_wp2_with fail
  go_ret
  exact ⟨rfl, S12.out.old⟩

set_option maxRecDepth 100000 in
theorem lifted (os : Os) (started : os.Started) (H : Type) (enc : TypeId × Value → H) :
    ReturnsInHanded {} Try.checked os 5 .any (Rows.fnExactSizeDatabaseSpec.pre6 enc Try.prog Try.f5 Rows.fnExactSizeDatabaseRow.domain false) (Rows.fnExactSizeDatabaseSpec.post enc Try.prog Try.f5 false true false false) := by
  refine returnsInHanded_of_change_sized (C := Try.checked) own started (by kernel_rfl) Try.func5
    (ChangeSpec.witness6 (enc := enc) (C := Try.checked) false ⟨#[], #[.agg #[.string ⟨#[]⟩, .int .i64 0, .slice none 0 0, .slice none 0 0]], []⟩ 8 (by kernel_rfl) (by kernel_rfl) (by kernel_rfl) (by kernel_rfl)) ?_
  intro W base args ds gs before hval0 hW _ hsz0 _
  have hval : ∀ (j : Nat) t v, Try.f5.params[j]? = some t → args[j]? = some v → Value.okWide Try.prog W .any base t v := hval0
  have hW' := hW
  obtain ⟨p, q, hA0, hV, rfl, _, _⟩ := hW
  have hA : DataW.TrodAll enc Try.prog W 0 (fun _ => true) true Try.f5.params.toList args.toList ds p := hA0
  obtain ⟨rfl, rfl⟩ := trodVars_none hV
  have hlt : ∀ x ∈ p, x.block < W.heap.size := fun x hx => hW'.lt x (by simpa using hx)
  simp only [List.append_nil] at hW'
  have hw := walk H enc W base args ds p hval hA hlt hsz0
  have hA1 := hA
  clear hA0 hval0 hsz0 hval hlt
  rw [Try.params5] at hA
  obtain ⟨v0, vs0, d0, ds0, p0, q0, e0, rfl, rfl, h0, hr0⟩ := trodAll_cons hA
  obtain ⟨e1, rfl, rfl⟩ := trodAll_nil hr0
  refine hw.mono fun e W' ⟨he, hb⟩ => ?_
  subst he
  exact ⟨_, rfl, Frame.law_post (tb := 4) rfl hW' hA1 rfl rfl rfl laidOut (by kernel_rfl) (by kernel_rfl) Try.underlying4 hb⟩

theorem holds : Rows.FnExactSizeDatabaseSaid :=
  OpenClaim.holds_of_wide 5 Try.f5 rfl rfl rfl rfl rfl rfl rfl ⟨rfl, rfl, rfl, rfl, rfl⟩ rfl rfl rfl rfl rfl (by kernel_rfl) Try.func5 (by kernel_rfl)
    (of_decide_eq_true (by kernel_rfl)) (by unfold Func.isWrapper; first | (rw [if_pos (by decide +kernel)]; kernel_rfl) | (rw [if_neg (by decide +kernel)]; exact ⟨rfl, rfl⟩))
    (fun os started H enc _ => lifted os started H enc)

#print axioms holds
end Go.Proofs.Ytboefioalkjdaaa.lawFnExactSizeDatabase
