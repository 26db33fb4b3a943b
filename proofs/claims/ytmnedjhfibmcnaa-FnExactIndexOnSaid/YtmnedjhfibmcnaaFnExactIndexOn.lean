/-
  The law FnExactIndexOn answers true for every argument, and leaves its arguments as they were. No condition.
  (The frame is written by my program mk_law.py.)
-/
import Derived.Test.YtmnedjhfibmcnaaFnExactIndexOnP2
import Derived.SizedLaws
import Derived.LaidLaws
import Derived.ShutString
import Derived.Stop.LaidErr
import Derived.Lib.LaidTab
import Derived.Deep.RegionHeld3
import Derived.Deep.DeepCutAuto
set_option linter.unusedSimpArgs false
namespace Go.Proofs.Ytmnedjhfibmcnaa.lawFnExactIndexOn
open Go.ChangeShapes Go.WideShapes Go.ChangeAt Go.RowKit
open Go.ChangeMaps (open_string shut_string)
set_option linter.unusedVariables false
theorem own : ownKnob Try.prog.godebug = none := by kernel_rfl
theorem laidOut : laidOutB Try.prog = true := by kernel_rfl
open Mem Sl Bag
open Go.Proofs.Ytmnedjhfibmcnaa.L5 (cellsF)
set_option maxRecDepth 100000 in
set_option maxHeartbeats 8000000 in
theorem walk (H : Type) (enc : TypeId × Value → H) (W : World) (base : Nat) (args : Array Value) (ds : List (DataW H)) (p : List MemPlace)
    (hval : ∀ (j : Nat) t v, Try.f7.params[j]? = some t → args[j]? = some v → Value.okWide Try.prog W .any base t v)
    (hA : DataW.TrodAll enc Try.prog W 0 (fun _ => true) true Try.f7.params.toList args.toList ds p)
    (hlt : ∀ x ∈ p, x.block < W.heap.size)
    (hsz : (DataW.weightsEach Try.prog (Try.f7.params.toList ++ Rows.fnExactIndexOnSpec.plain.varTypes Try.prog) (ds ++ [])).all (· ≤ reachBytes) = true) :
    Calls Try.prog 7 args W fun e w' => e = .returned (.bool true) ∧ Below W.heap.size W w' := by
  rw [Try.params7] at hA hval hsz
  obtain ⟨v0, vs0, d0, ds0, p0, q0, e0, rfl, rfl, h0, g0⟩ := trodAll_cons hA
  obtain ⟨v1, vs1, d1, ds1, p1, q1, e1, rfl, rfl, h1, g1⟩ := trodAll_cons g0
  obtain ⟨ez, rfl, rfl⟩ := trodAll_nil g1
  subst ez
  subst e1
  obtain rfl : args = #[v0, v1] := Array.toList_inj.1 e0
  clear e0
  obtain ⟨y0, rfl, hR0, hW0⟩ := U.open_Store (hval 0 67 v0 rfl rfl) h0 (fun x hx => hlt x (by simp [hx]))
  obtain ⟨s1, rfl, -, -, hs1⟩ := open_string Try.underlying9 (hval 1 9 v1 rfl rfl) h1
  have HSS1 := Lib.hid hs1
  clear hs1
  clear hval hA hlt hsz h0 h1
  have HSZ0 := Lib.hid (fun q h0 h1 w' (h : Below W.heap.size W w') => U.sz_Store y0 q hW0 h0 h1 w' ((hR0.below h).more h.size))
  have HRY0 := Lib.hid (fun w' (h : Below W.heap.size W w') => ((hR0.below h).more h.size : RowsRd w' w'.heap.size y0.rows))
  clear hR0 hW0
  dsimp only [L6.LS.v, L6.LS.cells, L4.K.v, L4.R.v, L7.Cu.v, U.LR.v, U.LX.v, U.vI] at HSZ0
  try dsimp only [L6.LS.v, L6.LS.cells, L4.K.v, L4.R.v, L7.Cu.v, U.LR.v, U.LX.v, U.vI]
  have S1 := Lib.hid (show Sl.Sep W (W.alloc (.cells #[.string y0.name, .slice y0.a y0.xs.length y0.c, .int .i64 y0.auto] 67)) [L4.boxR W.heap.size 67 (U.cs_Store y0)] from L4.push_box (Sl.Sep.start W) 67 #[.string y0.name, .slice y0.a y0.xs.length y0.c, .int .i64 y0.auto] (W.heap.size) (by simp))
  obtain ⟨wa, hwa⟩ : ∃ u, u = (W.alloc (.cells #[.string y0.name, .slice y0.a y0.xs.length y0.c, .int .i64 y0.auto] 67)) := ⟨_, rfl⟩
  rw [← hwa] at S1
  go_enter Try.func7, Try.ntmps7
  go_upto_region 1 with fail
  rw [← hwa]
  clear hwa
  by_cases G1 : (s1.size : Int) > 1048576
  · skip
    go_wp2_with fail
    go_ret
    exact ⟨rfl, S1.out.old⟩
  have L1 := Lib.hid (show s1.size ≤ 1048576 from by omega)
  have hh := Bag.cs3 S1.out 0 rfl
  have f0 := hh.1; have f1 := hh.2.1; have f2 := hh.2.2; clear hh
  go_wp2_with fail
  go_at_call 38
  have HC := HSZ0.out 1048576 (by omega) (by omega) _ S1.out.old
  try dsimp only [L6.LS.v, L6.LS.cells, L4.K.v, L4.R.v, L7.Cu.v, U.LR.v, U.LX.v, U.vI] at HC
  refine HC.mono ?_
  clear HC
  rintro e w1 ⟨u0, rfl, ro, hb⟩
  clear f0 f1 f2
  have S2 := Lib.hid (S1.out.keep hb)
  clear S1
  clear hb
  have HRO0 := Lib.hid ro
  have X0 : -1 ≤ u0 ∧ u0 ≤ 1048576 := ⟨ro.1, ro.2.1⟩
  clear ro
  by_cases neg0 : u0 < 0
  · skip
    go_wp2_with fail
    go_ret
    exact ⟨rfl, S2.out.old⟩
  have HF0 := Lib.hid (HRO0.out.2.2 (by omega))
  obtain ⟨C0, hC0⟩ : ∃ C, y0.con = C := ⟨_, rfl⟩
  rw [hC0] at HF0
  have HC0 := Lib.hid hC0
  clear hC0
  obtain ⟨r0', hr0'⟩ : ∃ r : List L6.It, L7.idxI C0.items s1.data.toList = r := ⟨_, rfl⟩
  have Cspec : ∀ (z0 : L6.LS), z0.con = C0 → ∀ w' : World, RowsRd w' w'.heap.size z0.rows → Calls Try.prog 47 #[.agg #[.string z0.name, .slice z0.a z0.xs.length z0.c, .int .i64 z0.auto], .string s1] w' fun e w'' => ∃ (z0 : U.LX), e = .returned (.slice z0.a z0.xs.length z0.c) ∧ z0.con = r0' ∧ BagOwn w'' w'.heap.size (z0.rows) ∧ Below w'.heap.size w' w'' := by
    intro z0 hz0 w' hr0
    have hf0 : L6.FitS z0.con := by rw [hz0]; exact HF0.out
    have h := L7.specIndexOn_any z0 s1 hf0 w' hr0
    rw [hz0, hr0'] at h
    exact h.mono (fun e w ⟨a, c, ys, he, hc, ho, hb⟩ => ⟨⟨a, c, ys⟩, he, hc, ho, hb⟩)
  replace Cspec := Lib.hid Cspec
  have Cimpl : ∀ (z0 : L6.LS), z0.con = C0 → ∀ w' : World, RowsRd w' w'.heap.size z0.rows → Calls Try.prog 25 #[.agg #[.string z0.name, .slice z0.a z0.xs.length z0.c, .int .i64 z0.auto], .string s1] w' fun e w'' => ∃ (z0 : U.LX), e = .returned (.slice z0.a z0.xs.length z0.c) ∧ z0.con = r0' ∧ BagOwn w'' w'.heap.size (z0.rows) ∧ Below w'.heap.size w' w'' := by
    intro z0 hz0 w' hr0
    have hf0 : L6.FitS z0.con := by rw [hz0]; exact HF0.out
    have h := L7.indexOn_any z0 s1 hf0 w' hr0
    rw [hz0, hr0'] at h
    exact h.mono (fun e w ⟨a, c, ys, he, hc, ho, hb⟩ => ⟨⟨a, c, ys⟩, he, hc, ho, hb⟩)
  replace Cimpl := Lib.hid Cimpl
  have HFR0 := Lib.hid (show U.Fit_ItemS r0' from by rw [← hr0']; exact ⟨Nat.le_trans (L7.idxI_len _ _) HF0.out.len, L7.fit_idx HF0.out.items⟩)
  clear hr0'
  have hh := Bag.cs3 S2.out 0 rfl
  have f0 := hh.1; have f1 := hh.2.1; have f2 := hh.2.2; clear hh
  go_wp2_with fail
  go_at_call 40
  have HC := U.to_Store y0 (by rw [HC0.out]; exact HF0.out) _ (HRY0.out _ S2.out.old)
  try dsimp only [L6.LS.v, L6.LS.cells, L4.K.v, L4.R.v, L7.Cu.v, U.LR.v, U.LX.v, U.vI] at HC
  refine HC.mono ?_
  clear HC
  rintro e w2 ⟨z1', rfl, hcon, ho, hb⟩
  clear f0 f1 f2
  have S3 := Lib.hid (show Sl.Sep W _ [L4.boxR W.heap.size 67 (U.cs_Store y0), Bag.bag z1'.rows] from Bag.push_bag S2.out hb ho)
  clear S2
  clear hb ho
  have HZz1' := Lib.hid (hcon.trans HC0.out)
  clear hcon
  try dsimp only [L6.LS.v, L6.LS.cells, L4.K.v, L4.R.v, L7.Cu.v, U.LR.v, U.LX.v, U.vI]
  go_wp2_with fail
  go_at_call 47
  have HC := Cspec.out z1' HZz1'.out _ (Bag.bag_rd S3.out 1 rfl)
  try dsimp only [L6.LS.v, L6.LS.cells, L4.K.v, L4.R.v, L7.Cu.v, U.LR.v, U.LX.v, U.vI] at HC
  refine HC.mono ?_
  clear HC
  rintro e w3 ⟨z2r0', rfl, hcon0, ho, hb⟩
  have S4 := Lib.hid (show Sl.Sep W _ [L4.boxR W.heap.size 67 (U.cs_Store y0), Bag.bag z1'.rows, Bag.bag z2r0'.rows] from Bag.push_bag S3.out hb ho)
  clear S3
  clear hb ho
  have HZz2r0' := Lib.hid hcon0
  clear hcon0
  have S5 := Lib.hid (show Sl.Sep W _ [L4.boxR W.heap.size 67 (U.cs_Store y0), Bag.bag z2r0'.rows] from Bag.take S4.out [0, 2] (by rfl) (by decide))
  clear S4
  have hh := Bag.cs3 S5.out 0 rfl
  have f0 := hh.1; have f1 := hh.2.1; have f2 := hh.2.2; clear hh
  go_wp2_with fail
  go_at_call 40
  have HC := U.to_Store y0 (by rw [HC0.out]; exact HF0.out) _ (HRY0.out _ S5.out.old)
  try dsimp only [L6.LS.v, L6.LS.cells, L4.K.v, L4.R.v, L7.Cu.v, U.LR.v, U.LX.v, U.vI] at HC
  refine HC.mono ?_
  clear HC
  rintro e w4 ⟨z3', rfl, hcon, ho, hb⟩
  clear f0 f1 f2
  have S6 := Lib.hid (show Sl.Sep W _ [L4.boxR W.heap.size 67 (U.cs_Store y0), Bag.bag z2r0'.rows, Bag.bag z3'.rows] from Bag.push_bag S5.out hb ho)
  clear S5
  clear hb ho
  have HZz3' := Lib.hid (hcon.trans HC0.out)
  clear hcon
  try dsimp only [L6.LS.v, L6.LS.cells, L4.K.v, L4.R.v, L7.Cu.v, U.LR.v, U.LX.v, U.vI]
  go_upto_region 9 with fail
  have S7 := Lib.hid (show Sl.Sep W _ [L4.boxR W.heap.size 67 (U.cs_Store y0), Bag.bag z2r0'.rows, Bag.bag z3'.rows, L4.boxR w4.heap.size 26 (U.cs_Store z3')] from L4.push_box S6.out 26 #[.string z3'.name, .slice z3'.a z3'.xs.length z3'.c, .int .i64 z3'.auto] w4.heap.size rfl)
  clear S6
  obtain ⟨g1, hg⟩ : ∃ g', g' = w4.heap.size := ⟨_, rfl⟩
  rw [← hg] at S7 ⊢
  clear hg
  generalize w4.alloc (.cells #[.string z3'.name, .slice z3'.a z3'.xs.length z3'.c, .int .i64 z3'.auto] 26) = w5 at S7 ⊢
  have hh := Bag.cs3 S7.out 3 rfl
  have f0 := hh.1; have f1 := hh.2.1; have f2 := hh.2.2; clear hh
  go_wp2_with fail
  go_at_call 25
  have HC := Cimpl.out z3' HZz3'.out _ (Bag.bag_rd S7.out 2 rfl)
  try dsimp only [L6.LS.v, L6.LS.cells, L4.K.v, L4.R.v, L7.Cu.v, U.LR.v, U.LX.v, U.vI] at HC
  refine HC.mono ?_
  clear HC
  rintro e w6 ⟨z4r0', rfl, hcon0, ho, hb⟩
  clear f0 f1 f2
  have S8 := Lib.hid (show Sl.Sep W _ [L4.boxR W.heap.size 67 (U.cs_Store y0), Bag.bag z2r0'.rows, Bag.bag z3'.rows, L4.boxR g1 26 (U.cs_Store z3'), Bag.bag z4r0'.rows] from Bag.push_bag S7.out hb ho)
  clear S7
  clear hb ho
  have HZz4r0' := Lib.hid hcon0
  clear hcon0
  go_wp2_with fail
  go_at_call 42
  have HC := U.eq_ItemS z4r0' z2r0' (HZz4r0'.out.trans HZz2r0'.out.symm) (by rw [HZz4r0'.out]; exact HFR0.out) _ (Bag.bag_rd S8.out 4 rfl) (Bag.bag_rd S8.out 1 rfl)
  try dsimp only [L6.LS.v, L6.LS.cells, L4.K.v, L4.R.v, L7.Cu.v, U.LR.v, U.LX.v, U.vI] at HC
  refine HC.mono ?_
  clear HC
  rintro e w7 ⟨rfl, hb⟩
  have S9 := Lib.hid (S8.out.keep hb)
  clear S8
  clear hb
  go_upto_region 12 with fail
  refine wp_region_held_drew (S := (fun w' => (World.cell? w' ⟨W.heap.size, 0, none⟩ = some (.string y0.name) ∧ World.cell? w' ⟨W.heap.size, 1, none⟩ = some (.slice y0.a y0.xs.length y0.c) ∧ World.cell? w' ⟨W.heap.size, 2, none⟩ = some (.int .i64 y0.auto)) ∧ (World.cell? w' ⟨g1, 0, none⟩ = some (.string z3'.name) ∧ World.cell? w' ⟨g1, 1, none⟩ = some (.slice z3'.a z3'.xs.length z3'.c) ∧ World.cell? w' ⟨g1, 2, none⟩ = some (.int .i64 z3'.auto)))) (by kernel_rfl) ⟨Bag.cs3 (Bag.drew1 S9.out) 0 rfl, Bag.cs3 (Bag.drew1 S9.out) 3 rfl⟩ (fun hS => ?_)
  have S10 := Lib.hid (show Sl.Sep W _ [L4.boxR W.heap.size 67 (U.cs_Store y0), Bag.bag z2r0'.rows, Bag.bag z3'.rows, L4.boxR g1 26 (U.cs_Store z3'), Bag.bag z4r0'.rows] from Bag.drew1 S9.out)
  clear S9
  generalize World.drew _ = w8 at hS S10 ⊢
  refine tk 0 rfl ?_
  try simp only [zp0, zp1, zp2, zp3, zp4]
  refine tk 1 rfl ?_
  try simp only [zp0, zp1, zp2, zp3, zp4]
  refine Reg.one_op (i := 2) rfl (by kernel_rfl) (fun K hK => ?_)
  go_simp
  go_at_call 40
  have HC := U.to_Store y0 (by rw [HC0.out]; exact HF0.out) _ (HRY0.out _ S10.out.old)
  try dsimp only [L6.LS.v, L6.LS.cells, L4.K.v, L4.R.v, L7.Cu.v, U.LR.v, U.LX.v, U.vI] at HC
  refine HC.mono ?_
  clear HC
  rintro e w9 ⟨z5', rfl, hcon, ho, hb⟩
  have S11 := Lib.hid (show Sl.Sep W _ [L4.boxR W.heap.size 67 (U.cs_Store y0), Bag.bag z2r0'.rows, Bag.bag z3'.rows, L4.boxR g1 26 (U.cs_Store z3'), Bag.bag z4r0'.rows, Bag.bag z5'.rows] from Bag.push_bag S10.out hb ho)
  clear S10
  clear hb ho
  have HZz5' := Lib.hid (hcon.trans HC0.out)
  clear hcon
  try dsimp only [L6.LS.v, L6.LS.cells, L4.K.v, L4.R.v, L7.Cu.v, U.LR.v, U.LX.v, U.vI]
  go_wp2_with fail
  refine hK.out _ _ ⟨Bag.cs3 S11.out 0 rfl, Bag.cs3 S11.out 3 rfl⟩ (fun hS => ?_)
  clear hK K
  try simp only [zp0, zp1, zp2, zp3, zp4]
  refine Reg.one_op (i := 3) rfl (by kernel_rfl) (fun K hK => ?_)
  go_simp
  go_at_call 43
  have HC := U.eq_Store z3' z5' (HZz3'.out.trans HZz5'.out.symm) (by rw [HZz3'.out]; exact HF0.out) _ (Bag.bag_rd S11.out 2 rfl) (Bag.bag_rd S11.out 5 rfl)
  try dsimp only [L6.LS.v, L6.LS.cells, L4.K.v, L4.R.v, L7.Cu.v, U.LR.v, U.LX.v, U.vI] at HC
  refine HC.mono ?_
  clear HC
  rintro e w10 ⟨rfl, hb⟩
  have S12 := Lib.hid (S11.out.keep hb)
  clear S11
  clear hb
  go_wp2_with fail
  refine hK.out _ _ ⟨Bag.cs3 S12.out 0 rfl, Bag.cs3 S12.out 3 rfl⟩ (fun hS => ?_)
  clear hK K
  try simp only [zp0, zp1, zp2, zp3, zp4]
  refine tk 4 rfl ?_
  try simp only [zp0, zp1, zp2, zp3, zp4]
  refine wpAnyH_done (by kernel_rfl) ?_ _
  have hh := Bag.cs3 S12.out 0 rfl
  have f0 := hh.1; have f1 := hh.2.1; have f2 := hh.2.2; clear hh
  have hh := Bag.cs3 S12.out 3 rfl
  have f3 := hh.1; have f4 := hh.2.1; have f5 := hh.2.2; clear hh
  have S13 := Lib.hid (show Sl.Sep W _ [L4.boxR W.heap.size 67 (U.cs_Store y0), Bag.bag z2r0'.rows, Bag.bag z3'.rows, L4.boxR g1 26 (U.cs_Store z3'), Bag.bag z4r0'.rows] from Bag.take S12.out [0, 1, 2, 3, 4] (by rfl) (by decide))
  clear S12
  obtain ⟨Ez3', hE⟩ : ∃ E, U.end_Store 1 z3' = E := ⟨_, rfl⟩
  have hEb := U.endr_Store 1 z3' (U.Few_Store.of (by rw [HZz3'.out]; exact HF0.out))
  rw [hE] at hEb
  have hEb0 : 1 ≤ Ez3' := hEb.1
  have hEb1 : Ez3' ≤ 1 + 4398046511104 := hEb.2
  have hEb2 : 0 < Ez3' := by omega
  have hEb3 : ¬ Ez3' < 0 := by omega
  have HEz3' := Lib.hid hE
  clear hE hEb
  clear f0 f1 f2 f3 f4 f5
  have hh := Bag.cs3 S13.out 3 rfl
  have f0 := hh.1; have f1 := hh.2.1; have f2 := hh.2.2; clear hh
  go_wp2_with fail
  go_at_call 44
  have HC := U.mark_Store S13.out 2 (z := z3') rfl 1 (by rw [HZz3'.out]; exact HF0.out) (by omega) (by omega)
  try dsimp only [L6.LS.v, L6.LS.cells, L4.K.v, L4.R.v, L7.Cu.v, U.LR.v, U.LX.v, U.vI] at HC
  rw [HEz3'.out] at HC
  refine HC.mono ?_
  clear HC
  rintro e w11 ⟨rfl, hS⟩
  clear f0 f1 f2
  have S14 := Lib.hid (show Sl.Sep W _ [L4.boxR W.heap.size 67 (U.cs_Store y0), Bag.bag z2r0'.rows, Bag.bag ((L6.LS.marked 1 z3').rows), L4.boxR g1 26 (U.cs_Store z3'), Bag.bag z4r0'.rows] from hS)
  clear S13
  clear hS
  go_wp2_with fail
  go_at_call 42
  have HC := U.eq_ItemS z4r0' z2r0' (HZz4r0'.out.trans HZz2r0'.out.symm) (by rw [HZz4r0'.out]; exact HFR0.out) _ (Bag.bag_rd S14.out 4 rfl) (Bag.bag_rd S14.out 1 rfl)
  try dsimp only [L6.LS.v, L6.LS.cells, L4.K.v, L4.R.v, L7.Cu.v, U.LR.v, U.LX.v, U.vI] at HC
  refine HC.mono ?_
  clear HC
  rintro e w12 ⟨rfl, hb⟩
  have S15 := Lib.hid (S14.out.keep hb)
  clear S14
  clear hb
  obtain ⟨Ez4r0', hE⟩ : ∃ E, U.end_ItemS 1 z4r0' = E := ⟨_, rfl⟩
  have hEb := U.endr_ItemS 1 z4r0' (U.Few_ItemS.of (by rw [HZz4r0'.out]; exact HFR0.out))
  rw [hE] at hEb
  have hEb0 : 1 ≤ Ez4r0' := hEb.1
  have hEb1 : Ez4r0' ≤ 1 + 4398046511104 := hEb.2
  have hEb2 : 0 < Ez4r0' := by omega
  have hEb3 : ¬ Ez4r0' < 0 := by omega
  have HEz4r0' := Lib.hid hE
  clear hE hEb
  go_wp2_with fail
  go_at_call 45
  have HC := U.mark_ItemS S15.out 4 (z := z4r0') rfl 1 (U.Few_ItemS.of (by rw [HZz4r0'.out]; exact HFR0.out)) (by omega) (by omega)
  try dsimp only [L6.LS.v, L6.LS.cells, L4.K.v, L4.R.v, L7.Cu.v, U.LR.v, U.LX.v, U.vI] at HC
  rw [HEz4r0'.out] at HC
  refine HC.mono ?_
  clear HC
  rintro e w13 ⟨rfl, hS⟩
  have S16 := Lib.hid (show Sl.Sep W _ [L4.boxR W.heap.size 67 (U.cs_Store y0), Bag.bag z2r0'.rows, Bag.bag ((L6.LS.marked 1 z3').rows), L4.boxR g1 26 (U.cs_Store z3'), Bag.bag ((U.LX.marked 1 z4r0').rows)] from hS)
  clear S15
  clear hS
  go_wp2_with fail
  go_at_call 46
  have HC := U.held_ItemS z4r0' 1 (U.Few_ItemS.of (by rw [HZz4r0'.out]; exact HFR0.out)) (by omega) (by omega) _ (Bag.bag_rd S16.out 4 rfl)
  try dsimp only [L6.LS.v, L6.LS.cells, L4.K.v, L4.R.v, L7.Cu.v, U.LR.v, U.LX.v, U.vI] at HC
  rw [HEz4r0'.out] at HC
  refine HC.mono ?_
  clear HC
  rintro e w14 ⟨rfl, hb⟩
  have S17 := Lib.hid (S16.out.keep hb)
  clear S16
  clear hb
  have hh := Bag.cs3 S17.out 0 rfl
  have f0 := hh.1; have f1 := hh.2.1; have f2 := hh.2.2; clear hh
  go_wp2_with fail
  go_at_call 40
  have HC := U.to_Store y0 (by rw [HC0.out]; exact HF0.out) _ (HRY0.out _ S17.out.old)
  try dsimp only [L6.LS.v, L6.LS.cells, L4.K.v, L4.R.v, L7.Cu.v, U.LR.v, U.LX.v, U.vI] at HC
  refine HC.mono ?_
  clear HC
  rintro e w15 ⟨z6', rfl, hcon, ho, hb⟩
  clear f0 f1 f2
  have S18 := Lib.hid (show Sl.Sep W _ [L4.boxR W.heap.size 67 (U.cs_Store y0), Bag.bag z2r0'.rows, Bag.bag ((L6.LS.marked 1 z3').rows), L4.boxR g1 26 (U.cs_Store z3'), Bag.bag ((U.LX.marked 1 z4r0').rows), Bag.bag z6'.rows] from Bag.push_bag S17.out hb ho)
  clear S17
  clear hb ho
  have HZz6' := Lib.hid (hcon.trans HC0.out)
  clear hcon
  try dsimp only [L6.LS.v, L6.LS.cells, L4.K.v, L4.R.v, L7.Cu.v, U.LR.v, U.LX.v, U.vI]
  go_wp2_with fail
  go_at_call 25
  have HC := Cimpl.out z6' HZz6'.out _ (Bag.bag_rd S18.out 5 rfl)
  try dsimp only [L6.LS.v, L6.LS.cells, L4.K.v, L4.R.v, L7.Cu.v, U.LR.v, U.LX.v, U.vI] at HC
  refine HC.mono ?_
  clear HC
  rintro e w16 ⟨z7r0', rfl, hcon0, ho, hb⟩
  have S19 := Lib.hid (show Sl.Sep W _ [L4.boxR W.heap.size 67 (U.cs_Store y0), Bag.bag z2r0'.rows, Bag.bag ((L6.LS.marked 1 z3').rows), L4.boxR g1 26 (U.cs_Store z3'), Bag.bag ((U.LX.marked 1 z4r0').rows), Bag.bag z6'.rows, Bag.bag z7r0'.rows] from Bag.push_bag S18.out hb ho)
  clear S18
  clear hb ho
  have HZz7r0' := Lib.hid hcon0
  clear hcon0
  have S20 := Lib.hid (show Sl.Sep W _ [L4.boxR W.heap.size 67 (U.cs_Store y0), Bag.bag z2r0'.rows, Bag.bag ((L6.LS.marked 1 z3').rows), L4.boxR g1 26 (U.cs_Store z3'), Bag.bag ((U.LX.marked 1 z4r0').rows), Bag.bag z7r0'.rows] from Bag.take S19.out [0, 1, 2, 3, 4, 6] (by rfl) (by decide))
  clear S19
  go_wp2_with fail
  go_at_call 42
  have HC := U.eq_ItemS z7r0' z2r0' (HZz7r0'.out.trans HZz2r0'.out.symm) (by rw [HZz7r0'.out]; exact HFR0.out) _ (Bag.bag_rd S20.out 5 rfl) (Bag.bag_rd S20.out 1 rfl)
  try dsimp only [L6.LS.v, L6.LS.cells, L4.K.v, L4.R.v, L7.Cu.v, U.LR.v, U.LX.v, U.vI] at HC
  refine HC.mono ?_
  clear HC
  rintro e w17 ⟨rfl, hb⟩
  have S21 := Lib.hid (S20.out.keep hb)
  clear S20
  clear hb
  go_wp2_with fail
  go_at_call 46
  have HC := U.held_ItemS z4r0' 1 (U.Few_ItemS.of (by rw [HZz4r0'.out]; exact HFR0.out)) (by omega) (by omega) _ (Bag.bag_rd S21.out 4 rfl)
  try dsimp only [L6.LS.v, L6.LS.cells, L4.K.v, L4.R.v, L7.Cu.v, U.LR.v, U.LX.v, U.vI] at HC
  rw [HEz4r0'.out] at HC
  refine HC.mono ?_
  clear HC
  rintro e w18 ⟨rfl, hb⟩
  have S22 := Lib.hid (S21.out.keep hb)
  clear S21
  clear hb
  go_wp2_with fail
  go_ret
  exact ⟨rfl, S22.out.old⟩

set_option maxRecDepth 100000 in
theorem lifted (os : Os) (started : os.Started) (H : Type) (enc : TypeId × Value → H) :
    ReturnsInHanded {} Try.checked os 7 .any (Rows.fnExactIndexOnSpec.pre6 enc Try.prog Try.f7 Rows.fnExactIndexOnRow.domain false) (Rows.fnExactIndexOnSpec.post enc Try.prog Try.f7 false true false false) := by
  refine returnsInHanded_of_change_sized (C := Try.checked) own started (by kernel_rfl) Try.func7
    (ChangeSpec.witness6 (enc := enc) (C := Try.checked) false ⟨#[], #[.agg #[.string ⟨#[]⟩, .slice none 0 0, .int .i64 0], .string ⟨#[]⟩], []⟩ 8 (by kernel_rfl) (by kernel_rfl) (by kernel_rfl) (by kernel_rfl)) ?_
  intro W base args ds gs before hval0 hW _ hsz0 _
  have hval : ∀ (j : Nat) t v, Try.f7.params[j]? = some t → args[j]? = some v → Value.okWide Try.prog W .any base t v := hval0
  have hW' := hW
  obtain ⟨p, q, hA0, hV, rfl, _, _⟩ := hW
  have hA : DataW.TrodAll enc Try.prog W 0 (fun _ => true) true Try.f7.params.toList args.toList ds p := hA0
  obtain ⟨rfl, rfl⟩ := trodVars_none hV
  have hlt : ∀ x ∈ p, x.block < W.heap.size := fun x hx => hW'.lt x (by simpa using hx)
  simp only [List.append_nil] at hW'
  have hw := walk H enc W base args ds p hval hA hlt hsz0
  have hA1 := hA
  clear hA0 hval0 hsz0 hval hlt
  rw [Try.params7] at hA
  obtain ⟨v0, vs0, d0, ds0, p0, q0, e0, rfl, rfl, h0, hr0⟩ := trodAll_cons hA
  obtain ⟨v1, vs1, d1, ds1, p1, q1, e1, rfl, rfl, h1, hr1⟩ := trodAll_cons hr0
  obtain ⟨e2, rfl, rfl⟩ := trodAll_nil hr1
  refine hw.mono fun e W' ⟨he, hb⟩ => ?_
  subst he
  exact ⟨_, rfl, Frame.law_post (tb := 4) rfl hW' hA1 rfl rfl rfl laidOut (by kernel_rfl) (by kernel_rfl) Try.underlying4 hb⟩

theorem holds : Rows.FnExactIndexOnSaid :=
  OpenClaim.holds_of_wide 7 Try.f7 rfl rfl rfl rfl rfl rfl rfl ⟨rfl, rfl, rfl, rfl, rfl⟩ rfl rfl rfl rfl rfl (by kernel_rfl) Try.func7 (by kernel_rfl)
    (of_decide_eq_true (by kernel_rfl)) (by unfold Func.isWrapper; first | (rw [if_pos (by decide +kernel)]; kernel_rfl) | (rw [if_neg (by decide +kernel)]; exact ⟨rfl, rfl⟩))
    (fun os started H enc _ => lifted os started H enc)

#print axioms holds
end Go.Proofs.Ytmnedjhfibmcnaa.lawFnExactIndexOn
