/-
  The law FnExactWalkStore answers true for every argument, and leaves its arguments as they were. No condition.
  (The frame is written by my program mk_law.py.)
-/
import Derived.Test.YtmnedjhfibmcnaaFnExactWalkStoreP3
import Derived.SizedLaws
import Derived.LaidLaws
import Derived.ShutString
import Derived.Stop.LaidErr
import Derived.Lib.LaidTab
import Derived.Deep.RegionHeld3
import Derived.Deep.DeepCutAuto
set_option linter.unusedSimpArgs false
namespace Go.Proofs.Ytmnedjhfibmcnaa.lawFnExactWalkStore
open Go.ChangeShapes Go.WideShapes Go.ChangeAt Go.RowKit
open Go.ChangeMaps (open_string shut_string)
set_option linter.unusedVariables false
theorem own : ownKnob Try.prog.godebug = none := by kernel_rfl
theorem laidOut : laidOutB Try.prog = true := by kernel_rfl
open Mem Sl Bag
open Go.Proofs.Ytmnedjhfibmcnaa.L5 (cellsF)
theorem walk_fit {xs : List L6.It} (h : ∀ x ∈ xs, L6.FitI x) : ∀ (n : Nat) (c : L7.Cu), ∀ x ∈ L7.walkI xs n c, L6.FitI x
  | 0, _, x, hx => by cases hx
  | n + 1, c, x, hx => by
    unfold L7.walkI at hx
    split at hx
    · rcases List.mem_cons.1 hx with rfl | hx
      · exact L7.curI_fit h
      · exact walk_fit h n _ x hx
    · cases hx
set_option maxRecDepth 100000 in
set_option maxHeartbeats 8000000 in
theorem walk (H : Type) (enc : TypeId × Value → H) (W : World) (base : Nat) (args : Array Value) (ds : List (DataW H)) (p : List MemPlace)
    (hval : ∀ (j : Nat) t v, Try.f11.params[j]? = some t → args[j]? = some v → Value.okWide Try.prog W .any base t v)
    (hA : DataW.TrodAll enc Try.prog W 0 (fun _ => true) true Try.f11.params.toList args.toList ds p)
    (hlt : ∀ x ∈ p, x.block < W.heap.size)
    (hsz : (DataW.weightsEach Try.prog (Try.f11.params.toList ++ Rows.fnExactWalkStoreSpec.plain.varTypes Try.prog) (ds ++ [])).all (· ≤ reachBytes) = true) :
    Calls Try.prog 11 args W fun e w' => e = .returned (.bool true) ∧ Below W.heap.size W w' := by
  rw [Try.params11] at hA hval hsz
  obtain ⟨v0, vs0, d0, ds0, p0, q0, e0, rfl, rfl, h0, g0⟩ := trodAll_cons hA
  obtain ⟨v1, vs1, d1, ds1, p1, q1, e1, rfl, rfl, h1, g1⟩ := trodAll_cons g0
  obtain ⟨ez, rfl, rfl⟩ := trodAll_nil g1
  subst ez
  subst e1
  obtain rfl : args = #[v0, v1] := Array.toList_inj.1 e0
  clear e0
  obtain ⟨y0, rfl, hR0, hW0⟩ := U.open_Store (hval 0 67 v0 rfl rfl) h0 (fun x hx => hlt x (by simp [hx]))
  obtain ⟨y1, rfl, hW1⟩ := U.open_Cursor (hval 1 83 v1 rfl rfl) h1
  clear hval hA hlt hsz h0 h1
  have HSZ0 := Lib.hid (fun q h0 h1 w' (h : Below W.heap.size W w') => U.sz_Store y0 q hW0 h0 h1 w' ((hR0.below h).more h.size))
  have HRY0 := Lib.hid (fun w' (h : Below W.heap.size W w') => ((hR0.below h).more h.size : RowsRd w' w'.heap.size y0.rows))
  clear hR0 hW0
  dsimp only [L6.LS.v, L6.LS.cells, L4.K.v, L4.R.v, L7.Cu.v, U.LR.v, U.LX.v, U.vI] at HSZ0
  have HSZ1 := Lib.hid (fun q h0 h1 w' => U.sz_Cursor y1 q hW1 h0 h1 w')
  clear hW1
  dsimp only [L6.LS.v, L6.LS.cells, L4.K.v, L4.R.v, L7.Cu.v, U.LR.v, U.LX.v, U.vI] at HSZ1
  try dsimp only [L6.LS.v, L6.LS.cells, L4.K.v, L4.R.v, L7.Cu.v, U.LR.v, U.LX.v, U.vI]
  have S1 := Lib.hid (show Sl.Sep W ((W.alloc (.cells #[.string y0.name, .slice y0.a y0.xs.length y0.c, .int .i64 y0.auto] 67)).alloc (.cells #[.bool y1.r.hl, .bool y1.r.hh, .int .i64 y1.r.lo.kind, .int .i64 y1.r.lo.n, .string y1.r.lo.text, .int .i64 y1.r.hi.kind, .int .i64 y1.r.hi.n, .string y1.r.hi.text, .bool y1.back, .bool y1.st, .int .i64 y1.k.kind, .int .i64 y1.k.n, .string y1.k.text] 83)) [L4.boxR W.heap.size 67 (U.cs_Store y0), L4.boxR (W.heap.size + 1) 83 (U.cs_Cursor y1)] from L4.push_box (L4.push_box (Sl.Sep.start W) 67 #[.string y0.name, .slice y0.a y0.xs.length y0.c, .int .i64 y0.auto] (W.heap.size) (by simp)) 83 #[.bool y1.r.hl, .bool y1.r.hh, .int .i64 y1.r.lo.kind, .int .i64 y1.r.lo.n, .string y1.r.lo.text, .int .i64 y1.r.hi.kind, .int .i64 y1.r.hi.n, .string y1.r.hi.text, .bool y1.back, .bool y1.st, .int .i64 y1.k.kind, .int .i64 y1.k.n, .string y1.k.text] (W.heap.size + 1) (by simp))
  obtain ⟨wa, hwa⟩ : ∃ u, u = ((W.alloc (.cells #[.string y0.name, .slice y0.a y0.xs.length y0.c, .int .i64 y0.auto] 67)).alloc (.cells #[.bool y1.r.hl, .bool y1.r.hh, .int .i64 y1.r.lo.kind, .int .i64 y1.r.lo.n, .string y1.r.lo.text, .int .i64 y1.r.hi.kind, .int .i64 y1.r.hi.n, .string y1.r.hi.text, .bool y1.back, .bool y1.st, .int .i64 y1.k.kind, .int .i64 y1.k.n, .string y1.k.text] 83)) := ⟨_, rfl⟩
  rw [← hwa] at S1
  go_enter Try.func11, Try.ntmps11
  go_upto_region 1 with fail
  rw [← hwa]
  clear hwa
  have hh := Bag.cs3 S1.out 0 rfl
  have f0 := hh.1; have f1 := hh.2.1; have f2 := hh.2.2; clear hh
  go_wp2_with fail
  go_at_call 38
  have HC := HSZ0.out 1048576 (by omega) (by omega) _ S1.out.old
  try dsimp only [L6.LS.v, L6.LS.cells, L4.K.v, L4.R.v, L7.Cu.v, U.LR.v, U.LX.v, U.vI] at HC
  refine HC.mono ?_
  clear HC
  rintro e w1 ⟨u0, rfl, ro, hb⟩
  clear f0 f1 f2
  have S2 := Lib.hid (S1.out.keep hb)
  clear S1
  clear hb
  have HRO0 := Lib.hid ro
  have X0 : -1 ≤ u0 ∧ u0 ≤ 1048576 := ⟨ro.1, ro.2.1⟩
  clear ro
  by_cases neg0 : u0 < 0
  · skip
    go_wp2_with fail
    go_ret
    exact ⟨rfl, S2.out.old⟩
  have HF0 := Lib.hid (HRO0.out.2.2 (by omega))
  have hh := Bag.cs13 S2.out 1 rfl
  have f0 := hh.1; have f1 := hh.2.1; have f2 := hh.2.2.1; have f3 := hh.2.2.2.1; have f4 := hh.2.2.2.2.1; have f5 := hh.2.2.2.2.2.1; have f6 := hh.2.2.2.2.2.2.1; have f7 := hh.2.2.2.2.2.2.2.1; have f8 := hh.2.2.2.2.2.2.2.2.1; have f9 := hh.2.2.2.2.2.2.2.2.2.1; have f10 := hh.2.2.2.2.2.2.2.2.2.2.1; have f11 := hh.2.2.2.2.2.2.2.2.2.2.2.1; have f12 := hh.2.2.2.2.2.2.2.2.2.2.2.2; clear hh
  go_wp2_with fail
  go_at_call 50
  have HC := HSZ1.out u0 (by omega) (by omega) w1
  try dsimp only [L6.LS.v, L6.LS.cells, L4.K.v, L4.R.v, L7.Cu.v, U.LR.v, U.LX.v, U.vI] at HC
  refine HC.mono ?_
  clear HC
  rintro e w2 ⟨u1, rfl, ro, hb⟩
  clear f0 f1 f2 f3 f4 f5 f6 f7 f8 f9 f10 f11 f12
  have S3 := Lib.hid (S2.out.keep hb)
  clear S2
  clear hb
  have HRO1 := Lib.hid ro
  have X1 : -1 ≤ u1 ∧ u1 ≤ 1048576 := ⟨ro.1, ro.2.1⟩
  clear ro
  by_cases neg1 : u1 < 0
  · skip
    go_wp2_with fail
    go_ret
    exact ⟨rfl, S3.out.old⟩
  have HF1 := Lib.hid (HRO1.out.2.2 (by omega))
  obtain ⟨C0, hC0⟩ : ∃ C, y0.con = C := ⟨_, rfl⟩
  rw [hC0] at HF0
  have HC0 := Lib.hid hC0
  clear hC0
  have HX1 := Lib.hid (show L7.FitC y1 from ⟨by have := HF1.out.1.1; omega, by have := HF1.out.1.2; omega, by have : y1.k.text.size ≤ 1048576 := HF1.out.2; omega⟩)
  obtain ⟨r0', hr0'⟩ : ∃ r : List L6.It, L7.walkI C0.items 16 y1 = r := ⟨_, rfl⟩
  have Cspec : ∀ (z0 : L6.LS), z0.con = C0 → ∀ w' : World, RowsRd w' w'.heap.size z0.rows → Calls Try.prog 56 #[.agg #[.string z0.name, .slice z0.a z0.xs.length z0.c, .int .i64 z0.auto], .agg #[.bool y1.r.hl, .bool y1.r.hh, .int .i64 y1.r.lo.kind, .int .i64 y1.r.lo.n, .string y1.r.lo.text, .int .i64 y1.r.hi.kind, .int .i64 y1.r.hi.n, .string y1.r.hi.text, .bool y1.back, .bool y1.st, .int .i64 y1.k.kind, .int .i64 y1.k.n, .string y1.k.text]] w' fun e w'' => ∃ (z0 : U.LX), e = .returned (.slice z0.a z0.xs.length z0.c) ∧ z0.con = r0' ∧ BagOwn w'' w'.heap.size (z0.rows) ∧ Below w'.heap.size w' w'' := by
    intro z0 hz0 w' hr0
    have hf0 : L6.FitS z0.con := by rw [hz0]; exact HF0.out
    have h := L7.specWalkStore_any z0 y1 hf0 HX1.out w' hr0
    rw [hz0, hr0'] at h
    exact h.mono (fun e w ⟨a, c, ys, he, hc, ho, hb⟩ => ⟨⟨a, c, ys⟩, he, hc, ho, hb⟩)
  replace Cspec := Lib.hid Cspec
  have Cimpl : ∀ (z0 : L6.LS), z0.con = C0 → ∀ w' : World, RowsRd w' w'.heap.size z0.rows → Calls Try.prog 33 #[.agg #[.string z0.name, .slice z0.a z0.xs.length z0.c, .int .i64 z0.auto], .agg #[.bool y1.r.hl, .bool y1.r.hh, .int .i64 y1.r.lo.kind, .int .i64 y1.r.lo.n, .string y1.r.lo.text, .int .i64 y1.r.hi.kind, .int .i64 y1.r.hi.n, .string y1.r.hi.text, .bool y1.back, .bool y1.st, .int .i64 y1.k.kind, .int .i64 y1.k.n, .string y1.k.text]] w' fun e w'' => ∃ (z0 : U.LX), e = .returned (.slice z0.a z0.xs.length z0.c) ∧ z0.con = r0' ∧ BagOwn w'' w'.heap.size (z0.rows) ∧ Below w'.heap.size w' w'' := by
    intro z0 hz0 w' hr0
    have hf0 : L6.FitS z0.con := by rw [hz0]; exact HF0.out
    have h := L7.walkStore_any z0 y1 hf0 HX1.out w' hr0
    rw [hz0, hr0'] at h
    exact h.mono (fun e w ⟨a, c, ys, he, hc, ho, hb⟩ => ⟨⟨a, c, ys⟩, he, hc, ho, hb⟩)
  replace Cimpl := Lib.hid Cimpl
  have HFR0 := Lib.hid (show U.Fit_ItemS r0' from by rw [← hr0']; exact ⟨Nat.le_trans (L7.walkI_len _ _ _) (by decide), walk_fit HF0.out.items 16 y1⟩)
  clear hr0'
  go_upto_region 8 with fail
  refine wp_region_held_drew (S := (fun w' => (World.cell? w' ⟨W.heap.size, 0, none⟩ = some (.string y0.name) ∧ World.cell? w' ⟨W.heap.size, 1, none⟩ = some (.slice y0.a y0.xs.length y0.c) ∧ World.cell? w' ⟨W.heap.size, 2, none⟩ = some (.int .i64 y0.auto)) ∧ (World.cell? w' ⟨W.heap.size + 1, 0, none⟩ = some (.bool y1.r.hl) ∧ World.cell? w' ⟨W.heap.size + 1, 1, none⟩ = some (.bool y1.r.hh) ∧ World.cell? w' ⟨W.heap.size + 1, 2, none⟩ = some (.int .i64 y1.r.lo.kind) ∧ World.cell? w' ⟨W.heap.size + 1, 3, none⟩ = some (.int .i64 y1.r.lo.n) ∧ World.cell? w' ⟨W.heap.size + 1, 4, none⟩ = some (.string y1.r.lo.text) ∧ World.cell? w' ⟨W.heap.size + 1, 5, none⟩ = some (.int .i64 y1.r.hi.kind) ∧ World.cell? w' ⟨W.heap.size + 1, 6, none⟩ = some (.int .i64 y1.r.hi.n) ∧ World.cell? w' ⟨W.heap.size + 1, 7, none⟩ = some (.string y1.r.hi.text) ∧ World.cell? w' ⟨W.heap.size + 1, 8, none⟩ = some (.bool y1.back) ∧ World.cell? w' ⟨W.heap.size + 1, 9, none⟩ = some (.bool y1.st) ∧ World.cell? w' ⟨W.heap.size + 1, 10, none⟩ = some (.int .i64 y1.k.kind) ∧ World.cell? w' ⟨W.heap.size + 1, 11, none⟩ = some (.int .i64 y1.k.n) ∧ World.cell? w' ⟨W.heap.size + 1, 12, none⟩ = some (.string y1.k.text)))) (by kernel_rfl) ⟨Bag.cs3 (Bag.drew1 S3.out) 0 rfl, Bag.cs13 (Bag.drew1 S3.out) 1 rfl⟩ (fun hS => ?_)
  have S4 := Lib.hid (show Sl.Sep W _ [L4.boxR W.heap.size 67 (U.cs_Store y0), L4.boxR (W.heap.size + 1) 83 (U.cs_Cursor y1)] from Bag.drew1 S3.out)
  clear S3
  generalize World.drew _ = w3 at hS S4 ⊢
  refine tk 0 rfl ?_
  try simp only [zp0, zp1, zp2, zp3, zp4]
  refine tk 2 rfl ?_
  try simp only [zp0, zp1, zp2, zp3, zp4]
  refine Reg.one_op (i := 1) rfl (by kernel_rfl) (fun K hK => ?_)
  go_simp
  go_at_call 40
  have HC := U.to_Store y0 (by rw [HC0.out]; exact HF0.out) _ (HRY0.out _ S4.out.old)
  try dsimp only [L6.LS.v, L6.LS.cells, L4.K.v, L4.R.v, L7.Cu.v, U.LR.v, U.LX.v, U.vI] at HC
  refine HC.mono ?_
  clear HC
  rintro e w4 ⟨z1', rfl, hcon, ho, hb⟩
  have S5 := Lib.hid (show Sl.Sep W _ [L4.boxR W.heap.size 67 (U.cs_Store y0), L4.boxR (W.heap.size + 1) 83 (U.cs_Cursor y1), Bag.bag z1'.rows] from Bag.push_bag S4.out hb ho)
  clear S4
  clear hb ho
  have HZz1' := Lib.hid (hcon.trans HC0.out)
  clear hcon
  try dsimp only [L6.LS.v, L6.LS.cells, L4.K.v, L4.R.v, L7.Cu.v, U.LR.v, U.LX.v, U.vI]
  go_wp2_with fail
  refine hK.out _ _ ⟨Bag.cs3 S5.out 0 rfl, Bag.cs13 S5.out 1 rfl⟩ (fun hS => ?_)
  clear hK K
  try simp only [zp0, zp1, zp2, zp3, zp4]
  refine Reg.one_op (i := 3) rfl (by kernel_rfl) (fun K hK => ?_)
  go_simp
  go_at_call 51
  have HC := U.to_Cursor y1 w4
  try dsimp only [L6.LS.v, L6.LS.cells, L4.K.v, L4.R.v, L7.Cu.v, U.LR.v, U.LX.v, U.vI] at HC
  refine HC.mono ?_
  clear HC
  rintro e w5 ⟨rfl, hb⟩
  have S6 := Lib.hid (S5.out.keep hb)
  clear S5
  clear hb
  go_wp2_with fail
  refine hK.out _ _ ⟨Bag.cs3 S6.out 0 rfl, Bag.cs13 S6.out 1 rfl⟩ (fun hS => ?_)
  clear hK K
  try simp only [zp0, zp1, zp2, zp3, zp4]
  refine Reg.one_op (i := 4) rfl (by kernel_rfl) (fun K hK => ?_)
  go_simp
  go_at_call 56
  have HC := Cspec.out z1' HZz1'.out _ (Bag.bag_rd S6.out 2 rfl)
  try dsimp only [L6.LS.v, L6.LS.cells, L4.K.v, L4.R.v, L7.Cu.v, U.LR.v, U.LX.v, U.vI] at HC
  refine HC.mono ?_
  clear HC
  rintro e w6 ⟨z3r0', rfl, hcon0, ho, hb⟩
  have S7 := Lib.hid (show Sl.Sep W _ [L4.boxR W.heap.size 67 (U.cs_Store y0), L4.boxR (W.heap.size + 1) 83 (U.cs_Cursor y1), Bag.bag z1'.rows, Bag.bag z3r0'.rows] from Bag.push_bag S6.out hb ho)
  clear S6
  clear hb ho
  have HZz3r0' := Lib.hid hcon0
  clear hcon0
  go_wp2_with fail
  refine hK.out _ _ ⟨Bag.cs3 S7.out 0 rfl, Bag.cs13 S7.out 1 rfl⟩ (fun hS => ?_)
  clear hK K
  try simp only [zp0, zp1, zp2, zp3, zp4]
  refine tk 5 rfl ?_
  try simp only [zp0, zp1, zp2, zp3, zp4]
  refine wpAnyH_done (by kernel_rfl) ?_ _
  have hh := Bag.cs3 S7.out 0 rfl
  have f0 := hh.1; have f1 := hh.2.1; have f2 := hh.2.2; clear hh
  have hh := Bag.cs13 S7.out 1 rfl
  have f3 := hh.1; have f4 := hh.2.1; have f5 := hh.2.2.1; have f6 := hh.2.2.2.1; have f7 := hh.2.2.2.2.1; have f8 := hh.2.2.2.2.2.1; have f9 := hh.2.2.2.2.2.2.1; have f10 := hh.2.2.2.2.2.2.2.1; have f11 := hh.2.2.2.2.2.2.2.2.1; have f12 := hh.2.2.2.2.2.2.2.2.2.1; have f13 := hh.2.2.2.2.2.2.2.2.2.2.1; have f14 := hh.2.2.2.2.2.2.2.2.2.2.2.1; have f15 := hh.2.2.2.2.2.2.2.2.2.2.2.2; clear hh
  have S8 := Lib.hid (show Sl.Sep W _ [L4.boxR W.heap.size 67 (U.cs_Store y0), L4.boxR (W.heap.size + 1) 83 (U.cs_Cursor y1), Bag.bag z3r0'.rows] from Bag.take S7.out [0, 1, 3] (by rfl) (by decide))
  clear S7
  clear f0 f1 f2 f3 f4 f5 f6 f7 f8 f9 f10 f11 f12 f13 f14 f15
  have hh := Bag.cs3 S8.out 0 rfl
  have f0 := hh.1; have f1 := hh.2.1; have f2 := hh.2.2; clear hh
  go_wp2_with fail
  go_at_call 40
  have HC := U.to_Store y0 (by rw [HC0.out]; exact HF0.out) _ (HRY0.out _ S8.out.old)
  try dsimp only [L6.LS.v, L6.LS.cells, L4.K.v, L4.R.v, L7.Cu.v, U.LR.v, U.LX.v, U.vI] at HC
  refine HC.mono ?_
  clear HC
  rintro e w7 ⟨z4', rfl, hcon, ho, hb⟩
  clear f0 f1 f2
  have S9 := Lib.hid (show Sl.Sep W _ [L4.boxR W.heap.size 67 (U.cs_Store y0), L4.boxR (W.heap.size + 1) 83 (U.cs_Cursor y1), Bag.bag z3r0'.rows, Bag.bag z4'.rows] from Bag.push_bag S8.out hb ho)
  clear S8
  clear hb ho
  have HZz4' := Lib.hid (hcon.trans HC0.out)
  clear hcon
  try dsimp only [L6.LS.v, L6.LS.cells, L4.K.v, L4.R.v, L7.Cu.v, U.LR.v, U.LX.v, U.vI]
  go_upto_region 10 with fail
  have S10 := Lib.hid (show Sl.Sep W _ [L4.boxR W.heap.size 67 (U.cs_Store y0), L4.boxR (W.heap.size + 1) 83 (U.cs_Cursor y1), Bag.bag z3r0'.rows, Bag.bag z4'.rows, L4.boxR w7.heap.size 26 (U.cs_Store z4')] from L4.push_box S9.out 26 #[.string z4'.name, .slice z4'.a z4'.xs.length z4'.c, .int .i64 z4'.auto] w7.heap.size rfl)
  clear S9
  obtain ⟨g1, hg⟩ : ∃ g', g' = w7.heap.size := ⟨_, rfl⟩
  rw [← hg] at S10 ⊢
  clear hg
  generalize w7.alloc (.cells #[.string z4'.name, .slice z4'.a z4'.xs.length z4'.c, .int .i64 z4'.auto] 26) = w8 at S10 ⊢
  go_upto_region 10 with fail
  refine wp_region_held_drew (S := (fun w' => (World.cell? w' ⟨W.heap.size + 1, 0, none⟩ = some (.bool y1.r.hl) ∧ World.cell? w' ⟨W.heap.size + 1, 1, none⟩ = some (.bool y1.r.hh) ∧ World.cell? w' ⟨W.heap.size + 1, 2, none⟩ = some (.int .i64 y1.r.lo.kind) ∧ World.cell? w' ⟨W.heap.size + 1, 3, none⟩ = some (.int .i64 y1.r.lo.n) ∧ World.cell? w' ⟨W.heap.size + 1, 4, none⟩ = some (.string y1.r.lo.text) ∧ World.cell? w' ⟨W.heap.size + 1, 5, none⟩ = some (.int .i64 y1.r.hi.kind) ∧ World.cell? w' ⟨W.heap.size + 1, 6, none⟩ = some (.int .i64 y1.r.hi.n) ∧ World.cell? w' ⟨W.heap.size + 1, 7, none⟩ = some (.string y1.r.hi.text) ∧ World.cell? w' ⟨W.heap.size + 1, 8, none⟩ = some (.bool y1.back) ∧ World.cell? w' ⟨W.heap.size + 1, 9, none⟩ = some (.bool y1.st) ∧ World.cell? w' ⟨W.heap.size + 1, 10, none⟩ = some (.int .i64 y1.k.kind) ∧ World.cell? w' ⟨W.heap.size + 1, 11, none⟩ = some (.int .i64 y1.k.n) ∧ World.cell? w' ⟨W.heap.size + 1, 12, none⟩ = some (.string y1.k.text)) ∧ (World.cell? w' ⟨g1, 0, none⟩ = some (.string z4'.name) ∧ World.cell? w' ⟨g1, 1, none⟩ = some (.slice z4'.a z4'.xs.length z4'.c) ∧ World.cell? w' ⟨g1, 2, none⟩ = some (.int .i64 z4'.auto)))) (by kernel_rfl) ⟨Bag.cs13 (Bag.drew1 S10.out) 1 rfl, Bag.cs3 (Bag.drew1 S10.out) 4 rfl⟩ (fun hS => ?_)
  have S11 := Lib.hid (show Sl.Sep W _ [L4.boxR W.heap.size 67 (U.cs_Store y0), L4.boxR (W.heap.size + 1) 83 (U.cs_Cursor y1), Bag.bag z3r0'.rows, Bag.bag z4'.rows, L4.boxR g1 26 (U.cs_Store z4')] from Bag.drew1 S10.out)
  clear S10
  generalize World.drew _ = w9 at hS S11 ⊢
  refine tk 0 rfl ?_
  try simp only [zp0, zp1, zp2, zp3, zp4]
  refine tk 1 rfl ?_
  try simp only [zp0, zp1, zp2, zp3, zp4]
  refine Reg.one_op (i := 2) rfl (by kernel_rfl) (fun K hK => ?_)
  go_simp
  go_at_call 51
  have HC := U.to_Cursor y1 w9
  try dsimp only [L6.LS.v, L6.LS.cells, L4.K.v, L4.R.v, L7.Cu.v, U.LR.v, U.LX.v, U.vI] at HC
  refine HC.mono ?_
  clear HC
  rintro e w10 ⟨rfl, hb⟩
  have S12 := Lib.hid (S11.out.keep hb)
  clear S11
  clear hb
  go_wp2_with fail
  refine hK.out _ _ ⟨Bag.cs13 S12.out 1 rfl, Bag.cs3 S12.out 4 rfl⟩ (fun hS => ?_)
  clear hK K
  try simp only [zp0, zp1, zp2, zp3, zp4]
  refine Reg.one_op (i := 3) rfl (by kernel_rfl) (fun K hK => ?_)
  go_simp
  go_at_call 33
  have HC := Cimpl.out z4' HZz4'.out _ (Bag.bag_rd S12.out 3 rfl)
  try dsimp only [L6.LS.v, L6.LS.cells, L4.K.v, L4.R.v, L7.Cu.v, U.LR.v, U.LX.v, U.vI] at HC
  refine HC.mono ?_
  clear HC
  rintro e w11 ⟨z6r0', rfl, hcon0, ho, hb⟩
  have S13 := Lib.hid (show Sl.Sep W _ [L4.boxR W.heap.size 67 (U.cs_Store y0), L4.boxR (W.heap.size + 1) 83 (U.cs_Cursor y1), Bag.bag z3r0'.rows, Bag.bag z4'.rows, L4.boxR g1 26 (U.cs_Store z4'), Bag.bag z6r0'.rows] from Bag.push_bag S12.out hb ho)
  clear S12
  clear hb ho
  have HZz6r0' := Lib.hid hcon0
  clear hcon0
  go_wp2_with fail
  refine hK.out _ _ ⟨Bag.cs13 S13.out 1 rfl, Bag.cs3 S13.out 4 rfl⟩ (fun hS => ?_)
  clear hK K
  try simp only [zp0, zp1, zp2, zp3, zp4]
  refine tk 4 rfl ?_
  try simp only [zp0, zp1, zp2, zp3, zp4]
  refine wpAnyH_done (by kernel_rfl) ?_ _
  have hh := Bag.cs3 S13.out 0 rfl
  have f0 := hh.1; have f1 := hh.2.1; have f2 := hh.2.2; clear hh
  have hh := Bag.cs13 S13.out 1 rfl
  have f3 := hh.1; have f4 := hh.2.1; have f5 := hh.2.2.1; have f6 := hh.2.2.2.1; have f7 := hh.2.2.2.2.1; have f8 := hh.2.2.2.2.2.1; have f9 := hh.2.2.2.2.2.2.1; have f10 := hh.2.2.2.2.2.2.2.1; have f11 := hh.2.2.2.2.2.2.2.2.1; have f12 := hh.2.2.2.2.2.2.2.2.2.1; have f13 := hh.2.2.2.2.2.2.2.2.2.2.1; have f14 := hh.2.2.2.2.2.2.2.2.2.2.2.1; have f15 := hh.2.2.2.2.2.2.2.2.2.2.2.2; clear hh
  have hh := Bag.cs3 S13.out 4 rfl
  have f16 := hh.1; have f17 := hh.2.1; have f18 := hh.2.2; clear hh
  clear f0 f1 f2 f3 f4 f5 f6 f7 f8 f9 f10 f11 f12 f13 f14 f15 f16 f17 f18
  go_wp2_with fail
  go_at_call 42
  have HC := U.eq_ItemS z6r0' z3r0' (HZz6r0'.out.trans HZz3r0'.out.symm) (by rw [HZz6r0'.out]; exact HFR0.out) _ (Bag.bag_rd S13.out 5 rfl) (Bag.bag_rd S13.out 2 rfl)
  try dsimp only [L6.LS.v, L6.LS.cells, L4.K.v, L4.R.v, L7.Cu.v, U.LR.v, U.LX.v, U.vI] at HC
  refine HC.mono ?_
  clear HC
  rintro e w12 ⟨rfl, hb⟩
  have S14 := Lib.hid (S13.out.keep hb)
  clear S13
  clear hb
  go_upto_region 13 with fail
  refine wp_region_held_drew (S := (fun w' => (World.cell? w' ⟨W.heap.size, 0, none⟩ = some (.string y0.name) ∧ World.cell? w' ⟨W.heap.size, 1, none⟩ = some (.slice y0.a y0.xs.length y0.c) ∧ World.cell? w' ⟨W.heap.size, 2, none⟩ = some (.int .i64 y0.auto)) ∧ (World.cell? w' ⟨g1, 0, none⟩ = some (.string z4'.name) ∧ World.cell? w' ⟨g1, 1, none⟩ = some (.slice z4'.a z4'.xs.length z4'.c) ∧ World.cell? w' ⟨g1, 2, none⟩ = some (.int .i64 z4'.auto)))) (by kernel_rfl) ⟨Bag.cs3 (Bag.drew1 S14.out) 0 rfl, Bag.cs3 (Bag.drew1 S14.out) 4 rfl⟩ (fun hS => ?_)
  have S15 := Lib.hid (show Sl.Sep W _ [L4.boxR W.heap.size 67 (U.cs_Store y0), L4.boxR (W.heap.size + 1) 83 (U.cs_Cursor y1), Bag.bag z3r0'.rows, Bag.bag z4'.rows, L4.boxR g1 26 (U.cs_Store z4'), Bag.bag z6r0'.rows] from Bag.drew1 S14.out)
  clear S14
  generalize World.drew _ = w13 at hS S15 ⊢
  refine tk 0 rfl ?_
  try simp only [zp0, zp1, zp2, zp3, zp4]
  refine tk 1 rfl ?_
  try simp only [zp0, zp1, zp2, zp3, zp4]
  refine Reg.one_op (i := 2) rfl (by kernel_rfl) (fun K hK => ?_)
  go_simp
  go_at_call 40
  have HC := U.to_Store y0 (by rw [HC0.out]; exact HF0.out) _ (HRY0.out _ S15.out.old)
  try dsimp only [L6.LS.v, L6.LS.cells, L4.K.v, L4.R.v, L7.Cu.v, U.LR.v, U.LX.v, U.vI] at HC
  refine HC.mono ?_
  clear HC
  rintro e w14 ⟨z7', rfl, hcon, ho, hb⟩
  have S16 := Lib.hid (show Sl.Sep W _ [L4.boxR W.heap.size 67 (U.cs_Store y0), L4.boxR (W.heap.size + 1) 83 (U.cs_Cursor y1), Bag.bag z3r0'.rows, Bag.bag z4'.rows, L4.boxR g1 26 (U.cs_Store z4'), Bag.bag z6r0'.rows, Bag.bag z7'.rows] from Bag.push_bag S15.out hb ho)
  clear S15
  clear hb ho
  have HZz7' := Lib.hid (hcon.trans HC0.out)
  clear hcon
  try dsimp only [L6.LS.v, L6.LS.cells, L4.K.v, L4.R.v, L7.Cu.v, U.LR.v, U.LX.v, U.vI]
  go_wp2_with fail
  refine hK.out _ _ ⟨Bag.cs3 S16.out 0 rfl, Bag.cs3 S16.out 4 rfl⟩ (fun hS => ?_)
  clear hK K
  try simp only [zp0, zp1, zp2, zp3, zp4]
  refine Reg.one_op (i := 3) rfl (by kernel_rfl) (fun K hK => ?_)
  go_simp
  go_at_call 43
  have HC := U.eq_Store z4' z7' (HZz4'.out.trans HZz7'.out.symm) (by rw [HZz4'.out]; exact HF0.out) _ (Bag.bag_rd S16.out 3 rfl) (Bag.bag_rd S16.out 6 rfl)
  try dsimp only [L6.LS.v, L6.LS.cells, L4.K.v, L4.R.v, L7.Cu.v, U.LR.v, U.LX.v, U.vI] at HC
  refine HC.mono ?_
  clear HC
  rintro e w15 ⟨rfl, hb⟩
  have S17 := Lib.hid (S16.out.keep hb)
  clear S16
  clear hb
  go_wp2_with fail
  refine hK.out _ _ ⟨Bag.cs3 S17.out 0 rfl, Bag.cs3 S17.out 4 rfl⟩ (fun hS => ?_)
  clear hK K
  try simp only [zp0, zp1, zp2, zp3, zp4]
  refine tk 4 rfl ?_
  try simp only [zp0, zp1, zp2, zp3, zp4]
  refine wpAnyH_done (by kernel_rfl) ?_ _
  have hh := Bag.cs3 S17.out 0 rfl
  have f0 := hh.1; have f1 := hh.2.1; have f2 := hh.2.2; clear hh
  have hh := Bag.cs13 S17.out 1 rfl
  have f3 := hh.1; have f4 := hh.2.1; have f5 := hh.2.2.1; have f6 := hh.2.2.2.1; have f7 := hh.2.2.2.2.1; have f8 := hh.2.2.2.2.2.1; have f9 := hh.2.2.2.2.2.2.1; have f10 := hh.2.2.2.2.2.2.2.1; have f11 := hh.2.2.2.2.2.2.2.2.1; have f12 := hh.2.2.2.2.2.2.2.2.2.1; have f13 := hh.2.2.2.2.2.2.2.2.2.2.1; have f14 := hh.2.2.2.2.2.2.2.2.2.2.2.1; have f15 := hh.2.2.2.2.2.2.2.2.2.2.2.2; clear hh
  have hh := Bag.cs3 S17.out 4 rfl
  have f16 := hh.1; have f17 := hh.2.1; have f18 := hh.2.2; clear hh
  have S18 := Lib.hid (show Sl.Sep W _ [L4.boxR W.heap.size 67 (U.cs_Store y0), L4.boxR (W.heap.size + 1) 83 (U.cs_Cursor y1), Bag.bag z3r0'.rows, Bag.bag z4'.rows, L4.boxR g1 26 (U.cs_Store z4'), Bag.bag z6r0'.rows] from Bag.take S17.out [0, 1, 2, 3, 4, 5] (by rfl) (by decide))
  clear S17
  obtain ⟨Ez4', hE⟩ : ∃ E, U.end_Store 1 z4' = E := ⟨_, rfl⟩
  have hEb := U.endr_Store 1 z4' (U.Few_Store.of (by rw [HZz4'.out]; exact HF0.out))
  rw [hE] at hEb
  have hEb0 : 1 ≤ Ez4' := hEb.1
  have hEb1 : Ez4' ≤ 1 + 4398046511104 := hEb.2
  have hEb2 : 0 < Ez4' := by omega
  have hEb3 : ¬ Ez4' < 0 := by omega
  have HEz4' := Lib.hid hE
  clear hE hEb
  clear f0 f1 f2 f3 f4 f5 f6 f7 f8 f9 f10 f11 f12 f13 f14 f15 f16 f17 f18
  have hh := Bag.cs3 S18.out 4 rfl
  have f0 := hh.1; have f1 := hh.2.1; have f2 := hh.2.2; clear hh
  go_wp2_with fail
  go_at_call 44
  have HC := U.mark_Store S18.out 3 (z := z4') rfl 1 (by rw [HZz4'.out]; exact HF0.out) (by omega) (by omega)
  try dsimp only [L6.LS.v, L6.LS.cells, L4.K.v, L4.R.v, L7.Cu.v, U.LR.v, U.LX.v, U.vI] at HC
  rw [HEz4'.out] at HC
  refine HC.mono ?_
  clear HC
  rintro e w16 ⟨rfl, hS⟩
  clear f0 f1 f2
  have S19 := Lib.hid (show Sl.Sep W _ [L4.boxR W.heap.size 67 (U.cs_Store y0), L4.boxR (W.heap.size + 1) 83 (U.cs_Cursor y1), Bag.bag z3r0'.rows, Bag.bag ((L6.LS.marked 1 z4').rows), L4.boxR g1 26 (U.cs_Store z4'), Bag.bag z6r0'.rows] from hS)
  clear S18
  clear hS
  go_wp2_with fail
  go_at_call 42
  have HC := U.eq_ItemS z6r0' z3r0' (HZz6r0'.out.trans HZz3r0'.out.symm) (by rw [HZz6r0'.out]; exact HFR0.out) _ (Bag.bag_rd S19.out 5 rfl) (Bag.bag_rd S19.out 2 rfl)
  try dsimp only [L6.LS.v, L6.LS.cells, L4.K.v, L4.R.v, L7.Cu.v, U.LR.v, U.LX.v, U.vI] at HC
  refine HC.mono ?_
  clear HC
  rintro e w17 ⟨rfl, hb⟩
  have S20 := Lib.hid (S19.out.keep hb)
  clear S19
  clear hb
  obtain ⟨Ez6r0', hE⟩ : ∃ E, U.end_ItemS 1 z6r0' = E := ⟨_, rfl⟩
  have hEb := U.endr_ItemS 1 z6r0' (U.Few_ItemS.of (by rw [HZz6r0'.out]; exact HFR0.out))
  rw [hE] at hEb
  have hEb0 : 1 ≤ Ez6r0' := hEb.1
  have hEb1 : Ez6r0' ≤ 1 + 4398046511104 := hEb.2
  have hEb2 : 0 < Ez6r0' := by omega
  have hEb3 : ¬ Ez6r0' < 0 := by omega
  have HEz6r0' := Lib.hid hE
  clear hE hEb
  go_wp2_with fail
  go_at_call 45
  have HC := U.mark_ItemS S20.out 5 (z := z6r0') rfl 1 (U.Few_ItemS.of (by rw [HZz6r0'.out]; exact HFR0.out)) (by omega) (by omega)
  try dsimp only [L6.LS.v, L6.LS.cells, L4.K.v, L4.R.v, L7.Cu.v, U.LR.v, U.LX.v, U.vI] at HC
  rw [HEz6r0'.out] at HC
  refine HC.mono ?_
  clear HC
  rintro e w18 ⟨rfl, hS⟩
  have S21 := Lib.hid (show Sl.Sep W _ [L4.boxR W.heap.size 67 (U.cs_Store y0), L4.boxR (W.heap.size + 1) 83 (U.cs_Cursor y1), Bag.bag z3r0'.rows, Bag.bag ((L6.LS.marked 1 z4').rows), L4.boxR g1 26 (U.cs_Store z4'), Bag.bag ((U.LX.marked 1 z6r0').rows)] from hS)
  clear S20
  clear hS
  go_wp2_with fail
  go_at_call 46
  have HC := U.held_ItemS z6r0' 1 (U.Few_ItemS.of (by rw [HZz6r0'.out]; exact HFR0.out)) (by omega) (by omega) _ (Bag.bag_rd S21.out 5 rfl)
  try dsimp only [L6.LS.v, L6.LS.cells, L4.K.v, L4.R.v, L7.Cu.v, U.LR.v, U.LX.v, U.vI] at HC
  rw [HEz6r0'.out] at HC
  refine HC.mono ?_
  clear HC
  rintro e w19 ⟨rfl, hb⟩
  have S22 := Lib.hid (S21.out.keep hb)
  clear S21
  clear hb
  go_upto_region 27 with fail
  refine wp_region_held_drew (S := (fun w' => (World.cell? w' ⟨W.heap.size, 0, none⟩ = some (.string y0.name) ∧ World.cell? w' ⟨W.heap.size, 1, none⟩ = some (.slice y0.a y0.xs.length y0.c) ∧ World.cell? w' ⟨W.heap.size, 2, none⟩ = some (.int .i64 y0.auto)) ∧ (World.cell? w' ⟨W.heap.size + 1, 0, none⟩ = some (.bool y1.r.hl) ∧ World.cell? w' ⟨W.heap.size + 1, 1, none⟩ = some (.bool y1.r.hh) ∧ World.cell? w' ⟨W.heap.size + 1, 2, none⟩ = some (.int .i64 y1.r.lo.kind) ∧ World.cell? w' ⟨W.heap.size + 1, 3, none⟩ = some (.int .i64 y1.r.lo.n) ∧ World.cell? w' ⟨W.heap.size + 1, 4, none⟩ = some (.string y1.r.lo.text) ∧ World.cell? w' ⟨W.heap.size + 1, 5, none⟩ = some (.int .i64 y1.r.hi.kind) ∧ World.cell? w' ⟨W.heap.size + 1, 6, none⟩ = some (.int .i64 y1.r.hi.n) ∧ World.cell? w' ⟨W.heap.size + 1, 7, none⟩ = some (.string y1.r.hi.text) ∧ World.cell? w' ⟨W.heap.size + 1, 8, none⟩ = some (.bool y1.back) ∧ World.cell? w' ⟨W.heap.size + 1, 9, none⟩ = some (.bool y1.st) ∧ World.cell? w' ⟨W.heap.size + 1, 10, none⟩ = some (.int .i64 y1.k.kind) ∧ World.cell? w' ⟨W.heap.size + 1, 11, none⟩ = some (.int .i64 y1.k.n) ∧ World.cell? w' ⟨W.heap.size + 1, 12, none⟩ = some (.string y1.k.text)))) (by kernel_rfl) ⟨Bag.cs3 (Bag.drew1 S22.out) 0 rfl, Bag.cs13 (Bag.drew1 S22.out) 1 rfl⟩ (fun hS => ?_)
  have S23 := Lib.hid (show Sl.Sep W _ [L4.boxR W.heap.size 67 (U.cs_Store y0), L4.boxR (W.heap.size + 1) 83 (U.cs_Cursor y1), Bag.bag z3r0'.rows, Bag.bag ((L6.LS.marked 1 z4').rows), L4.boxR g1 26 (U.cs_Store z4'), Bag.bag ((U.LX.marked 1 z6r0').rows)] from Bag.drew1 S22.out)
  clear S22
  generalize World.drew _ = w20 at hS S23 ⊢
  refine tk 0 rfl ?_
  try simp only [zp0, zp1, zp2, zp3, zp4]
  refine tk 2 rfl ?_
  try simp only [zp0, zp1, zp2, zp3, zp4]
  refine Reg.one_op (i := 1) rfl (by kernel_rfl) (fun K hK => ?_)
  go_simp
  go_at_call 40
  have HC := U.to_Store y0 (by rw [HC0.out]; exact HF0.out) _ (HRY0.out _ S23.out.old)
  try dsimp only [L6.LS.v, L6.LS.cells, L4.K.v, L4.R.v, L7.Cu.v, U.LR.v, U.LX.v, U.vI] at HC
  refine HC.mono ?_
  clear HC
  rintro e w21 ⟨z8', rfl, hcon, ho, hb⟩
  have S24 := Lib.hid (show Sl.Sep W _ [L4.boxR W.heap.size 67 (U.cs_Store y0), L4.boxR (W.heap.size + 1) 83 (U.cs_Cursor y1), Bag.bag z3r0'.rows, Bag.bag ((L6.LS.marked 1 z4').rows), L4.boxR g1 26 (U.cs_Store z4'), Bag.bag ((U.LX.marked 1 z6r0').rows), Bag.bag z8'.rows] from Bag.push_bag S23.out hb ho)
  clear S23
  clear hb ho
  have HZz8' := Lib.hid (hcon.trans HC0.out)
  clear hcon
  try dsimp only [L6.LS.v, L6.LS.cells, L4.K.v, L4.R.v, L7.Cu.v, U.LR.v, U.LX.v, U.vI]
  go_wp2_with fail
  refine hK.out _ _ ⟨Bag.cs3 S24.out 0 rfl, Bag.cs13 S24.out 1 rfl⟩ (fun hS => ?_)
  clear hK K
  try simp only [zp0, zp1, zp2, zp3, zp4]
  refine Reg.one_op (i := 3) rfl (by kernel_rfl) (fun K hK => ?_)
  go_simp
  go_at_call 51
  have HC := U.to_Cursor y1 w21
  try dsimp only [L6.LS.v, L6.LS.cells, L4.K.v, L4.R.v, L7.Cu.v, U.LR.v, U.LX.v, U.vI] at HC
  refine HC.mono ?_
  clear HC
  rintro e w22 ⟨rfl, hb⟩
  have S25 := Lib.hid (S24.out.keep hb)
  clear S24
  clear hb
  go_wp2_with fail
  refine hK.out _ _ ⟨Bag.cs3 S25.out 0 rfl, Bag.cs13 S25.out 1 rfl⟩ (fun hS => ?_)
  clear hK K
  try simp only [zp0, zp1, zp2, zp3, zp4]
  refine Reg.one_op (i := 4) rfl (by kernel_rfl) (fun K hK => ?_)
  go_simp
  go_at_call 33
  have HC := Cimpl.out z8' HZz8'.out _ (Bag.bag_rd S25.out 6 rfl)
  try dsimp only [L6.LS.v, L6.LS.cells, L4.K.v, L4.R.v, L7.Cu.v, U.LR.v, U.LX.v, U.vI] at HC
  refine HC.mono ?_
  clear HC
  rintro e w23 ⟨z10r0', rfl, hcon0, ho, hb⟩
  have S26 := Lib.hid (show Sl.Sep W _ [L4.boxR W.heap.size 67 (U.cs_Store y0), L4.boxR (W.heap.size + 1) 83 (U.cs_Cursor y1), Bag.bag z3r0'.rows, Bag.bag ((L6.LS.marked 1 z4').rows), L4.boxR g1 26 (U.cs_Store z4'), Bag.bag ((U.LX.marked 1 z6r0').rows), Bag.bag z8'.rows, Bag.bag z10r0'.rows] from Bag.push_bag S25.out hb ho)
  clear S25
  clear hb ho
  have HZz10r0' := Lib.hid hcon0
  clear hcon0
  go_wp2_with fail
  refine hK.out _ _ ⟨Bag.cs3 S26.out 0 rfl, Bag.cs13 S26.out 1 rfl⟩ (fun hS => ?_)
  clear hK K
  try simp only [zp0, zp1, zp2, zp3, zp4]
  refine tk 5 rfl ?_
  try simp only [zp0, zp1, zp2, zp3, zp4]
  refine wpAnyH_done (by kernel_rfl) ?_ _
  have hh := Bag.cs3 S26.out 0 rfl
  have f0 := hh.1; have f1 := hh.2.1; have f2 := hh.2.2; clear hh
  have hh := Bag.cs13 S26.out 1 rfl
  have f3 := hh.1; have f4 := hh.2.1; have f5 := hh.2.2.1; have f6 := hh.2.2.2.1; have f7 := hh.2.2.2.2.1; have f8 := hh.2.2.2.2.2.1; have f9 := hh.2.2.2.2.2.2.1; have f10 := hh.2.2.2.2.2.2.2.1; have f11 := hh.2.2.2.2.2.2.2.2.1; have f12 := hh.2.2.2.2.2.2.2.2.2.1; have f13 := hh.2.2.2.2.2.2.2.2.2.2.1; have f14 := hh.2.2.2.2.2.2.2.2.2.2.2.1; have f15 := hh.2.2.2.2.2.2.2.2.2.2.2.2; clear hh
  have hh := Bag.cs3 S26.out 4 rfl
  have f16 := hh.1; have f17 := hh.2.1; have f18 := hh.2.2; clear hh
  have S27 := Lib.hid (show Sl.Sep W _ [L4.boxR W.heap.size 67 (U.cs_Store y0), L4.boxR (W.heap.size + 1) 83 (U.cs_Cursor y1), Bag.bag z3r0'.rows, Bag.bag ((L6.LS.marked 1 z4').rows), L4.boxR g1 26 (U.cs_Store z4'), Bag.bag ((U.LX.marked 1 z6r0').rows), Bag.bag z10r0'.rows] from Bag.take S26.out [0, 1, 2, 3, 4, 5, 7] (by rfl) (by decide))
  clear S26
  clear f0 f1 f2 f3 f4 f5 f6 f7 f8 f9 f10 f11 f12 f13 f14 f15 f16 f17 f18
  go_wp2_with fail
  go_at_call 42
  have HC := U.eq_ItemS z10r0' z3r0' (HZz10r0'.out.trans HZz3r0'.out.symm) (by rw [HZz10r0'.out]; exact HFR0.out) _ (Bag.bag_rd S27.out 6 rfl) (Bag.bag_rd S27.out 2 rfl)
  try dsimp only [L6.LS.v, L6.LS.cells, L4.K.v, L4.R.v, L7.Cu.v, U.LR.v, U.LX.v, U.vI] at HC
  refine HC.mono ?_
  clear HC
  rintro e w24 ⟨rfl, hb⟩
  have S28 := Lib.hid (S27.out.keep hb)
  clear S27
  clear hb
  go_wp2_with fail
  go_at_call 46
  have HC := U.held_ItemS z6r0' 1 (U.Few_ItemS.of (by rw [HZz6r0'.out]; exact HFR0.out)) (by omega) (by omega) _ (Bag.bag_rd S28.out 5 rfl)
  try dsimp only [L6.LS.v, L6.LS.cells, L4.K.v, L4.R.v, L7.Cu.v, U.LR.v, U.LX.v, U.vI] at HC
  rw [HEz6r0'.out] at HC
  refine HC.mono ?_
  clear HC
  rintro e w25 ⟨rfl, hb⟩
  have S29 := Lib.hid (S28.out.keep hb)
  clear S28
  clear hb
  go_wp2_with fail
  go_ret
  exact ⟨rfl, S29.out.old⟩

set_option maxRecDepth 100000 in
theorem lifted (os : Os) (started : os.Started) (H : Type) (enc : TypeId × Value → H) :
    ReturnsInHanded {} Try.checked os 11 .any (Rows.fnExactWalkStoreSpec.pre6 enc Try.prog Try.f11 Rows.fnExactWalkStoreRow.domain false) (Rows.fnExactWalkStoreSpec.post enc Try.prog Try.f11 false true false false) := by
  refine returnsInHanded_of_change_sized (C := Try.checked) own started (by kernel_rfl) Try.func11
    (ChangeSpec.witness6 (enc := enc) (C := Try.checked) false ⟨#[], #[.agg #[.string ⟨#[]⟩, .slice none 0 0, .int .i64 0], .agg #[.bool false, .bool false, .int .i64 0, .int .i64 0, .string ⟨#[]⟩, .int .i64 0, .int .i64 0, .string ⟨#[]⟩, .bool false, .bool false, .int .i64 0, .int .i64 0, .string ⟨#[]⟩]], []⟩ 8 (by kernel_rfl) (by kernel_rfl) (by kernel_rfl) (by kernel_rfl)) ?_
  intro W base args ds gs before hval0 hW _ hsz0 _
  have hval : ∀ (j : Nat) t v, Try.f11.params[j]? = some t → args[j]? = some v → Value.okWide Try.prog W .any base t v := hval0
  have hW' := hW
  obtain ⟨p, q, hA0, hV, rfl, _, _⟩ := hW
  have hA : DataW.TrodAll enc Try.prog W 0 (fun _ => true) true Try.f11.params.toList args.toList ds p := hA0
  obtain ⟨rfl, rfl⟩ := trodVars_none hV
  have hlt : ∀ x ∈ p, x.block < W.heap.size := fun x hx => hW'.lt x (by simpa using hx)
  simp only [List.append_nil] at hW'
  have hw := walk H enc W base args ds p hval hA hlt hsz0
  have hA1 := hA
  clear hA0 hval0 hsz0 hval hlt
  rw [Try.params11] at hA
  obtain ⟨v0, vs0, d0, ds0, p0, q0, e0, rfl, rfl, h0, hr0⟩ := trodAll_cons hA
  obtain ⟨v1, vs1, d1, ds1, p1, q1, e1, rfl, rfl, h1, hr1⟩ := trodAll_cons hr0
  obtain ⟨e2, rfl, rfl⟩ := trodAll_nil hr1
  refine hw.mono fun e W' ⟨he, hb⟩ => ?_
  subst he
  exact ⟨_, rfl, Frame.law_post (tb := 4) rfl hW' hA1 rfl rfl rfl laidOut (by kernel_rfl) (by kernel_rfl) Try.underlying4 hb⟩

theorem holds : Rows.FnExactWalkStoreSaid :=
  OpenClaim.holds_of_wide 11 Try.f11 rfl rfl rfl rfl rfl rfl rfl ⟨rfl, rfl, rfl, rfl, rfl⟩ rfl rfl rfl rfl rfl (by kernel_rfl) Try.func11 (by kernel_rfl)
    (of_decide_eq_true (by kernel_rfl)) (by unfold Func.isWrapper; first | (rw [if_pos (by decide +kernel)]; kernel_rfl) | (rw [if_neg (by decide +kernel)]; exact ⟨rfl, rfl⟩))
    (fun os started H enc _ => lifted os started H enc)

#print axioms holds
end Go.Proofs.Ytmnedjhfibmcnaa.lawFnExactWalkStore
