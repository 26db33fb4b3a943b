/-
  The law FnExactIsStore answers true for every argument, and leaves its arguments as they were. No condition.
  (The frame is written by my program mk_law.py.)
-/
import Derived.Test.YtkfejjoehgipmaaPa
import Derived.SizedLaws
import Derived.LaidLaws
import Derived.ShutString
import Derived.Stop.LaidErr
import Derived.Lib.LaidTab
import Derived.Test.YtkfejjoehgipmaaL6Lb
import Derived.Test.YtkfejjoehgipmaaRst
import Derived.Deep.RegionHeld3
import Derived.Deep.DeepCutAuto
import Derived.Test.YtkfejjoehgipmaaL6Sb
import Derived.Test.YtkfejjoehgipmaaL6Ic
namespace Go.Proofs.Ytkfejjoehgipmaa.lawFnExactIsStore
open Go.ChangeShapes Go.WideShapes Go.ChangeAt Go.RowKit
open Go.ChangeMaps (open_string shut_string)
set_option linter.unusedVariables false
theorem own : ownKnob Try.prog.godebug = none := by kernel_rfl
theorem laidOut : laidOutB Try.prog = true := by kernel_rfl
open Mem Sl Bag
open Go.Proofs.Ytkfejjoehgipmaa.L5 (cellsF)
set_option maxRecDepth 100000 in
set_option maxHeartbeats 8000000 in
theorem walk (H : Type) (enc : TypeId × Value → H) (W : World) (base : Nat) (args : Array Value) (ds : List (DataW H)) (p : List MemPlace)
    (hval : ∀ (j : Nat) t v, Try.f5.params[j]? = some t → args[j]? = some v → Value.okWide Try.prog W .any base t v)
    (hA : DataW.TrodAll enc Try.prog W 0 (fun _ => true) true Try.f5.params.toList args.toList ds p)
    (hlt : ∀ x ∈ p, x.block < W.heap.size)
    (hsz : (DataW.weightsEach Try.prog (Try.f5.params.toList ++ Rows.fnExactIsStoreSpec.plain.varTypes Try.prog) (ds ++ [])).all (· ≤ reachBytes) = true) :
    Calls Try.prog 5 args W fun e w' => e = .returned (.bool true) ∧ Below W.heap.size W w' := by
  rw [Try.params5] at hA hval hsz
  obtain ⟨v0, vs0, d0, ds0, p0, q0, e0, rfl, rfl, h0, g0⟩ := trodAll_cons hA
  obtain ⟨ez, rfl, rfl⟩ := trodAll_nil g0
  subst ez
  obtain rfl : args = #[v0] := Array.toList_inj.1 e0
  clear e0
  obtain ⟨y0, rfl, hR0, hW0⟩ := L6.open_store (hval 0 57 v0 rfl rfl) h0 (fun x hx => hlt x (by simp [hx]))
  clear hval hA hlt hsz h0
  have HSZ0 := Lib.hid (fun q h0 h1 w' (h : Below W.heap.size W w') => L6.szStore_any y0 q hW0 h0 h1 w' ((hR0.below h).more h.size))
  have HRY0 := Lib.hid (fun w' (h : Below W.heap.size W w') => ((hR0.below h).more h.size : RowsRd w' w'.heap.size y0.rows))
  have HWA0 := Lib.hid hW0.auto
  clear hR0 hW0
  dsimp only [L6.LS.v, L6.LS.cells] at HSZ0
  dsimp only [L6.LS.v, L6.LS.cells, L4.K.v, L4.R.v]
  have S1 := Lib.hid (show Sl.Sep W (W.alloc (.cells #[.string y0.name, .slice y0.a y0.xs.length y0.c, .int .i64 y0.auto] 57)) [L4.boxR W.heap.size 57 #[.string y0.name, .slice y0.a y0.xs.length y0.c, .int .i64 y0.auto]] from L4.push_box (Sl.Sep.start W) 57 #[.string y0.name, .slice y0.a y0.xs.length y0.c, .int .i64 y0.auto] (W.heap.size) (by simp))
  obtain ⟨wa, hwa⟩ : ∃ u, u = (W.alloc (.cells #[.string y0.name, .slice y0.a y0.xs.length y0.c, .int .i64 y0.auto] 57)) := ⟨_, rfl⟩
  rw [← hwa] at S1
  go_enter Try.func5, Try.ntmps5
  go_upto_region 1 with fail
  rw [← hwa]
  clear hwa
  have f0 : World.cell? _ ⟨W.heap.size, 0, none⟩ = some (.string y0.name) := Bag.cell_at S1.out 0 rfl 0 rfl
  have f1 : World.cell? _ ⟨W.heap.size, 1, none⟩ = some (.slice y0.a y0.xs.length y0.c) := Bag.cell_at S1.out 0 rfl 1 rfl
  have f2 : World.cell? _ ⟨W.heap.size, 2, none⟩ = some (.int .i64 y0.auto) := Bag.cell_at S1.out 0 rfl 2 rfl
  go_wp2_with fail
  go_at_call 33
  have HC := HSZ0.out 1048576 (by omega) (by omega) _ S1.out.old
  try dsimp only [L6.LS.v, L6.LS.cells, L4.K.v, L4.R.v] at HC
  refine HC.mono ?_
  clear HC
  rintro e w1 ⟨u0, rfl, ro, hb⟩
  clear f0 f1 f2
  have S2 := Lib.hid (show Sl.Sep W _ [L4.boxR W.heap.size 57 #[.string y0.name, .slice y0.a y0.xs.length y0.c, .int .i64 y0.auto]] from S1.out.keep hb)
  clear S1
  clear hb
  have HRO0 := Lib.hid ro
  have X0 : -1 ≤ u0 ∧ u0 ≤ 1048576 := ⟨ro.1, ro.2.1⟩
  clear ro
  by_cases neg0 : u0 < 0
  · skip
    go_wp2_with fail
    go_ret
    exact ⟨rfl, S2.out.old⟩
  have HF0 := Lib.hid (HRO0.out.2.2 (by omega))
  obtain ⟨C0, hC0⟩ : ∃ C, y0.con = C := ⟨_, rfl⟩
  rw [hC0] at HF0
  have HC0 := Lib.hid hC0
  clear hC0
  obtain ⟨r0', hr0'⟩ : ∃ r : Bool, L6.isS C0 = r := ⟨_, rfl⟩
  have Cspec : ∀ (z0 : L6.LS), z0.con = C0 → ∀ w' : World, RowsRd w' w'.heap.size z0.rows → Calls Try.prog 28 #[.agg #[.string z0.name, .slice z0.a z0.xs.length z0.c, .int .i64 z0.auto]] w' fun e w'' => e = .returned (.bool r0') ∧ Below w'.heap.size w' w'' := by
    intro z0 hz0 w' hr0
    have hf0 : L6.FitS z0.con := by rw [hz0]; exact HF0.out
    have h := L6.specIsStore_any z0 hf0 w' hr0
    rw [hz0, hr0'] at h
    exact h
  replace Cspec := Lib.hid Cspec
  have Cimpl : ∀ (z0 : L6.LS), z0.con = C0 → ∀ w' : World, RowsRd w' w'.heap.size z0.rows → Calls Try.prog 22 #[.agg #[.string z0.name, .slice z0.a z0.xs.length z0.c, .int .i64 z0.auto]] w' fun e w'' => e = .returned (.bool r0') ∧ Below w'.heap.size w' w'' := by
    intro z0 hz0 w' hr0
    have hf0 : L6.FitS z0.con := by rw [hz0]; exact HF0.out
    have h := L6.isStore_any z0 hf0 w' hr0
    rw [hz0, hr0'] at h
    exact h
  replace Cimpl := Lib.hid Cimpl
  clear hr0'
  have f0 : World.cell? _ ⟨W.heap.size, 0, none⟩ = some (.string y0.name) := Bag.cell_at S2.out 0 rfl 0 rfl
  have f1 : World.cell? _ ⟨W.heap.size, 1, none⟩ = some (.slice y0.a y0.xs.length y0.c) := Bag.cell_at S2.out 0 rfl 1 rfl
  have f2 : World.cell? _ ⟨W.heap.size, 2, none⟩ = some (.int .i64 y0.auto) := Bag.cell_at S2.out 0 rfl 2 rfl
  go_wp2_with fail
  go_at_call 34
  have HC := L6.toStore_any y0 (by rw [HC0.out]; exact HF0.out) _ (HRY0.out _ S2.out.old)
  try dsimp only [L6.LS.v, L6.LS.cells, L4.K.v, L4.R.v] at HC
  refine HC.mono ?_
  clear HC
  rintro e w2 ⟨z1', rfl, hcon, ho, hb⟩
  clear f0 f1 f2
  have S3 := Lib.hid (show Sl.Sep W _ [L4.boxR W.heap.size 57 #[.string y0.name, .slice y0.a y0.xs.length y0.c, .int .i64 y0.auto], Bag.bag z1'.rows] from Bag.push_bag S2.out hb ho)
  clear S2
  clear hb ho
  have HZz1' := Lib.hid (hcon.trans HC0.out)
  clear hcon
  try dsimp only [L6.LS.v, L6.LS.cells]
  go_wp2_with fail
  go_at_call 28
  have HC := Cspec.out z1' HZz1'.out _ (Bag.bag_rd S3.out 1 rfl)
  try dsimp only [L6.LS.v, L6.LS.cells, L4.K.v, L4.R.v] at HC
  refine HC.mono ?_
  clear HC
  rintro e w3 ⟨rfl, hb⟩
  have S4 := Lib.hid (show Sl.Sep W _ [L4.boxR W.heap.size 57 #[.string y0.name, .slice y0.a y0.xs.length y0.c, .int .i64 y0.auto], Bag.bag z1'.rows] from S3.out.keep hb)
  clear S3
  clear hb
  have f0 : World.cell? _ ⟨W.heap.size, 0, none⟩ = some (.string y0.name) := Bag.cell_at S4.out 0 rfl 0 rfl
  have f1 : World.cell? _ ⟨W.heap.size, 1, none⟩ = some (.slice y0.a y0.xs.length y0.c) := Bag.cell_at S4.out 0 rfl 1 rfl
  have f2 : World.cell? _ ⟨W.heap.size, 2, none⟩ = some (.int .i64 y0.auto) := Bag.cell_at S4.out 0 rfl 2 rfl
  go_wp2_with fail
  go_at_call 34
  have HC := L6.toStore_any y0 (by rw [HC0.out]; exact HF0.out) _ (HRY0.out _ S4.out.old)
  try dsimp only [L6.LS.v, L6.LS.cells, L4.K.v, L4.R.v] at HC
  refine HC.mono ?_
  clear HC
  rintro e w4 ⟨z3', rfl, hcon, ho, hb⟩
  clear f0 f1 f2
  have S5 := Lib.hid (show Sl.Sep W _ [L4.boxR W.heap.size 57 #[.string y0.name, .slice y0.a y0.xs.length y0.c, .int .i64 y0.auto], Bag.bag z1'.rows, Bag.bag z3'.rows] from Bag.push_bag S4.out hb ho)
  clear S4
  clear hb ho
  have HZz3' := Lib.hid (hcon.trans HC0.out)
  clear hcon
  try dsimp only [L6.LS.v, L6.LS.cells]
  go_upto_region 7 with fail
  have S6 := Lib.hid (show Sl.Sep W _ [L4.boxR W.heap.size 57 #[.string y0.name, .slice y0.a y0.xs.length y0.c, .int .i64 y0.auto], Bag.bag z1'.rows, Bag.bag z3'.rows, L4.boxR w4.heap.size 26 #[.string z3'.name, .slice z3'.a z3'.xs.length z3'.c, .int .i64 z3'.auto]] from L4.push_box S5.out 26 #[.string z3'.name, .slice z3'.a z3'.xs.length z3'.c, .int .i64 z3'.auto] w4.heap.size rfl)
  clear S5
  obtain ⟨g1, hg⟩ : ∃ g', g' = w4.heap.size := ⟨_, rfl⟩
  rw [← hg] at S6 ⊢
  clear hg
  generalize w4.alloc (.cells #[.string z3'.name, .slice z3'.a z3'.xs.length z3'.c, .int .i64 z3'.auto] 26) = w5 at S6 ⊢
  have f0 : World.cell? _ ⟨g1, 0, none⟩ = some (.string z3'.name) := Bag.cell_at S6.out 3 rfl 0 rfl
  have f1 : World.cell? _ ⟨g1, 1, none⟩ = some (.slice z3'.a z3'.xs.length z3'.c) := Bag.cell_at S6.out 3 rfl 1 rfl
  have f2 : World.cell? _ ⟨g1, 2, none⟩ = some (.int .i64 z3'.auto) := Bag.cell_at S6.out 3 rfl 2 rfl
  go_wp2_with fail
  go_at_call 22
  have HC := Cimpl.out z3' HZz3'.out _ (Bag.bag_rd S6.out 2 rfl)
  try dsimp only [L6.LS.v, L6.LS.cells, L4.K.v, L4.R.v] at HC
  refine HC.mono ?_
  clear HC
  rintro e w6 ⟨rfl, hb⟩
  clear f0 f1 f2
  have S7 := Lib.hid (show Sl.Sep W _ [L4.boxR W.heap.size 57 #[.string y0.name, .slice y0.a y0.xs.length y0.c, .int .i64 y0.auto], Bag.bag z1'.rows, Bag.bag z3'.rows, L4.boxR g1 26 #[.string z3'.name, .slice z3'.a z3'.xs.length z3'.c, .int .i64 z3'.auto]] from S6.out.keep hb)
  clear S6
  clear hb
  go_upto_region 10 with fail
  refine wp_region_held_drew (S := (fun w' => World.cell? w' ⟨W.heap.size, 0, none⟩ = some (.string y0.name) ∧ World.cell? w' ⟨W.heap.size, 1, none⟩ = some (.slice y0.a y0.xs.length y0.c) ∧ World.cell? w' ⟨W.heap.size, 2, none⟩ = some (.int .i64 y0.auto) ∧ World.cell? w' ⟨g1, 0, none⟩ = some (.string z3'.name) ∧ World.cell? w' ⟨g1, 1, none⟩ = some (.slice z3'.a z3'.xs.length z3'.c) ∧ World.cell? w' ⟨g1, 2, none⟩ = some (.int .i64 z3'.auto))) (by kernel_rfl) ⟨Bag.cell_at S7.out 0 rfl 0 rfl, Bag.cell_at S7.out 0 rfl 1 rfl, Bag.cell_at S7.out 0 rfl 2 rfl, Bag.cell_at S7.out 3 rfl 0 rfl, Bag.cell_at S7.out 3 rfl 1 rfl, Bag.cell_at S7.out 3 rfl 2 rfl⟩ (fun hS => ?_)
  have S8 := Lib.hid (show Sl.Sep W _ [L4.boxR W.heap.size 57 #[.string y0.name, .slice y0.a y0.xs.length y0.c, .int .i64 y0.auto], Bag.bag z1'.rows, Bag.bag z3'.rows, L4.boxR g1 26 #[.string z3'.name, .slice z3'.a z3'.xs.length z3'.c, .int .i64 z3'.auto]] from Bag.drew1 S7.out)
  clear S7
  generalize World.drew _ = w7 at hS S8 ⊢
  refine Reg.take_op (i := 0) (v := ?_) rfl (by kernel_rfl) (by kernel_rfl) (by kernel_rfl) (fun _ _ _ h => h) (by rfl) ?_ (by assumption) ?_
  rotate_left
  · (intro w hSw; (try dsimp only at hSw); go_simp; try with_reducible rfl)
  try simp only [Act.put, List.setIfInBounds_toArray, List.set_cons_zero, List.set_cons_succ]
  refine Reg.take_op (i := 1) (v := ?_) rfl (by kernel_rfl) (by kernel_rfl) (by kernel_rfl) (fun _ _ _ h => h) (by rfl) ?_ (by assumption) ?_
  rotate_left
  · (intro w hSw; (try dsimp only at hSw); go_simp; try with_reducible rfl)
  try simp only [Act.put, List.setIfInBounds_toArray, List.set_cons_zero, List.set_cons_succ]
  refine Reg.one_op (i := 2) rfl (by kernel_rfl) (fun K hK => ?_)
  go_simp
  go_at_call 34
  have HC := L6.toStore_any y0 (by rw [HC0.out]; exact HF0.out) _ (HRY0.out _ S8.out.old)
  try dsimp only [L6.LS.v, L6.LS.cells, L4.K.v, L4.R.v] at HC
  refine HC.mono ?_
  clear HC
  rintro e w8 ⟨z5', rfl, hcon, ho, hb⟩
  have S9 := Lib.hid (show Sl.Sep W _ [L4.boxR W.heap.size 57 #[.string y0.name, .slice y0.a y0.xs.length y0.c, .int .i64 y0.auto], Bag.bag z1'.rows, Bag.bag z3'.rows, L4.boxR g1 26 #[.string z3'.name, .slice z3'.a z3'.xs.length z3'.c, .int .i64 z3'.auto], Bag.bag z5'.rows] from Bag.push_bag S8.out hb ho)
  clear S8
  clear hb ho
  have HZz5' := Lib.hid (hcon.trans HC0.out)
  clear hcon
  try dsimp only [L6.LS.v, L6.LS.cells]
  go_wp2_with fail
  refine hK.out _ _ ⟨Bag.cell_at S9.out 0 rfl 0 rfl, Bag.cell_at S9.out 0 rfl 1 rfl, Bag.cell_at S9.out 0 rfl 2 rfl, Bag.cell_at S9.out 3 rfl 0 rfl, Bag.cell_at S9.out 3 rfl 1 rfl, Bag.cell_at S9.out 3 rfl 2 rfl⟩ (fun hS => ?_)
  clear hK K
  try simp only [Act.put, List.setIfInBounds_toArray, List.set_cons_zero, List.set_cons_succ]
  refine Reg.one_op (i := 3) rfl (by kernel_rfl) (fun K hK => ?_)
  go_simp
  go_at_call 35
  have HC := L6.eqStore_any z3' z5' (HZz3'.out.trans HZz5'.out.symm) (by rw [HZz3'.out]; exact HF0.out) _ (Bag.bag_rd S9.out 2 rfl) (Bag.bag_rd S9.out 4 rfl)
  try dsimp only [L6.LS.v, L6.LS.cells, L4.K.v, L4.R.v] at HC
  refine HC.mono ?_
  clear HC
  rintro e w9 ⟨rfl, hb⟩
  have S10 := Lib.hid (show Sl.Sep W _ [L4.boxR W.heap.size 57 #[.string y0.name, .slice y0.a y0.xs.length y0.c, .int .i64 y0.auto], Bag.bag z1'.rows, Bag.bag z3'.rows, L4.boxR g1 26 #[.string z3'.name, .slice z3'.a z3'.xs.length z3'.c, .int .i64 z3'.auto], Bag.bag z5'.rows] from S9.out.keep hb)
  clear S9
  clear hb
  go_wp2_with fail
  refine hK.out _ _ ⟨Bag.cell_at S10.out 0 rfl 0 rfl, Bag.cell_at S10.out 0 rfl 1 rfl, Bag.cell_at S10.out 0 rfl 2 rfl, Bag.cell_at S10.out 3 rfl 0 rfl, Bag.cell_at S10.out 3 rfl 1 rfl, Bag.cell_at S10.out 3 rfl 2 rfl⟩ (fun hS => ?_)
  clear hK K
  try simp only [Act.put, List.setIfInBounds_toArray, List.set_cons_zero, List.set_cons_succ]
  refine Reg.take_op (i := 4) (v := ?_) rfl (by kernel_rfl) (by kernel_rfl) (by kernel_rfl) (fun _ _ _ h => h) (by rfl) ?_ (by assumption) ?_
  rotate_left
  · (intro w hSw; (try dsimp only at hSw); go_simp; try with_reducible rfl)
  try simp only [Act.put, List.setIfInBounds_toArray, List.set_cons_zero, List.set_cons_succ]
  refine wpAnyH_done (by kernel_rfl) ?_ _
  have f0 : World.cell? _ ⟨W.heap.size, 0, none⟩ = some (.string y0.name) := Bag.cell_at S10.out 0 rfl 0 rfl
  have f1 : World.cell? _ ⟨W.heap.size, 1, none⟩ = some (.slice y0.a y0.xs.length y0.c) := Bag.cell_at S10.out 0 rfl 1 rfl
  have f2 : World.cell? _ ⟨W.heap.size, 2, none⟩ = some (.int .i64 y0.auto) := Bag.cell_at S10.out 0 rfl 2 rfl
  have f3 : World.cell? _ ⟨g1, 0, none⟩ = some (.string z3'.name) := Bag.cell_at S10.out 3 rfl 0 rfl
  have f4 : World.cell? _ ⟨g1, 1, none⟩ = some (.slice z3'.a z3'.xs.length z3'.c) := Bag.cell_at S10.out 3 rfl 1 rfl
  have f5 : World.cell? _ ⟨g1, 2, none⟩ = some (.int .i64 z3'.auto) := Bag.cell_at S10.out 3 rfl 2 rfl
  have S11 := Lib.hid (show Sl.Sep W _ [L4.boxR W.heap.size 57 #[.string y0.name, .slice y0.a y0.xs.length y0.c, .int .i64 y0.auto], Bag.bag z3'.rows, L4.boxR g1 26 #[.string z3'.name, .slice z3'.a z3'.xs.length z3'.c, .int .i64 z3'.auto]] from Bag.take S10.out [0, 2, 3] (by rfl) (by decide))
  clear S10
  go_wp2_with fail
  go_ret
  exact ⟨rfl, S11.out.old⟩

set_option maxRecDepth 100000 in
theorem lifted (os : Os) (started : os.Started) (H : Type) (enc : TypeId × Value → H) :
    ReturnsInHanded {} Try.checked os 5 .any (Rows.fnExactIsStoreSpec.pre6 enc Try.prog Try.f5 Rows.fnExactIsStoreRow.domain false) (Rows.fnExactIsStoreSpec.post enc Try.prog Try.f5 false true false false) := by
  refine returnsInHanded_of_change_sized (C := Try.checked) own started (by kernel_rfl) Try.func5
    (ChangeSpec.witness6 (enc := enc) (C := Try.checked) false ⟨#[], #[.agg #[.string ⟨#[]⟩, .slice none 0 0, .int .i64 0]], []⟩ 8 (by kernel_rfl) (by kernel_rfl) (by kernel_rfl) (by kernel_rfl)) ?_
  intro W base args ds gs before hval0 hW _ hsz0 _
  have hval : ∀ (j : Nat) t v, Try.f5.params[j]? = some t → args[j]? = some v → Value.okWide Try.prog W .any base t v := hval0
  have hW' := hW
  obtain ⟨p, q, hA0, hV, rfl, _, _⟩ := hW
  have hA : DataW.TrodAll enc Try.prog W 0 (fun _ => true) true Try.f5.params.toList args.toList ds p := hA0
  obtain ⟨rfl, rfl⟩ := trodVars_none hV
  have hlt : ∀ x ∈ p, x.block < W.heap.size := fun x hx => hW'.lt x (by simpa using hx)
  simp only [List.append_nil] at hW'
  have hw := walk H enc W base args ds p hval hA hlt hsz0
  have hA1 := hA
  clear hA0 hval0 hsz0 hval hlt
  rw [Try.params5] at hA
  obtain ⟨v0, vs0, d0, ds0, p0, q0, e0, rfl, rfl, h0, hr0⟩ := trodAll_cons hA
  obtain ⟨e1, rfl, rfl⟩ := trodAll_nil hr0
  refine hw.mono fun e W' ⟨he, hb⟩ => ?_
  subst he
  exact ⟨_, rfl, Frame.law_post (tb := 4) rfl hW' hA1 rfl rfl rfl laidOut (by kernel_rfl) (by kernel_rfl) Try.underlying4 hb⟩

theorem holds : Rows.FnExactIsStoreSaid :=
  OpenClaim.holds_of_wide 5 Try.f5 rfl rfl rfl rfl rfl rfl rfl ⟨rfl, rfl, rfl, rfl, rfl⟩ rfl rfl rfl rfl rfl (by kernel_rfl) Try.func5 (by kernel_rfl)
    (of_decide_eq_true (by kernel_rfl)) (by unfold Func.isWrapper; first | (rw [if_pos (by decide +kernel)]; kernel_rfl) | (rw [if_neg (by decide +kernel)]; exact ⟨rfl, rfl⟩))
    (fun os started H enc _ => lifted os started H enc)

#print axioms holds
end Go.Proofs.Ytkfejjoehgipmaa.lawFnExactIsStore
