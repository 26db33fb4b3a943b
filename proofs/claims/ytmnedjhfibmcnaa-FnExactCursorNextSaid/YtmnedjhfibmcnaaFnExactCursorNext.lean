/-
  The law FnExactCursorNext answers true for every argument, and leaves its arguments as they were. No condition.
  (The frame is written by my program mk_law.py.)
-/
import Derived.Test.YtmnedjhfibmcnaaFnExactCursorNextP3
import Derived.SizedLaws
import Derived.LaidLaws
import Derived.ShutString
import Derived.Stop.LaidErr
import Derived.Lib.LaidTab
import Derived.Deep.RegionHeld3
import Derived.Deep.DeepCutAuto
set_option linter.unusedSimpArgs false
namespace Go.Proofs.Ytmnedjhfibmcnaa.lawFnExactCursorNext
open Go.ChangeShapes Go.WideShapes Go.ChangeAt Go.RowKit
open Go.ChangeMaps (open_string shut_string)
set_option linter.unusedVariables false
theorem own : ownKnob Try.prog.godebug = none := by kernel_rfl
theorem laidOut : laidOutB Try.prog = true := by kernel_rfl
open Mem Sl Bag
open Go.Proofs.Ytmnedjhfibmcnaa.L5 (cellsF)
set_option maxRecDepth 100000 in
set_option maxHeartbeats 8000000 in
theorem walk (H : Type) (enc : TypeId × Value → H) (W : World) (base : Nat) (args : Array Value) (ds : List (DataW H)) (p : List MemPlace)
    (hval : ∀ (j : Nat) t v, Try.f10.params[j]? = some t → args[j]? = some v → Value.okWide Try.prog W .any base t v)
    (hA : DataW.TrodAll enc Try.prog W 0 (fun _ => true) true Try.f10.params.toList args.toList ds p)
    (hlt : ∀ x ∈ p, x.block < W.heap.size)
    (hsz : (DataW.weightsEach Try.prog (Try.f10.params.toList ++ Rows.fnExactCursorNextSpec.plain.varTypes Try.prog) (ds ++ [])).all (· ≤ reachBytes) = true) :
    Calls Try.prog 10 args W fun e w' => e = .returned (.bool true) ∧ Below W.heap.size W w' := by
  rw [Try.params10] at hA hval hsz
  obtain ⟨v0, vs0, d0, ds0, p0, q0, e0, rfl, rfl, h0, g0⟩ := trodAll_cons hA
  obtain ⟨v1, vs1, d1, ds1, p1, q1, e1, rfl, rfl, h1, g1⟩ := trodAll_cons g0
  obtain ⟨ez, rfl, rfl⟩ := trodAll_nil g1
  subst ez
  subst e1
  obtain rfl : args = #[v0, v1] := Array.toList_inj.1 e0
  clear e0
  obtain ⟨y0, rfl, hR0, hW0⟩ := U.open_Store (hval 0 67 v0 rfl rfl) h0 (fun x hx => hlt x (by simp [hx]))
  obtain ⟨y1, rfl, hW1⟩ := U.open_Cursor (hval 1 83 v1 rfl rfl) h1
  clear hval hA hlt hsz h0 h1
  have HSZ0 := Lib.hid (fun q h0 h1 w' (h : Below W.heap.size W w') => U.sz_Store y0 q hW0 h0 h1 w' ((hR0.below h).more h.size))
  have HRY0 := Lib.hid (fun w' (h : Below W.heap.size W w') => ((hR0.below h).more h.size : RowsRd w' w'.heap.size y0.rows))
  clear hR0 hW0
  dsimp only [L6.LS.v, L6.LS.cells, L4.K.v, L4.R.v, L7.Cu.v, U.LR.v, U.LX.v, U.vI] at HSZ0
  have HSZ1 := Lib.hid (fun q h0 h1 w' => U.sz_Cursor y1 q hW1 h0 h1 w')
  clear hW1
  dsimp only [L6.LS.v, L6.LS.cells, L4.K.v, L4.R.v, L7.Cu.v, U.LR.v, U.LX.v, U.vI] at HSZ1
  try dsimp only [L6.LS.v, L6.LS.cells, L4.K.v, L4.R.v, L7.Cu.v, U.LR.v, U.LX.v, U.vI]
  have S1 := Lib.hid (show Sl.Sep W ((W.alloc (.cells #[.string y0.name, .slice y0.a y0.xs.length y0.c, .int .i64 y0.auto] 67)).alloc (.cells #[.bool y1.r.hl, .bool y1.r.hh, .int .i64 y1.r.lo.kind, .int .i64 y1.r.lo.n, .string y1.r.lo.text, .int .i64 y1.r.hi.kind, .int .i64 y1.r.hi.n, .string y1.r.hi.text, .bool y1.back, .bool y1.st, .int .i64 y1.k.kind, .int .i64 y1.k.n, .string y1.k.text] 83)) [L4.boxR W.heap.size 67 (U.cs_Store y0), L4.boxR (W.heap.size + 1) 83 (U.cs_Cursor y1)] from L4.push_box (L4.push_box (Sl.Sep.start W) 67 #[.string y0.name, .slice y0.a y0.xs.length y0.c, .int .i64 y0.auto] (W.heap.size) (by simp)) 83 #[.bool y1.r.hl, .bool y1.r.hh, .int .i64 y1.r.lo.kind, .int .i64 y1.r.lo.n, .string y1.r.lo.text, .int .i64 y1.r.hi.kind, .int .i64 y1.r.hi.n, .string y1.r.hi.text, .bool y1.back, .bool y1.st, .int .i64 y1.k.kind, .int .i64 y1.k.n, .string y1.k.text] (W.heap.size + 1) (by simp))
  obtain ⟨wa, hwa⟩ : ∃ u, u = ((W.alloc (.cells #[.string y0.name, .slice y0.a y0.xs.length y0.c, .int .i64 y0.auto] 67)).alloc (.cells #[.bool y1.r.hl, .bool y1.r.hh, .int .i64 y1.r.lo.kind, .int .i64 y1.r.lo.n, .string y1.r.lo.text, .int .i64 y1.r.hi.kind, .int .i64 y1.r.hi.n, .string y1.r.hi.text, .bool y1.back, .bool y1.st, .int .i64 y1.k.kind, .int .i64 y1.k.n, .string y1.k.text] 83)) := ⟨_, rfl⟩
  rw [← hwa] at S1
  go_enter Try.func10, Try.ntmps10
  go_upto_region 1 with fail
  rw [← hwa]
  clear hwa
  have hh := Bag.cs3 S1.out 0 rfl
  have f0 := hh.1; have f1 := hh.2.1; have f2 := hh.2.2; clear hh
  go_wp2_with fail
  go_at_call 38
  have HC := HSZ0.out 1048576 (by omega) (by omega) _ S1.out.old
  try dsimp only [L6.LS.v, L6.LS.cells, L4.K.v, L4.R.v, L7.Cu.v, U.LR.v, U.LX.v, U.vI] at HC
  refine HC.mono ?_
  clear HC
  rintro e w1 ⟨u0, rfl, ro, hb⟩
  clear f0 f1 f2
  have S2 := Lib.hid (S1.out.keep hb)
  clear S1
  clear hb
  have HRO0 := Lib.hid ro
  have X0 : -1 ≤ u0 ∧ u0 ≤ 1048576 := ⟨ro.1, ro.2.1⟩
  clear ro
  by_cases neg0 : u0 < 0
  · skip
    go_wp2_with fail
    go_ret
    exact ⟨rfl, S2.out.old⟩
  have HF0 := Lib.hid (HRO0.out.2.2 (by omega))
  have hh := Bag.cs13 S2.out 1 rfl
  have f0 := hh.1; have f1 := hh.2.1; have f2 := hh.2.2.1; have f3 := hh.2.2.2.1; have f4 := hh.2.2.2.2.1; have f5 := hh.2.2.2.2.2.1; have f6 := hh.2.2.2.2.2.2.1; have f7 := hh.2.2.2.2.2.2.2.1; have f8 := hh.2.2.2.2.2.2.2.2.1; have f9 := hh.2.2.2.2.2.2.2.2.2.1; have f10 := hh.2.2.2.2.2.2.2.2.2.2.1; have f11 := hh.2.2.2.2.2.2.2.2.2.2.2.1; have f12 := hh.2.2.2.2.2.2.2.2.2.2.2.2; clear hh
  go_wp2_with fail
  go_at_call 50
  have HC := HSZ1.out u0 (by omega) (by omega) w1
  try dsimp only [L6.LS.v, L6.LS.cells, L4.K.v, L4.R.v, L7.Cu.v, U.LR.v, U.LX.v, U.vI] at HC
  refine HC.mono ?_
  clear HC
  rintro e w2 ⟨u1, rfl, ro, hb⟩
  clear f0 f1 f2 f3 f4 f5 f6 f7 f8 f9 f10 f11 f12
  have S3 := Lib.hid (S2.out.keep hb)
  clear S2
  clear hb
  have HRO1 := Lib.hid ro
  have X1 : -1 ≤ u1 ∧ u1 ≤ 1048576 := ⟨ro.1, ro.2.1⟩
  clear ro
  by_cases neg1 : u1 < 0
  · skip
    go_wp2_with fail
    go_ret
    exact ⟨rfl, S3.out.old⟩
  have HF1 := Lib.hid (HRO1.out.2.2 (by omega))
  obtain ⟨C0, hC0⟩ : ∃ C, y0.con = C := ⟨_, rfl⟩
  rw [hC0] at HF0
  have HC0 := Lib.hid hC0
  clear hC0
  have HX1 := Lib.hid (show L7.FitC y1 from ⟨by have := HF1.out.1.1; omega, by have := HF1.out.1.2; omega, by have : y1.k.text.size ≤ 1048576 := HF1.out.2; omega⟩)
  obtain ⟨r0', hr0'⟩ : ∃ r : L7.Cu, L7.curX y1 C0.items = r := ⟨_, rfl⟩
  obtain ⟨r1', hr1'⟩ : ∃ r : L6.It, L7.curI y1 C0.items = r := ⟨_, rfl⟩
  obtain ⟨r2', hr2'⟩ : ∃ r : Bool, L7.curB y1 C0.items = r := ⟨_, rfl⟩
  have Cspec : ∀ (z0 : L6.LS), z0.con = C0 → ∀ w' : World, RowsRd w' w'.heap.size z0.rows → Calls Try.prog 37 #[.agg #[.string z0.name, .slice z0.a z0.xs.length z0.c, .int .i64 z0.auto], .agg #[.bool y1.r.hl, .bool y1.r.hh, .int .i64 y1.r.lo.kind, .int .i64 y1.r.lo.n, .string y1.r.lo.text, .int .i64 y1.r.hi.kind, .int .i64 y1.r.hi.n, .string y1.r.hi.text, .bool y1.back, .bool y1.st, .int .i64 y1.k.kind, .int .i64 y1.k.n, .string y1.k.text]] w' fun e w'' => ∃ (z1 : L6.LI), e = .returned (.tuple #[.agg #[.bool r0'.r.hl, .bool r0'.r.hh, .int .i64 r0'.r.lo.kind, .int .i64 r0'.r.lo.n, .string r0'.r.lo.text, .int .i64 r0'.r.hi.kind, .int .i64 r0'.r.hi.n, .string r0'.r.hi.text, .bool r0'.back, .bool r0'.st, .int .i64 r0'.k.kind, .int .i64 r0'.k.n, .string r0'.k.text], .agg #[.int .i64 z1.k.kind, .int .i64 z1.k.n, .string z1.k.text, .slice z1.a z1.l.length z1.c], .bool r2']) ∧ z1.con = r1' ∧ BagOwn w'' w'.heap.size (U.rows1 z1) ∧ Below w'.heap.size w' w'' := by
    intro z0 hz0 w' hr0
    have hf0 : L6.FitS z0.con := by rw [hz0]; exact HF0.out
    have h := L7.specCursorNext_any z0 y1 hf0 HX1.out w' hr0
    rw [hz0, hr0', hr1', hr2'] at h
    exact h.mono (fun e w ⟨a, c, he, ho, hb⟩ => ⟨⟨_, a, c, _⟩, he, rfl, ho, hb⟩)
  replace Cspec := Lib.hid Cspec
  have Cimpl : ∀ (z0 : L6.LS), z0.con = C0 → ∀ w' : World, RowsRd w' w'.heap.size z0.rows → Calls Try.prog 36 #[.agg #[.string z0.name, .slice z0.a z0.xs.length z0.c, .int .i64 z0.auto], .agg #[.bool y1.r.hl, .bool y1.r.hh, .int .i64 y1.r.lo.kind, .int .i64 y1.r.lo.n, .string y1.r.lo.text, .int .i64 y1.r.hi.kind, .int .i64 y1.r.hi.n, .string y1.r.hi.text, .bool y1.back, .bool y1.st, .int .i64 y1.k.kind, .int .i64 y1.k.n, .string y1.k.text]] w' fun e w'' => ∃ (z1 : L6.LI), e = .returned (.tuple #[.agg #[.bool r0'.r.hl, .bool r0'.r.hh, .int .i64 r0'.r.lo.kind, .int .i64 r0'.r.lo.n, .string r0'.r.lo.text, .int .i64 r0'.r.hi.kind, .int .i64 r0'.r.hi.n, .string r0'.r.hi.text, .bool r0'.back, .bool r0'.st, .int .i64 r0'.k.kind, .int .i64 r0'.k.n, .string r0'.k.text], .agg #[.int .i64 z1.k.kind, .int .i64 z1.k.n, .string z1.k.text, .slice z1.a z1.l.length z1.c], .bool r2']) ∧ z1.con = r1' ∧ BagOwn w'' w'.heap.size (U.rows1 z1) ∧ Below w'.heap.size w' w'' := by
    intro z0 hz0 w' hr0
    have hf0 : L6.FitS z0.con := by rw [hz0]; exact HF0.out
    have h := L7.cursorNext_any z0 y1 hf0 HX1.out w' hr0
    rw [hz0, hr0', hr1', hr2'] at h
    exact h.mono (fun e w ⟨a, c, he, ho, hb⟩ => ⟨⟨_, a, c, _⟩, he, rfl, ho, hb⟩)
  replace Cimpl := Lib.hid Cimpl
  have HFR1 := Lib.hid (show L6.FitI r1' from by rw [← hr1']; exact L7.curI_fit HF0.out.items)
  clear hr0' hr1' hr2'
  have S4 := Lib.hid (show Sl.Sep W _ [L4.boxR W.heap.size 67 (U.cs_Store y0), L4.boxR (W.heap.size + 1) 83 (U.cs_Cursor y1)] from Bag.take S3.out [0, 1] (by rfl) (by decide))
  clear S3
  go_upto_region 8 with fail
  have HTO0 := Lib.hid (fun w' (h : Below W.heap.size W w') => U.to_Store y0 (by rw [HC0.out]; exact HF0.out) w' (HRY0.out w' h))
  try dsimp only [L6.LS.v, L6.LS.cells, L4.K.v, L4.R.v, L7.Cu.v, U.LR.v, U.LX.v, U.vI] at HTO0
  have HTO1 := Lib.hid (fun w' (h : Below W.heap.size W w') => U.to_Cursor y1 w')
  try dsimp only [L6.LS.v, L6.LS.cells, L4.K.v, L4.R.v, L7.Cu.v, U.LR.v, U.LX.v, U.vI] at HTO1
  go_cut [6, 7, 8] (fun pz0 pz1 qs0 wx => ∃ (g1a' g1b' : Nat) (z1r1' : L6.LI), pz0 = .pointer (some ⟨g1a', 0, none⟩) ∧ pz1 = .pointer (some ⟨g1b', 0, none⟩) ∧ qs0 = .bool r2' ∧ Hid (z1r1'.con = r1' ∧ Sl.Sep W wx [L4.boxR W.heap.size 67 (U.cs_Store y0), L4.boxR (W.heap.size + 1) 83 (U.cs_Cursor y1), Bag.bag (U.rows1 z1r1'), L4.boxR g1a' 60 (U.cs_Cursor r0'), L4.boxR g1b' 43 (U.cs_Item z1r1')]))
  case first =>
    refine wp_region_held_drew (S := (fun w' => (World.cell? w' ⟨W.heap.size, 0, none⟩ = some (.string y0.name) ∧ World.cell? w' ⟨W.heap.size, 1, none⟩ = some (.slice y0.a y0.xs.length y0.c) ∧ World.cell? w' ⟨W.heap.size, 2, none⟩ = some (.int .i64 y0.auto)) ∧ (World.cell? w' ⟨W.heap.size + 1, 0, none⟩ = some (.bool y1.r.hl) ∧ World.cell? w' ⟨W.heap.size + 1, 1, none⟩ = some (.bool y1.r.hh) ∧ World.cell? w' ⟨W.heap.size + 1, 2, none⟩ = some (.int .i64 y1.r.lo.kind) ∧ World.cell? w' ⟨W.heap.size + 1, 3, none⟩ = some (.int .i64 y1.r.lo.n) ∧ World.cell? w' ⟨W.heap.size + 1, 4, none⟩ = some (.string y1.r.lo.text) ∧ World.cell? w' ⟨W.heap.size + 1, 5, none⟩ = some (.int .i64 y1.r.hi.kind) ∧ World.cell? w' ⟨W.heap.size + 1, 6, none⟩ = some (.int .i64 y1.r.hi.n) ∧ World.cell? w' ⟨W.heap.size + 1, 7, none⟩ = some (.string y1.r.hi.text) ∧ World.cell? w' ⟨W.heap.size + 1, 8, none⟩ = some (.bool y1.back) ∧ World.cell? w' ⟨W.heap.size + 1, 9, none⟩ = some (.bool y1.st) ∧ World.cell? w' ⟨W.heap.size + 1, 10, none⟩ = some (.int .i64 y1.k.kind) ∧ World.cell? w' ⟨W.heap.size + 1, 11, none⟩ = some (.int .i64 y1.k.n) ∧ World.cell? w' ⟨W.heap.size + 1, 12, none⟩ = some (.string y1.k.text)))) (by kernel_rfl) ⟨Bag.cs3 (Bag.drew1 S4.out) 0 rfl, Bag.cs13 (Bag.drew1 S4.out) 1 rfl⟩ (fun hS => ?_)
    have S5 := Lib.hid (show Sl.Sep W _ [L4.boxR W.heap.size 67 (U.cs_Store y0), L4.boxR (W.heap.size + 1) 83 (U.cs_Cursor y1)] from Bag.drew1 S4.out)
    clear S4
    generalize World.drew _ = w3 at hS S5 ⊢
    apply share5
    case main =>
      intro hrest
      refine tk 0 rfl ?_
      try simp only [zp0, zp1, zp2, zp3, zp4]
      refine tk 2 rfl ?_
      try simp only [zp0, zp1, zp2, zp3, zp4]
      refine wpAnyH_ready (rs := [1, 9, 10]) (by kernel_rfl) (by simp) ?_
      refine Reg.cons_op (i := 1) rfl (fun K hK => ?_) ?_
      go_simp
      go_at_call 40
      refine (HTO0.out _ S5.out.old).mono ?_
      rintro e w4 ⟨zs0, rfl, hcon, ho, hb⟩
      have S6 := Lib.hid (show Sl.Sep W _ [L4.boxR W.heap.size 67 (U.cs_Store y0), L4.boxR (W.heap.size + 1) 83 (U.cs_Cursor y1), Bag.bag zs0.rows] from Bag.push_bag S5.out hb ho)
      clear hb ho
      have HZzs0 := Lib.hid (hcon.trans HC0.out)
      clear hcon
      go_wp2_with fail
      refine hK.out _ _ ⟨Bag.cs3 S6.out 0 rfl, Bag.cs13 S6.out 1 rfl⟩ (fun hS => ?_)
      clear hK K
      try simp only [zp0, zp1, zp2, zp3, zp4]
      refine wpAnyH_ready (rs := [3, 9, 10]) (by kernel_rfl) (by simp) ?_
      refine Reg.cons_op (i := 3) rfl (fun K hK => ?_) ?_
      go_simp
      go_at_call 51
      refine (HTO1.out w4 S6.out.old).mono ?_
      rintro e w5 ⟨rfl, hb⟩
      have S7 := Lib.hid (S6.out.keep hb)
      clear S6
      clear hb
      go_wp2_with fail
      refine hK.out _ _ ⟨Bag.cs3 S7.out 0 rfl, Bag.cs13 S7.out 1 rfl⟩ (fun hS => ?_)
      clear hK K
      try simp only [zp0, zp1, zp2, zp3, zp4]
      refine wpAnyH_ready (rs := [4, 9, 10]) (by kernel_rfl) (by simp) ?_
      refine Reg.cons_op (i := 4) rfl (fun K hK => ?_) ?_
      go_simp
      go_at_call 37
      refine (Cspec.out zs0 HZzs0.out _ (Bag.bag_rd S7.out 2 rfl)).mono ?_
      rintro e w6 ⟨zr1, rfl, hcon1, ho, hb⟩
      have S8 := Lib.hid (show Sl.Sep W _ [L4.boxR W.heap.size 67 (U.cs_Store y0), L4.boxR (W.heap.size + 1) 83 (U.cs_Cursor y1), Bag.bag zs0.rows, Bag.bag (U.rows1 zr1)] from Bag.push_bag S7.out hb ho)
      clear S7
      clear hb ho
      have HZzr1 := Lib.hid hcon1
      clear hcon1
      go_wp2_with fail
      refine hK.out _ _ ⟨Bag.cs3 S8.out 0 rfl, Bag.cs13 S8.out 1 rfl⟩ (fun hS => ?_)
      clear hK K
      try simp only [zp0, zp1, zp2, zp3, zp4]
      refine tk 5 rfl ?_
      try simp only [zp0, zp1, zp2, zp3, zp4]
      refine tk 6 rfl ?_
      try simp only [zp0, zp1, zp2, zp3, zp4]
      refine tk 7 rfl ?_
      try simp only [zp0, zp1, zp2, zp3, zp4]
      refine tk 8 rfl ?_
      try simp only [zp0, zp1, zp2, zp3, zp4]
      refine wpAnyH_ready (rs := [9, 10]) (by kernel_rfl) (by simp) ?_
      refine Reg.cons_op (i := 9) rfl (fun K hK => ?_) ?_
      go_simp
      have S9 := Lib.hid (show Sl.Sep W _ [L4.boxR W.heap.size 67 (U.cs_Store y0), L4.boxR (W.heap.size + 1) 83 (U.cs_Cursor y1), Bag.bag zs0.rows, Bag.bag (U.rows1 zr1), L4.boxR w6.heap.size 60 U.cz_Cursor] from L4.push_box S8.out 60 #[.bool false, .bool false, .int .i64 0, .int .i64 0, .string ⟨#[]⟩, .int .i64 0, .int .i64 0, .string ⟨#[]⟩, .bool false, .bool false, .int .i64 0, .int .i64 0, .string ⟨#[]⟩] w6.heap.size rfl)
      clear S8
      obtain ⟨gb0, hg⟩ : ∃ g', g' = w6.heap.size := ⟨_, rfl⟩
      rw [← hg] at S9 ⊢
      clear hg
      generalize w6.alloc (.cells #[.bool false, .bool false, .int .i64 0, .int .i64 0, .string ⟨#[]⟩, .int .i64 0, .int .i64 0, .string ⟨#[]⟩, .bool false, .bool false, .int .i64 0, .int .i64 0, .string ⟨#[]⟩] 60) = w7 at S9 ⊢
      refine hK.out _ _ ⟨Bag.cs3 S9.out 0 rfl, Bag.cs13 S9.out 1 rfl⟩ (fun hS => ?_)
      clear hK K
      try simp only [zp0, zp1, zp2, zp3, zp4]
      refine Reg.one_op (i := 10) rfl (by kernel_rfl) (fun K hK => ?_)
      go_simp
      have S10 := Lib.hid (show Sl.Sep W _ [L4.boxR W.heap.size 67 (U.cs_Store y0), L4.boxR (W.heap.size + 1) 83 (U.cs_Cursor y1), Bag.bag zs0.rows, Bag.bag (U.rows1 zr1), L4.boxR gb0 60 U.cz_Cursor, L4.boxR w7.heap.size 43 U.cz_Item] from L4.push_box S9.out 43 #[.int .i64 0, .int .i64 0, .string ⟨#[]⟩, .slice none 0 0] w7.heap.size rfl)
      clear S9
      obtain ⟨gb1, hg⟩ : ∃ g', g' = w7.heap.size := ⟨_, rfl⟩
      rw [← hg] at S10 ⊢
      clear hg
      generalize w7.alloc (.cells #[.int .i64 0, .int .i64 0, .string ⟨#[]⟩, .slice none 0 0] 43) = w8 at S10 ⊢
      refine hK.out _ _ ⟨Bag.cs3 S10.out 0 rfl, Bag.cs13 S10.out 1 rfl⟩ (fun hS => ?_)
      clear hK K
      try simp only [zp0, zp1, zp2, zp3, zp4]
      have S11 := Lib.hid (show Sl.Sep W _ [L4.boxR W.heap.size 67 (U.cs_Store y0), L4.boxR (W.heap.size + 1) 83 (U.cs_Cursor y1), Bag.bag (U.rows1 zr1), L4.boxR gb0 60 U.cz_Cursor, L4.boxR gb1 43 U.cz_Item] from Bag.take S10.out [0, 1, 3, 4, 5] (by rfl) (by decide))
      clear S10
      revert S11
      revert HZzr1
      revert hS
      exact hrest gb0 gb1 zr1 zs0 w8
      refine Reg.cons_op (i := 10) rfl (fun K hK => ?_) ?_
      go_simp
      have S9 := Lib.hid (show Sl.Sep W _ [L4.boxR W.heap.size 67 (U.cs_Store y0), L4.boxR (W.heap.size + 1) 83 (U.cs_Cursor y1), Bag.bag zs0.rows, Bag.bag (U.rows1 zr1), L4.boxR w6.heap.size 43 U.cz_Item] from L4.push_box S8.out 43 #[.int .i64 0, .int .i64 0, .string ⟨#[]⟩, .slice none 0 0] w6.heap.size rfl)
      clear S8
      obtain ⟨gb1, hg⟩ : ∃ g', g' = w6.heap.size := ⟨_, rfl⟩
      rw [← hg] at S9 ⊢
      clear hg
      generalize w6.alloc (.cells #[.int .i64 0, .int .i64 0, .string ⟨#[]⟩, .slice none 0 0] 43) = w7 at S9 ⊢
      refine hK.out _ _ ⟨Bag.cs3 S9.out 0 rfl, Bag.cs13 S9.out 1 rfl⟩ (fun hS => ?_)
      clear hK K
      try simp only [zp0, zp1, zp2, zp3, zp4]
      refine Reg.one_op (i := 9) rfl (by kernel_rfl) (fun K hK => ?_)
      go_simp
      have S10 := Lib.hid (show Sl.Sep W _ [L4.boxR W.heap.size 67 (U.cs_Store y0), L4.boxR (W.heap.size + 1) 83 (U.cs_Cursor y1), Bag.bag zs0.rows, Bag.bag (U.rows1 zr1), L4.boxR gb1 43 U.cz_Item, L4.boxR w7.heap.size 60 U.cz_Cursor] from L4.push_box S9.out 60 #[.bool false, .bool false, .int .i64 0, .int .i64 0, .string ⟨#[]⟩, .int .i64 0, .int .i64 0, .string ⟨#[]⟩, .bool false, .bool false, .int .i64 0, .int .i64 0, .string ⟨#[]⟩] w7.heap.size rfl)
      clear S9
      obtain ⟨gb0, hg⟩ : ∃ g', g' = w7.heap.size := ⟨_, rfl⟩
      rw [← hg] at S10 ⊢
      clear hg
      generalize w7.alloc (.cells #[.bool false, .bool false, .int .i64 0, .int .i64 0, .string ⟨#[]⟩, .int .i64 0, .int .i64 0, .string ⟨#[]⟩, .bool false, .bool false, .int .i64 0, .int .i64 0, .string ⟨#[]⟩] 60) = w8 at S10 ⊢
      refine hK.out _ _ ⟨Bag.cs3 S10.out 0 rfl, Bag.cs13 S10.out 1 rfl⟩ (fun hS => ?_)
      clear hK K
      try simp only [zp0, zp1, zp2, zp3, zp4]
      have S11 := Lib.hid (show Sl.Sep W _ [L4.boxR W.heap.size 67 (U.cs_Store y0), L4.boxR (W.heap.size + 1) 83 (U.cs_Cursor y1), Bag.bag (U.rows1 zr1), L4.boxR gb0 60 U.cz_Cursor, L4.boxR gb1 43 U.cz_Item] from Bag.take S10.out [0, 1, 3, 5, 4] (by rfl) (by decide))
      clear S10
      revert S11
      revert HZzr1
      revert hS
      exact hrest gb0 gb1 zr1 zs0 w8
      exact AllReadyH.nil
      refine Reg.cons_op (i := 9) rfl (fun K hK => ?_) ?_
      go_simp
      have S8 := Lib.hid (show Sl.Sep W _ [L4.boxR W.heap.size 67 (U.cs_Store y0), L4.boxR (W.heap.size + 1) 83 (U.cs_Cursor y1), Bag.bag zs0.rows, L4.boxR w5.heap.size 60 U.cz_Cursor] from L4.push_box S7.out 60 #[.bool false, .bool false, .int .i64 0, .int .i64 0, .string ⟨#[]⟩, .int .i64 0, .int .i64 0, .string ⟨#[]⟩, .bool false, .bool false, .int .i64 0, .int .i64 0, .string ⟨#[]⟩] w5.heap.size rfl)
      clear S7
      obtain ⟨gb0, hg⟩ : ∃ g', g' = w5.heap.size := ⟨_, rfl⟩
      rw [← hg] at S8 ⊢
      clear hg
      generalize w5.alloc (.cells #[.bool false, .bool false, .int .i64 0, .int .i64 0, .string ⟨#[]⟩, .int .i64 0, .int .i64 0, .string ⟨#[]⟩, .bool false, .bool false, .int .i64 0, .int .i64 0, .string ⟨#[]⟩] 60) = w6 at S8 ⊢
      refine hK.out _ _ ⟨Bag.cs3 S8.out 0 rfl, Bag.cs13 S8.out 1 rfl⟩ (fun hS => ?_)
      clear hK K
      try simp only [zp0, zp1, zp2, zp3, zp4]
      refine wpAnyH_ready (rs := [4, 10]) (by kernel_rfl) (by simp) ?_
      refine Reg.cons_op (i := 4) rfl (fun K hK => ?_) ?_
      go_simp
      go_at_call 37
      refine (Cspec.out zs0 HZzs0.out _ (Bag.bag_rd S8.out 2 rfl)).mono ?_
      rintro e w7 ⟨zr1, rfl, hcon1, ho, hb⟩
      have S9 := Lib.hid (show Sl.Sep W _ [L4.boxR W.heap.size 67 (U.cs_Store y0), L4.boxR (W.heap.size + 1) 83 (U.cs_Cursor y1), Bag.bag zs0.rows, L4.boxR gb0 60 U.cz_Cursor, Bag.bag (U.rows1 zr1)] from Bag.push_bag S8.out hb ho)
      clear S8
      clear hb ho
      have HZzr1 := Lib.hid hcon1
      clear hcon1
      go_wp2_with fail
      refine hK.out _ _ ⟨Bag.cs3 S9.out 0 rfl, Bag.cs13 S9.out 1 rfl⟩ (fun hS => ?_)
      clear hK K
      try simp only [zp0, zp1, zp2, zp3, zp4]
      refine tk 5 rfl ?_
      try simp only [zp0, zp1, zp2, zp3, zp4]
      refine tk 6 rfl ?_
      try simp only [zp0, zp1, zp2, zp3, zp4]
      refine tk 7 rfl ?_
      try simp only [zp0, zp1, zp2, zp3, zp4]
      refine tk 8 rfl ?_
      try simp only [zp0, zp1, zp2, zp3, zp4]
      refine Reg.one_op (i := 10) rfl (by kernel_rfl) (fun K hK => ?_)
      go_simp
      have S10 := Lib.hid (show Sl.Sep W _ [L4.boxR W.heap.size 67 (U.cs_Store y0), L4.boxR (W.heap.size + 1) 83 (U.cs_Cursor y1), Bag.bag zs0.rows, L4.boxR gb0 60 U.cz_Cursor, Bag.bag (U.rows1 zr1), L4.boxR w7.heap.size 43 U.cz_Item] from L4.push_box S9.out 43 #[.int .i64 0, .int .i64 0, .string ⟨#[]⟩, .slice none 0 0] w7.heap.size rfl)
      clear S9
      obtain ⟨gb1, hg⟩ : ∃ g', g' = w7.heap.size := ⟨_, rfl⟩
      rw [← hg] at S10 ⊢
      clear hg
      generalize w7.alloc (.cells #[.int .i64 0, .int .i64 0, .string ⟨#[]⟩, .slice none 0 0] 43) = w8 at S10 ⊢
      refine hK.out _ _ ⟨Bag.cs3 S10.out 0 rfl, Bag.cs13 S10.out 1 rfl⟩ (fun hS => ?_)
      clear hK K
      try simp only [zp0, zp1, zp2, zp3, zp4]
      have S11 := Lib.hid (show Sl.Sep W _ [L4.boxR W.heap.size 67 (U.cs_Store y0), L4.boxR (W.heap.size + 1) 83 (U.cs_Cursor y1), Bag.bag (U.rows1 zr1), L4.boxR gb0 60 U.cz_Cursor, L4.boxR gb1 43 U.cz_Item] from Bag.take S10.out [0, 1, 4, 3, 5] (by rfl) (by decide))
      clear S10
      revert S11
      revert HZzr1
      revert hS
      exact hrest gb0 gb1 zr1 zs0 w8
      refine Reg.cons_op (i := 10) rfl (fun K hK => ?_) ?_
      go_simp
      have S9 := Lib.hid (show Sl.Sep W _ [L4.boxR W.heap.size 67 (U.cs_Store y0), L4.boxR (W.heap.size + 1) 83 (U.cs_Cursor y1), Bag.bag zs0.rows, L4.boxR gb0 60 U.cz_Cursor, L4.boxR w6.heap.size 43 U.cz_Item] from L4.push_box S8.out 43 #[.int .i64 0, .int .i64 0, .string ⟨#[]⟩, .slice none 0 0] w6.heap.size rfl)
      clear S8
      obtain ⟨gb1, hg⟩ : ∃ g', g' = w6.heap.size := ⟨_, rfl⟩
      rw [← hg] at S9 ⊢
      clear hg
      generalize w6.alloc (.cells #[.int .i64 0, .int .i64 0, .string ⟨#[]⟩, .slice none 0 0] 43) = w7 at S9 ⊢
      refine hK.out _ _ ⟨Bag.cs3 S9.out 0 rfl, Bag.cs13 S9.out 1 rfl⟩ (fun hS => ?_)
      clear hK K
      try simp only [zp0, zp1, zp2, zp3, zp4]
      refine Reg.one_op (i := 4) rfl (by kernel_rfl) (fun K hK => ?_)
      go_simp
      go_at_call 37
      refine (Cspec.out zs0 HZzs0.out _ (Bag.bag_rd S9.out 2 rfl)).mono ?_
      rintro e w8 ⟨zr1, rfl, hcon1, ho, hb⟩
      have S10 := Lib.hid (show Sl.Sep W _ [L4.boxR W.heap.size 67 (U.cs_Store y0), L4.boxR (W.heap.size + 1) 83 (U.cs_Cursor y1), Bag.bag zs0.rows, L4.boxR gb0 60 U.cz_Cursor, L4.boxR gb1 43 U.cz_Item, Bag.bag (U.rows1 zr1)] from Bag.push_bag S9.out hb ho)
      clear S9
      clear hb ho
      have HZzr1 := Lib.hid hcon1
      clear hcon1
      go_wp2_with fail
      refine hK.out _ _ ⟨Bag.cs3 S10.out 0 rfl, Bag.cs13 S10.out 1 rfl⟩ (fun hS => ?_)
      clear hK K
      try simp only [zp0, zp1, zp2, zp3, zp4]
      refine tk 5 rfl ?_
      try simp only [zp0, zp1, zp2, zp3, zp4]
      refine tk 6 rfl ?_
      try simp only [zp0, zp1, zp2, zp3, zp4]
      refine tk 7 rfl ?_
      try simp only [zp0, zp1, zp2, zp3, zp4]
      refine tk 8 rfl ?_
      try simp only [zp0, zp1, zp2, zp3, zp4]
      have S11 := Lib.hid (show Sl.Sep W _ [L4.boxR W.heap.size 67 (U.cs_Store y0), L4.boxR (W.heap.size + 1) 83 (U.cs_Cursor y1), Bag.bag (U.rows1 zr1), L4.boxR gb0 60 U.cz_Cursor, L4.boxR gb1 43 U.cz_Item] from Bag.take S10.out [0, 1, 5, 3, 4] (by rfl) (by decide))
      clear S10
      revert S11
      revert HZzr1
      revert hS
      exact hrest gb0 gb1 zr1 zs0 w8
      exact AllReadyH.nil
      refine Reg.cons_op (i := 10) rfl (fun K hK => ?_) ?_
      go_simp
      have S8 := Lib.hid (show Sl.Sep W _ [L4.boxR W.heap.size 67 (U.cs_Store y0), L4.boxR (W.heap.size + 1) 83 (U.cs_Cursor y1), Bag.bag zs0.rows, L4.boxR w5.heap.size 43 U.cz_Item] from L4.push_box S7.out 43 #[.int .i64 0, .int .i64 0, .string ⟨#[]⟩, .slice none 0 0] w5.heap.size rfl)
      clear S7
      obtain ⟨gb1, hg⟩ : ∃ g', g' = w5.heap.size := ⟨_, rfl⟩
      rw [← hg] at S8 ⊢
      clear hg
      generalize w5.alloc (.cells #[.int .i64 0, .int .i64 0, .string ⟨#[]⟩, .slice none 0 0] 43) = w6 at S8 ⊢
      refine hK.out _ _ ⟨Bag.cs3 S8.out 0 rfl, Bag.cs13 S8.out 1 rfl⟩ (fun hS => ?_)
      clear hK K
      try simp only [zp0, zp1, zp2, zp3, zp4]
      refine wpAnyH_ready (rs := [4, 9]) (by kernel_rfl) (by simp) ?_
      refine Reg.cons_op (i := 4) rfl (fun K hK => ?_) ?_
      go_simp
      go_at_call 37
      refine (Cspec.out zs0 HZzs0.out _ (Bag.bag_rd S8.out 2 rfl)).mono ?_
      rintro e w7 ⟨zr1, rfl, hcon1, ho, hb⟩
      have S9 := Lib.hid (show Sl.Sep W _ [L4.boxR W.heap.size 67 (U.cs_Store y0), L4.boxR (W.heap.size + 1) 83 (U.cs_Cursor y1), Bag.bag zs0.rows, L4.boxR gb1 43 U.cz_Item, Bag.bag (U.rows1 zr1)] from Bag.push_bag S8.out hb ho)
      clear S8
      clear hb ho
      have HZzr1 := Lib.hid hcon1
      clear hcon1
      go_wp2_with fail
      refine hK.out _ _ ⟨Bag.cs3 S9.out 0 rfl, Bag.cs13 S9.out 1 rfl⟩ (fun hS => ?_)
      clear hK K
      try simp only [zp0, zp1, zp2, zp3, zp4]
      refine tk 5 rfl ?_
      try simp only [zp0, zp1, zp2, zp3, zp4]
      refine tk 6 rfl ?_
      try simp only [zp0, zp1, zp2, zp3, zp4]
      refine tk 7 rfl ?_
      try simp only [zp0, zp1, zp2, zp3, zp4]
      refine tk 8 rfl ?_
      try simp only [zp0, zp1, zp2, zp3, zp4]
      refine Reg.one_op (i := 9) rfl (by kernel_rfl) (fun K hK => ?_)
      go_simp
      have S10 := Lib.hid (show Sl.Sep W _ [L4.boxR W.heap.size 67 (U.cs_Store y0), L4.boxR (W.heap.size + 1) 83 (U.cs_Cursor y1), Bag.bag zs0.rows, L4.boxR gb1 43 U.cz_Item, Bag.bag (U.rows1 zr1), L4.boxR w7.heap.size 60 U.cz_Cursor] from L4.push_box S9.out 60 #[.bool false, .bool false, .int .i64 0, .int .i64 0, .string ⟨#[]⟩, .int .i64 0, .int .i64 0, .string ⟨#[]⟩, .bool false, .bool false, .int .i64 0, .int .i64 0, .string ⟨#[]⟩] w7.heap.size rfl)
      clear S9
      obtain ⟨gb0, hg⟩ : ∃ g', g' = w7.heap.size := ⟨_, rfl⟩
      rw [← hg] at S10 ⊢
      clear hg
      generalize w7.alloc (.cells #[.bool false, .bool false, .int .i64 0, .int .i64 0, .string ⟨#[]⟩, .int .i64 0, .int .i64 0, .string ⟨#[]⟩, .bool false, .bool false, .int .i64 0, .int .i64 0, .string ⟨#[]⟩] 60) = w8 at S10 ⊢
      refine hK.out _ _ ⟨Bag.cs3 S10.out 0 rfl, Bag.cs13 S10.out 1 rfl⟩ (fun hS => ?_)
      clear hK K
      try simp only [zp0, zp1, zp2, zp3, zp4]
      have S11 := Lib.hid (show Sl.Sep W _ [L4.boxR W.heap.size 67 (U.cs_Store y0), L4.boxR (W.heap.size + 1) 83 (U.cs_Cursor y1), Bag.bag (U.rows1 zr1), L4.boxR gb0 60 U.cz_Cursor, L4.boxR gb1 43 U.cz_Item] from Bag.take S10.out [0, 1, 4, 5, 3] (by rfl) (by decide))
      clear S10
      revert S11
      revert HZzr1
      revert hS
      exact hrest gb0 gb1 zr1 zs0 w8
      refine Reg.cons_op (i := 9) rfl (fun K hK => ?_) ?_
      go_simp
      have S9 := Lib.hid (show Sl.Sep W _ [L4.boxR W.heap.size 67 (U.cs_Store y0), L4.boxR (W.heap.size + 1) 83 (U.cs_Cursor y1), Bag.bag zs0.rows, L4.boxR gb1 43 U.cz_Item, L4.boxR w6.heap.size 60 U.cz_Cursor] from L4.push_box S8.out 60 #[.bool false, .bool false, .int .i64 0, .int .i64 0, .string ⟨#[]⟩, .int .i64 0, .int .i64 0, .string ⟨#[]⟩, .bool false, .bool false, .int .i64 0, .int .i64 0, .string ⟨#[]⟩] w6.heap.size rfl)
      clear S8
      obtain ⟨gb0, hg⟩ : ∃ g', g' = w6.heap.size := ⟨_, rfl⟩
      rw [← hg] at S9 ⊢
      clear hg
      generalize w6.alloc (.cells #[.bool false, .bool false, .int .i64 0, .int .i64 0, .string ⟨#[]⟩, .int .i64 0, .int .i64 0, .string ⟨#[]⟩, .bool false, .bool false, .int .i64 0, .int .i64 0, .string ⟨#[]⟩] 60) = w7 at S9 ⊢
      refine hK.out _ _ ⟨Bag.cs3 S9.out 0 rfl, Bag.cs13 S9.out 1 rfl⟩ (fun hS => ?_)
      clear hK K
      try simp only [zp0, zp1, zp2, zp3, zp4]
      refine Reg.one_op (i := 4) rfl (by kernel_rfl) (fun K hK => ?_)
      go_simp
      go_at_call 37
      refine (Cspec.out zs0 HZzs0.out _ (Bag.bag_rd S9.out 2 rfl)).mono ?_
      rintro e w8 ⟨zr1, rfl, hcon1, ho, hb⟩
      have S10 := Lib.hid (show Sl.Sep W _ [L4.boxR W.heap.size 67 (U.cs_Store y0), L4.boxR (W.heap.size + 1) 83 (U.cs_Cursor y1), Bag.bag zs0.rows, L4.boxR gb1 43 U.cz_Item, L4.boxR gb0 60 U.cz_Cursor, Bag.bag (U.rows1 zr1)] from Bag.push_bag S9.out hb ho)
      clear S9
      clear hb ho
      have HZzr1 := Lib.hid hcon1
      clear hcon1
      go_wp2_with fail
      refine hK.out _ _ ⟨Bag.cs3 S10.out 0 rfl, Bag.cs13 S10.out 1 rfl⟩ (fun hS => ?_)
      clear hK K
      try simp only [zp0, zp1, zp2, zp3, zp4]
      refine tk 5 rfl ?_
      try simp only [zp0, zp1, zp2, zp3, zp4]
      refine tk 6 rfl ?_
      try simp only [zp0, zp1, zp2, zp3, zp4]
      refine tk 7 rfl ?_
      try simp only [zp0, zp1, zp2, zp3, zp4]
      refine tk 8 rfl ?_
      try simp only [zp0, zp1, zp2, zp3, zp4]
      have S11 := Lib.hid (show Sl.Sep W _ [L4.boxR W.heap.size 67 (U.cs_Store y0), L4.boxR (W.heap.size + 1) 83 (U.cs_Cursor y1), Bag.bag (U.rows1 zr1), L4.boxR gb0 60 U.cz_Cursor, L4.boxR gb1 43 U.cz_Item] from Bag.take S10.out [0, 1, 5, 4, 3] (by rfl) (by decide))
      clear S10
      revert S11
      revert HZzr1
      revert hS
      exact hrest gb0 gb1 zr1 zs0 w8
      exact AllReadyH.nil
      exact AllReadyH.nil
      refine Reg.cons_op (i := 9) rfl (fun K hK => ?_) ?_
      go_simp
      have S7 := Lib.hid (show Sl.Sep W _ [L4.boxR W.heap.size 67 (U.cs_Store y0), L4.boxR (W.heap.size + 1) 83 (U.cs_Cursor y1), Bag.bag zs0.rows, L4.boxR w4.heap.size 60 U.cz_Cursor] from L4.push_box S6.out 60 #[.bool false, .bool false, .int .i64 0, .int .i64 0, .string ⟨#[]⟩, .int .i64 0, .int .i64 0, .string ⟨#[]⟩, .bool false, .bool false, .int .i64 0, .int .i64 0, .string ⟨#[]⟩] w4.heap.size rfl)
      clear S6
      obtain ⟨gb0, hg⟩ : ∃ g', g' = w4.heap.size := ⟨_, rfl⟩
      rw [← hg] at S7 ⊢
      clear hg
      generalize w4.alloc (.cells #[.bool false, .bool false, .int .i64 0, .int .i64 0, .string ⟨#[]⟩, .int .i64 0, .int .i64 0, .string ⟨#[]⟩, .bool false, .bool false, .int .i64 0, .int .i64 0, .string ⟨#[]⟩] 60) = w5 at S7 ⊢
      refine hK.out _ _ ⟨Bag.cs3 S7.out 0 rfl, Bag.cs13 S7.out 1 rfl⟩ (fun hS => ?_)
      clear hK K
      try simp only [zp0, zp1, zp2, zp3, zp4]
      refine wpAnyH_ready (rs := [3, 10]) (by kernel_rfl) (by simp) ?_
      refine Reg.cons_op (i := 3) rfl (fun K hK => ?_) ?_
      go_simp
      go_at_call 51
      refine (HTO1.out w5 S7.out.old).mono ?_
      rintro e w6 ⟨rfl, hb⟩
      have S8 := Lib.hid (S7.out.keep hb)
      clear S7
      clear hb
      go_wp2_with fail
      refine hK.out _ _ ⟨Bag.cs3 S8.out 0 rfl, Bag.cs13 S8.out 1 rfl⟩ (fun hS => ?_)
      clear hK K
      try simp only [zp0, zp1, zp2, zp3, zp4]
      refine wpAnyH_ready (rs := [4, 10]) (by kernel_rfl) (by simp) ?_
      refine Reg.cons_op (i := 4) rfl (fun K hK => ?_) ?_
      go_simp
      go_at_call 37
      refine (Cspec.out zs0 HZzs0.out _ (Bag.bag_rd S8.out 2 rfl)).mono ?_
      rintro e w7 ⟨zr1, rfl, hcon1, ho, hb⟩
      have S9 := Lib.hid (show Sl.Sep W _ [L4.boxR W.heap.size 67 (U.cs_Store y0), L4.boxR (W.heap.size + 1) 83 (U.cs_Cursor y1), Bag.bag zs0.rows, L4.boxR gb0 60 U.cz_Cursor, Bag.bag (U.rows1 zr1)] from Bag.push_bag S8.out hb ho)
      clear S8
      clear hb ho
      have HZzr1 := Lib.hid hcon1
      clear hcon1
      go_wp2_with fail
      refine hK.out _ _ ⟨Bag.cs3 S9.out 0 rfl, Bag.cs13 S9.out 1 rfl⟩ (fun hS => ?_)
      clear hK K
      try simp only [zp0, zp1, zp2, zp3, zp4]
      refine tk 5 rfl ?_
      try simp only [zp0, zp1, zp2, zp3, zp4]
      refine tk 6 rfl ?_
      try simp only [zp0, zp1, zp2, zp3, zp4]
      refine tk 7 rfl ?_
      try simp only [zp0, zp1, zp2, zp3, zp4]
      refine tk 8 rfl ?_
      try simp only [zp0, zp1, zp2, zp3, zp4]
      refine Reg.one_op (i := 10) rfl (by kernel_rfl) (fun K hK => ?_)
      go_simp
      have S10 := Lib.hid (show Sl.Sep W _ [L4.boxR W.heap.size 67 (U.cs_Store y0), L4.boxR (W.heap.size + 1) 83 (U.cs_Cursor y1), Bag.bag zs0.rows, L4.boxR gb0 60 U.cz_Cursor, Bag.bag (U.rows1 zr1), L4.boxR w7.heap.size 43 U.cz_Item] from L4.push_box S9.out 43 #[.int .i64 0, .int .i64 0, .string ⟨#[]⟩, .slice none 0 0] w7.heap.size rfl)
      clear S9
      obtain ⟨gb1, hg⟩ : ∃ g', g' = w7.heap.size := ⟨_, rfl⟩
      rw [← hg] at S10 ⊢
      clear hg
      generalize w7.alloc (.cells #[.int .i64 0, .int .i64 0, .string ⟨#[]⟩, .slice none 0 0] 43) = w8 at S10 ⊢
      refine hK.out _ _ ⟨Bag.cs3 S10.out 0 rfl, Bag.cs13 S10.out 1 rfl⟩ (fun hS => ?_)
      clear hK K
      try simp only [zp0, zp1, zp2, zp3, zp4]
      have S11 := Lib.hid (show Sl.Sep W _ [L4.boxR W.heap.size 67 (U.cs_Store y0), L4.boxR (W.heap.size + 1) 83 (U.cs_Cursor y1), Bag.bag (U.rows1 zr1), L4.boxR gb0 60 U.cz_Cursor, L4.boxR gb1 43 U.cz_Item] from Bag.take S10.out [0, 1, 4, 3, 5] (by rfl) (by decide))
      clear S10
      revert S11
      revert HZzr1
      revert hS
      exact hrest gb0 gb1 zr1 zs0 w8
      refine Reg.cons_op (i := 10) rfl (fun K hK => ?_) ?_
      go_simp
      have S9 := Lib.hid (show Sl.Sep W _ [L4.boxR W.heap.size 67 (U.cs_Store y0), L4.boxR (W.heap.size + 1) 83 (U.cs_Cursor y1), Bag.bag zs0.rows, L4.boxR gb0 60 U.cz_Cursor, L4.boxR w6.heap.size 43 U.cz_Item] from L4.push_box S8.out 43 #[.int .i64 0, .int .i64 0, .string ⟨#[]⟩, .slice none 0 0] w6.heap.size rfl)
      clear S8
      obtain ⟨gb1, hg⟩ : ∃ g', g' = w6.heap.size := ⟨_, rfl⟩
      rw [← hg] at S9 ⊢
      clear hg
      generalize w6.alloc (.cells #[.int .i64 0, .int .i64 0, .string ⟨#[]⟩, .slice none 0 0] 43) = w7 at S9 ⊢
      refine hK.out _ _ ⟨Bag.cs3 S9.out 0 rfl, Bag.cs13 S9.out 1 rfl⟩ (fun hS => ?_)
      clear hK K
      try simp only [zp0, zp1, zp2, zp3, zp4]
      refine Reg.one_op (i := 4) rfl (by kernel_rfl) (fun K hK => ?_)
      go_simp
      go_at_call 37
      refine (Cspec.out zs0 HZzs0.out _ (Bag.bag_rd S9.out 2 rfl)).mono ?_
      rintro e w8 ⟨zr1, rfl, hcon1, ho, hb⟩
      have S10 := Lib.hid (show Sl.Sep W _ [L4.boxR W.heap.size 67 (U.cs_Store y0), L4.boxR (W.heap.size + 1) 83 (U.cs_Cursor y1), Bag.bag zs0.rows, L4.boxR gb0 60 U.cz_Cursor, L4.boxR gb1 43 U.cz_Item, Bag.bag (U.rows1 zr1)] from Bag.push_bag S9.out hb ho)
      clear S9
      clear hb ho
      have HZzr1 := Lib.hid hcon1
      clear hcon1
      go_wp2_with fail
      refine hK.out _ _ ⟨Bag.cs3 S10.out 0 rfl, Bag.cs13 S10.out 1 rfl⟩ (fun hS => ?_)
      clear hK K
      try simp only [zp0, zp1, zp2, zp3, zp4]
      refine tk 5 rfl ?_
      try simp only [zp0, zp1, zp2, zp3, zp4]
      refine tk 6 rfl ?_
      try simp only [zp0, zp1, zp2, zp3, zp4]
      refine tk 7 rfl ?_
      try simp only [zp0, zp1, zp2, zp3, zp4]
      refine tk 8 rfl ?_
      try simp only [zp0, zp1, zp2, zp3, zp4]
      have S11 := Lib.hid (show Sl.Sep W _ [L4.boxR W.heap.size 67 (U.cs_Store y0), L4.boxR (W.heap.size + 1) 83 (U.cs_Cursor y1), Bag.bag (U.rows1 zr1), L4.boxR gb0 60 U.cz_Cursor, L4.boxR gb1 43 U.cz_Item] from Bag.take S10.out [0, 1, 5, 3, 4] (by rfl) (by decide))
      clear S10
      revert S11
      revert HZzr1
      revert hS
      exact hrest gb0 gb1 zr1 zs0 w8
      exact AllReadyH.nil
      refine Reg.cons_op (i := 10) rfl (fun K hK => ?_) ?_
      go_simp
      have S8 := Lib.hid (show Sl.Sep W _ [L4.boxR W.heap.size 67 (U.cs_Store y0), L4.boxR (W.heap.size + 1) 83 (U.cs_Cursor y1), Bag.bag zs0.rows, L4.boxR gb0 60 U.cz_Cursor, L4.boxR w5.heap.size 43 U.cz_Item] from L4.push_box S7.out 43 #[.int .i64 0, .int .i64 0, .string ⟨#[]⟩, .slice none 0 0] w5.heap.size rfl)
      clear S7
      obtain ⟨gb1, hg⟩ : ∃ g', g' = w5.heap.size := ⟨_, rfl⟩
      rw [← hg] at S8 ⊢
      clear hg
      generalize w5.alloc (.cells #[.int .i64 0, .int .i64 0, .string ⟨#[]⟩, .slice none 0 0] 43) = w6 at S8 ⊢
      refine hK.out _ _ ⟨Bag.cs3 S8.out 0 rfl, Bag.cs13 S8.out 1 rfl⟩ (fun hS => ?_)
      clear hK K
      try simp only [zp0, zp1, zp2, zp3, zp4]
      refine Reg.one_op (i := 3) rfl (by kernel_rfl) (fun K hK => ?_)
      go_simp
      go_at_call 51
      refine (HTO1.out w6 S8.out.old).mono ?_
      rintro e w7 ⟨rfl, hb⟩
      have S9 := Lib.hid (S8.out.keep hb)
      clear S8
      clear hb
      go_wp2_with fail
      refine hK.out _ _ ⟨Bag.cs3 S9.out 0 rfl, Bag.cs13 S9.out 1 rfl⟩ (fun hS => ?_)
      clear hK K
      try simp only [zp0, zp1, zp2, zp3, zp4]
      refine Reg.one_op (i := 4) rfl (by kernel_rfl) (fun K hK => ?_)
      go_simp
      go_at_call 37
      refine (Cspec.out zs0 HZzs0.out _ (Bag.bag_rd S9.out 2 rfl)).mono ?_
      rintro e w8 ⟨zr1, rfl, hcon1, ho, hb⟩
      have S10 := Lib.hid (show Sl.Sep W _ [L4.boxR W.heap.size 67 (U.cs_Store y0), L4.boxR (W.heap.size + 1) 83 (U.cs_Cursor y1), Bag.bag zs0.rows, L4.boxR gb0 60 U.cz_Cursor, L4.boxR gb1 43 U.cz_Item, Bag.bag (U.rows1 zr1)] from Bag.push_bag S9.out hb ho)
      clear S9
      clear hb ho
      have HZzr1 := Lib.hid hcon1
      clear hcon1
      go_wp2_with fail
      refine hK.out _ _ ⟨Bag.cs3 S10.out 0 rfl, Bag.cs13 S10.out 1 rfl⟩ (fun hS => ?_)
      clear hK K
      try simp only [zp0, zp1, zp2, zp3, zp4]
      refine tk 5 rfl ?_
      try simp only [zp0, zp1, zp2, zp3, zp4]
      refine tk 6 rfl ?_
      try simp only [zp0, zp1, zp2, zp3, zp4]
      refine tk 7 rfl ?_
      try simp only [zp0, zp1, zp2, zp3, zp4]
      refine tk 8 rfl ?_
      try simp only [zp0, zp1, zp2, zp3, zp4]
      have S11 := Lib.hid (show Sl.Sep W _ [L4.boxR W.heap.size 67 (U.cs_Store y0), L4.boxR (W.heap.size + 1) 83 (U.cs_Cursor y1), Bag.bag (U.rows1 zr1), L4.boxR gb0 60 U.cz_Cursor, L4.boxR gb1 43 U.cz_Item] from Bag.take S10.out [0, 1, 5, 3, 4] (by rfl) (by decide))
      clear S10
      revert S11
      revert HZzr1
      revert hS
      exact hrest gb0 gb1 zr1 zs0 w8
      exact AllReadyH.nil
      refine Reg.cons_op (i := 10) rfl (fun K hK => ?_) ?_
      go_simp
      have S7 := Lib.hid (show Sl.Sep W _ [L4.boxR W.heap.size 67 (U.cs_Store y0), L4.boxR (W.heap.size + 1) 83 (U.cs_Cursor y1), Bag.bag zs0.rows, L4.boxR w4.heap.size 43 U.cz_Item] from L4.push_box S6.out 43 #[.int .i64 0, .int .i64 0, .string ⟨#[]⟩, .slice none 0 0] w4.heap.size rfl)
      clear S6
      obtain ⟨gb1, hg⟩ : ∃ g', g' = w4.heap.size := ⟨_, rfl⟩
      rw [← hg] at S7 ⊢
      clear hg
      generalize w4.alloc (.cells #[.int .i64 0, .int .i64 0, .string ⟨#[]⟩, .slice none 0 0] 43) = w5 at S7 ⊢
      refine hK.out _ _ ⟨Bag.cs3 S7.out 0 rfl, Bag.cs13 S7.out 1 rfl⟩ (fun hS => ?_)
      clear hK K
      try simp only [zp0, zp1, zp2, zp3, zp4]
      refine wpAnyH_ready (rs := [3, 9]) (by kernel_rfl) (by simp) ?_
      refine Reg.cons_op (i := 3) rfl (fun K hK => ?_) ?_
      go_simp
      go_at_call 51
      refine (HTO1.out w5 S7.out.old).mono ?_
      rintro e w6 ⟨rfl, hb⟩
      have S8 := Lib.hid (S7.out.keep hb)
      clear S7
      clear hb
      go_wp2_with fail
      refine hK.out _ _ ⟨Bag.cs3 S8.out 0 rfl, Bag.cs13 S8.out 1 rfl⟩ (fun hS => ?_)
      clear hK K
      try simp only [zp0, zp1, zp2, zp3, zp4]
      refine wpAnyH_ready (rs := [4, 9]) (by kernel_rfl) (by simp) ?_
      refine Reg.cons_op (i := 4) rfl (fun K hK => ?_) ?_
      go_simp
      go_at_call 37
      refine (Cspec.out zs0 HZzs0.out _ (Bag.bag_rd S8.out 2 rfl)).mono ?_
      rintro e w7 ⟨zr1, rfl, hcon1, ho, hb⟩
      have S9 := Lib.hid (show Sl.Sep W _ [L4.boxR W.heap.size 67 (U.cs_Store y0), L4.boxR (W.heap.size + 1) 83 (U.cs_Cursor y1), Bag.bag zs0.rows, L4.boxR gb1 43 U.cz_Item, Bag.bag (U.rows1 zr1)] from Bag.push_bag S8.out hb ho)
      clear S8
      clear hb ho
      have HZzr1 := Lib.hid hcon1
      clear hcon1
      go_wp2_with fail
      refine hK.out _ _ ⟨Bag.cs3 S9.out 0 rfl, Bag.cs13 S9.out 1 rfl⟩ (fun hS => ?_)
      clear hK K
      try simp only [zp0, zp1, zp2, zp3, zp4]
      refine tk 5 rfl ?_
      try simp only [zp0, zp1, zp2, zp3, zp4]
      refine tk 6 rfl ?_
      try simp only [zp0, zp1, zp2, zp3, zp4]
      refine tk 7 rfl ?_
      try simp only [zp0, zp1, zp2, zp3, zp4]
      refine tk 8 rfl ?_
      try simp only [zp0, zp1, zp2, zp3, zp4]
      refine Reg.one_op (i := 9) rfl (by kernel_rfl) (fun K hK => ?_)
      go_simp
      have S10 := Lib.hid (show Sl.Sep W _ [L4.boxR W.heap.size 67 (U.cs_Store y0), L4.boxR (W.heap.size + 1) 83 (U.cs_Cursor y1), Bag.bag zs0.rows, L4.boxR gb1 43 U.cz_Item, Bag.bag (U.rows1 zr1), L4.boxR w7.heap.size 60 U.cz_Cursor] from L4.push_box S9.out 60 #[.bool false, .bool false, .int .i64 0, .int .i64 0, .string ⟨#[]⟩, .int .i64 0, .int .i64 0, .string ⟨#[]⟩, .bool false, .bool false, .int .i64 0, .int .i64 0, .string ⟨#[]⟩] w7.heap.size rfl)
      clear S9
      obtain ⟨gb0, hg⟩ : ∃ g', g' = w7.heap.size := ⟨_, rfl⟩
      rw [← hg] at S10 ⊢
      clear hg
      generalize w7.alloc (.cells #[.bool false, .bool false, .int .i64 0, .int .i64 0, .string ⟨#[]⟩, .int .i64 0, .int .i64 0, .string ⟨#[]⟩, .bool false, .bool false, .int .i64 0, .int .i64 0, .string ⟨#[]⟩] 60) = w8 at S10 ⊢
      refine hK.out _ _ ⟨Bag.cs3 S10.out 0 rfl, Bag.cs13 S10.out 1 rfl⟩ (fun hS => ?_)
      clear hK K
      try simp only [zp0, zp1, zp2, zp3, zp4]
      have S11 := Lib.hid (show Sl.Sep W _ [L4.boxR W.heap.size 67 (U.cs_Store y0), L4.boxR (W.heap.size + 1) 83 (U.cs_Cursor y1), Bag.bag (U.rows1 zr1), L4.boxR gb0 60 U.cz_Cursor, L4.boxR gb1 43 U.cz_Item] from Bag.take S10.out [0, 1, 4, 5, 3] (by rfl) (by decide))
      clear S10
      revert S11
      revert HZzr1
      revert hS
      exact hrest gb0 gb1 zr1 zs0 w8
      refine Reg.cons_op (i := 9) rfl (fun K hK => ?_) ?_
      go_simp
      have S9 := Lib.hid (show Sl.Sep W _ [L4.boxR W.heap.size 67 (U.cs_Store y0), L4.boxR (W.heap.size + 1) 83 (U.cs_Cursor y1), Bag.bag zs0.rows, L4.boxR gb1 43 U.cz_Item, L4.boxR w6.heap.size 60 U.cz_Cursor] from L4.push_box S8.out 60 #[.bool false, .bool false, .int .i64 0, .int .i64 0, .string ⟨#[]⟩, .int .i64 0, .int .i64 0, .string ⟨#[]⟩, .bool false, .bool false, .int .i64 0, .int .i64 0, .string ⟨#[]⟩] w6.heap.size rfl)
      clear S8
      obtain ⟨gb0, hg⟩ : ∃ g', g' = w6.heap.size := ⟨_, rfl⟩
      rw [← hg] at S9 ⊢
      clear hg
      generalize w6.alloc (.cells #[.bool false, .bool false, .int .i64 0, .int .i64 0, .string ⟨#[]⟩, .int .i64 0, .int .i64 0, .string ⟨#[]⟩, .bool false, .bool false, .int .i64 0, .int .i64 0, .string ⟨#[]⟩] 60) = w7 at S9 ⊢
      refine hK.out _ _ ⟨Bag.cs3 S9.out 0 rfl, Bag.cs13 S9.out 1 rfl⟩ (fun hS => ?_)
      clear hK K
      try simp only [zp0, zp1, zp2, zp3, zp4]
      refine Reg.one_op (i := 4) rfl (by kernel_rfl) (fun K hK => ?_)
      go_simp
      go_at_call 37
      refine (Cspec.out zs0 HZzs0.out _ (Bag.bag_rd S9.out 2 rfl)).mono ?_
      rintro e w8 ⟨zr1, rfl, hcon1, ho, hb⟩
      have S10 := Lib.hid (show Sl.Sep W _ [L4.boxR W.heap.size 67 (U.cs_Store y0), L4.boxR (W.heap.size + 1) 83 (U.cs_Cursor y1), Bag.bag zs0.rows, L4.boxR gb1 43 U.cz_Item, L4.boxR gb0 60 U.cz_Cursor, Bag.bag (U.rows1 zr1)] from Bag.push_bag S9.out hb ho)
      clear S9
      clear hb ho
      have HZzr1 := Lib.hid hcon1
      clear hcon1
      go_wp2_with fail
      refine hK.out _ _ ⟨Bag.cs3 S10.out 0 rfl, Bag.cs13 S10.out 1 rfl⟩ (fun hS => ?_)
      clear hK K
      try simp only [zp0, zp1, zp2, zp3, zp4]
      refine tk 5 rfl ?_
      try simp only [zp0, zp1, zp2, zp3, zp4]
      refine tk 6 rfl ?_
      try simp only [zp0, zp1, zp2, zp3, zp4]
      refine tk 7 rfl ?_
      try simp only [zp0, zp1, zp2, zp3, zp4]
      refine tk 8 rfl ?_
      try simp only [zp0, zp1, zp2, zp3, zp4]
      have S11 := Lib.hid (show Sl.Sep W _ [L4.boxR W.heap.size 67 (U.cs_Store y0), L4.boxR (W.heap.size + 1) 83 (U.cs_Cursor y1), Bag.bag (U.rows1 zr1), L4.boxR gb0 60 U.cz_Cursor, L4.boxR gb1 43 U.cz_Item] from Bag.take S10.out [0, 1, 5, 4, 3] (by rfl) (by decide))
      clear S10
      revert S11
      revert HZzr1
      revert hS
      exact hrest gb0 gb1 zr1 zs0 w8
      exact AllReadyH.nil
      refine Reg.cons_op (i := 9) rfl (fun K hK => ?_) ?_
      go_simp
      have S8 := Lib.hid (show Sl.Sep W _ [L4.boxR W.heap.size 67 (U.cs_Store y0), L4.boxR (W.heap.size + 1) 83 (U.cs_Cursor y1), Bag.bag zs0.rows, L4.boxR gb1 43 U.cz_Item, L4.boxR w5.heap.size 60 U.cz_Cursor] from L4.push_box S7.out 60 #[.bool false, .bool false, .int .i64 0, .int .i64 0, .string ⟨#[]⟩, .int .i64 0, .int .i64 0, .string ⟨#[]⟩, .bool false, .bool false, .int .i64 0, .int .i64 0, .string ⟨#[]⟩] w5.heap.size rfl)
      clear S7
      obtain ⟨gb0, hg⟩ : ∃ g', g' = w5.heap.size := ⟨_, rfl⟩
      rw [← hg] at S8 ⊢
      clear hg
      generalize w5.alloc (.cells #[.bool false, .bool false, .int .i64 0, .int .i64 0, .string ⟨#[]⟩, .int .i64 0, .int .i64 0, .string ⟨#[]⟩, .bool false, .bool false, .int .i64 0, .int .i64 0, .string ⟨#[]⟩] 60) = w6 at S8 ⊢
      refine hK.out _ _ ⟨Bag.cs3 S8.out 0 rfl, Bag.cs13 S8.out 1 rfl⟩ (fun hS => ?_)
      clear hK K
      try simp only [zp0, zp1, zp2, zp3, zp4]
      refine Reg.one_op (i := 3) rfl (by kernel_rfl) (fun K hK => ?_)
      go_simp
      go_at_call 51
      refine (HTO1.out w6 S8.out.old).mono ?_
      rintro e w7 ⟨rfl, hb⟩
      have S9 := Lib.hid (S8.out.keep hb)
      clear S8
      clear hb
      go_wp2_with fail
      refine hK.out _ _ ⟨Bag.cs3 S9.out 0 rfl, Bag.cs13 S9.out 1 rfl⟩ (fun hS => ?_)
      clear hK K
      try simp only [zp0, zp1, zp2, zp3, zp4]
      refine Reg.one_op (i := 4) rfl (by kernel_rfl) (fun K hK => ?_)
      go_simp
      go_at_call 37
      refine (Cspec.out zs0 HZzs0.out _ (Bag.bag_rd S9.out 2 rfl)).mono ?_
      rintro e w8 ⟨zr1, rfl, hcon1, ho, hb⟩
      have S10 := Lib.hid (show Sl.Sep W _ [L4.boxR W.heap.size 67 (U.cs_Store y0), L4.boxR (W.heap.size + 1) 83 (U.cs_Cursor y1), Bag.bag zs0.rows, L4.boxR gb1 43 U.cz_Item, L4.boxR gb0 60 U.cz_Cursor, Bag.bag (U.rows1 zr1)] from Bag.push_bag S9.out hb ho)
      clear S9
      clear hb ho
      have HZzr1 := Lib.hid hcon1
      clear hcon1
      go_wp2_with fail
      refine hK.out _ _ ⟨Bag.cs3 S10.out 0 rfl, Bag.cs13 S10.out 1 rfl⟩ (fun hS => ?_)
      clear hK K
      try simp only [zp0, zp1, zp2, zp3, zp4]
      refine tk 5 rfl ?_
      try simp only [zp0, zp1, zp2, zp3, zp4]
      refine tk 6 rfl ?_
      try simp only [zp0, zp1, zp2, zp3, zp4]
      refine tk 7 rfl ?_
      try simp only [zp0, zp1, zp2, zp3, zp4]
      refine tk 8 rfl ?_
      try simp only [zp0, zp1, zp2, zp3, zp4]
      have S11 := Lib.hid (show Sl.Sep W _ [L4.boxR W.heap.size 67 (U.cs_Store y0), L4.boxR (W.heap.size + 1) 83 (U.cs_Cursor y1), Bag.bag (U.rows1 zr1), L4.boxR gb0 60 U.cz_Cursor, L4.boxR gb1 43 U.cz_Item] from Bag.take S10.out [0, 1, 5, 4, 3] (by rfl) (by decide))
      clear S10
      revert S11
      revert HZzr1
      revert hS
      exact hrest gb0 gb1 zr1 zs0 w8
      exact AllReadyH.nil
      exact AllReadyH.nil
      refine Reg.cons_op (i := 9) rfl (fun K hK => ?_) ?_
      go_simp
      have S6 := Lib.hid (show Sl.Sep W _ [L4.boxR W.heap.size 67 (U.cs_Store y0), L4.boxR (W.heap.size + 1) 83 (U.cs_Cursor y1), L4.boxR w3.heap.size 60 U.cz_Cursor] from L4.push_box S5.out 60 #[.bool false, .bool false, .int .i64 0, .int .i64 0, .string ⟨#[]⟩, .int .i64 0, .int .i64 0, .string ⟨#[]⟩, .bool false, .bool false, .int .i64 0, .int .i64 0, .string ⟨#[]⟩] w3.heap.size rfl)
      obtain ⟨gb0, hg⟩ : ∃ g', g' = w3.heap.size := ⟨_, rfl⟩
      rw [← hg] at S6 ⊢
      clear hg
      generalize w3.alloc (.cells #[.bool false, .bool false, .int .i64 0, .int .i64 0, .string ⟨#[]⟩, .int .i64 0, .int .i64 0, .string ⟨#[]⟩, .bool false, .bool false, .int .i64 0, .int .i64 0, .string ⟨#[]⟩] 60) = w4 at S6 ⊢
      refine hK.out _ _ ⟨Bag.cs3 S6.out 0 rfl, Bag.cs13 S6.out 1 rfl⟩ (fun hS => ?_)
      clear hK K
      try simp only [zp0, zp1, zp2, zp3, zp4]
      refine wpAnyH_ready (rs := [1, 10]) (by kernel_rfl) (by simp) ?_
      refine Reg.cons_op (i := 1) rfl (fun K hK => ?_) ?_
      go_simp
      go_at_call 40
      refine (HTO0.out _ S6.out.old).mono ?_
      rintro e w5 ⟨zs0, rfl, hcon, ho, hb⟩
      have S7 := Lib.hid (show Sl.Sep W _ [L4.boxR W.heap.size 67 (U.cs_Store y0), L4.boxR (W.heap.size + 1) 83 (U.cs_Cursor y1), L4.boxR gb0 60 U.cz_Cursor, Bag.bag zs0.rows] from Bag.push_bag S6.out hb ho)
      clear S6
      clear hb ho
      have HZzs0 := Lib.hid (hcon.trans HC0.out)
      clear hcon
      go_wp2_with fail
      refine hK.out _ _ ⟨Bag.cs3 S7.out 0 rfl, Bag.cs13 S7.out 1 rfl⟩ (fun hS => ?_)
      clear hK K
      try simp only [zp0, zp1, zp2, zp3, zp4]
      refine wpAnyH_ready (rs := [3, 10]) (by kernel_rfl) (by simp) ?_
      refine Reg.cons_op (i := 3) rfl (fun K hK => ?_) ?_
      go_simp
      go_at_call 51
      refine (HTO1.out w5 S7.out.old).mono ?_
      rintro e w6 ⟨rfl, hb⟩
      have S8 := Lib.hid (S7.out.keep hb)
      clear S7
      clear hb
      go_wp2_with fail
      refine hK.out _ _ ⟨Bag.cs3 S8.out 0 rfl, Bag.cs13 S8.out 1 rfl⟩ (fun hS => ?_)
      clear hK K
      try simp only [zp0, zp1, zp2, zp3, zp4]
      refine wpAnyH_ready (rs := [4, 10]) (by kernel_rfl) (by simp) ?_
      refine Reg.cons_op (i := 4) rfl (fun K hK => ?_) ?_
      go_simp
      go_at_call 37
      refine (Cspec.out zs0 HZzs0.out _ (Bag.bag_rd S8.out 3 rfl)).mono ?_
      rintro e w7 ⟨zr1, rfl, hcon1, ho, hb⟩
      have S9 := Lib.hid (show Sl.Sep W _ [L4.boxR W.heap.size 67 (U.cs_Store y0), L4.boxR (W.heap.size + 1) 83 (U.cs_Cursor y1), L4.boxR gb0 60 U.cz_Cursor, Bag.bag zs0.rows, Bag.bag (U.rows1 zr1)] from Bag.push_bag S8.out hb ho)
      clear S8
      clear hb ho
      have HZzr1 := Lib.hid hcon1
      clear hcon1
      go_wp2_with fail
      refine hK.out _ _ ⟨Bag.cs3 S9.out 0 rfl, Bag.cs13 S9.out 1 rfl⟩ (fun hS => ?_)
      clear hK K
      try simp only [zp0, zp1, zp2, zp3, zp4]
      refine tk 5 rfl ?_
      try simp only [zp0, zp1, zp2, zp3, zp4]
      refine tk 6 rfl ?_
      try simp only [zp0, zp1, zp2, zp3, zp4]
      refine tk 7 rfl ?_
      try simp only [zp0, zp1, zp2, zp3, zp4]
      refine tk 8 rfl ?_
      try simp only [zp0, zp1, zp2, zp3, zp4]
      refine Reg.one_op (i := 10) rfl (by kernel_rfl) (fun K hK => ?_)
      go_simp
      have S10 := Lib.hid (show Sl.Sep W _ [L4.boxR W.heap.size 67 (U.cs_Store y0), L4.boxR (W.heap.size + 1) 83 (U.cs_Cursor y1), L4.boxR gb0 60 U.cz_Cursor, Bag.bag zs0.rows, Bag.bag (U.rows1 zr1), L4.boxR w7.heap.size 43 U.cz_Item] from L4.push_box S9.out 43 #[.int .i64 0, .int .i64 0, .string ⟨#[]⟩, .slice none 0 0] w7.heap.size rfl)
      clear S9
      obtain ⟨gb1, hg⟩ : ∃ g', g' = w7.heap.size := ⟨_, rfl⟩
      rw [← hg] at S10 ⊢
      clear hg
      generalize w7.alloc (.cells #[.int .i64 0, .int .i64 0, .string ⟨#[]⟩, .slice none 0 0] 43) = w8 at S10 ⊢
      refine hK.out _ _ ⟨Bag.cs3 S10.out 0 rfl, Bag.cs13 S10.out 1 rfl⟩ (fun hS => ?_)
      clear hK K
      try simp only [zp0, zp1, zp2, zp3, zp4]
      have S11 := Lib.hid (show Sl.Sep W _ [L4.boxR W.heap.size 67 (U.cs_Store y0), L4.boxR (W.heap.size + 1) 83 (U.cs_Cursor y1), Bag.bag (U.rows1 zr1), L4.boxR gb0 60 U.cz_Cursor, L4.boxR gb1 43 U.cz_Item] from Bag.take S10.out [0, 1, 4, 2, 5] (by rfl) (by decide))
      clear S10
      revert S11
      revert HZzr1
      revert hS
      exact hrest gb0 gb1 zr1 zs0 w8
      refine Reg.cons_op (i := 10) rfl (fun K hK => ?_) ?_
      go_simp
      have S9 := Lib.hid (show Sl.Sep W _ [L4.boxR W.heap.size 67 (U.cs_Store y0), L4.boxR (W.heap.size + 1) 83 (U.cs_Cursor y1), L4.boxR gb0 60 U.cz_Cursor, Bag.bag zs0.rows, L4.boxR w6.heap.size 43 U.cz_Item] from L4.push_box S8.out 43 #[.int .i64 0, .int .i64 0, .string ⟨#[]⟩, .slice none 0 0] w6.heap.size rfl)
      clear S8
      obtain ⟨gb1, hg⟩ : ∃ g', g' = w6.heap.size := ⟨_, rfl⟩
      rw [← hg] at S9 ⊢
      clear hg
      generalize w6.alloc (.cells #[.int .i64 0, .int .i64 0, .string ⟨#[]⟩, .slice none 0 0] 43) = w7 at S9 ⊢
      refine hK.out _ _ ⟨Bag.cs3 S9.out 0 rfl, Bag.cs13 S9.out 1 rfl⟩ (fun hS => ?_)
      clear hK K
      try simp only [zp0, zp1, zp2, zp3, zp4]
      refine Reg.one_op (i := 4) rfl (by kernel_rfl) (fun K hK => ?_)
      go_simp
      go_at_call 37
      refine (Cspec.out zs0 HZzs0.out _ (Bag.bag_rd S9.out 3 rfl)).mono ?_
      rintro e w8 ⟨zr1, rfl, hcon1, ho, hb⟩
      have S10 := Lib.hid (show Sl.Sep W _ [L4.boxR W.heap.size 67 (U.cs_Store y0), L4.boxR (W.heap.size + 1) 83 (U.cs_Cursor y1), L4.boxR gb0 60 U.cz_Cursor, Bag.bag zs0.rows, L4.boxR gb1 43 U.cz_Item, Bag.bag (U.rows1 zr1)] from Bag.push_bag S9.out hb ho)
      clear S9
      clear hb ho
      have HZzr1 := Lib.hid hcon1
      clear hcon1
      go_wp2_with fail
      refine hK.out _ _ ⟨Bag.cs3 S10.out 0 rfl, Bag.cs13 S10.out 1 rfl⟩ (fun hS => ?_)
      clear hK K
      try simp only [zp0, zp1, zp2, zp3, zp4]
      refine tk 5 rfl ?_
      try simp only [zp0, zp1, zp2, zp3, zp4]
      refine tk 6 rfl ?_
      try simp only [zp0, zp1, zp2, zp3, zp4]
      refine tk 7 rfl ?_
      try simp only [zp0, zp1, zp2, zp3, zp4]
      refine tk 8 rfl ?_
      try simp only [zp0, zp1, zp2, zp3, zp4]
      have S11 := Lib.hid (show Sl.Sep W _ [L4.boxR W.heap.size 67 (U.cs_Store y0), L4.boxR (W.heap.size + 1) 83 (U.cs_Cursor y1), Bag.bag (U.rows1 zr1), L4.boxR gb0 60 U.cz_Cursor, L4.boxR gb1 43 U.cz_Item] from Bag.take S10.out [0, 1, 5, 2, 4] (by rfl) (by decide))
      clear S10
      revert S11
      revert HZzr1
      revert hS
      exact hrest gb0 gb1 zr1 zs0 w8
      exact AllReadyH.nil
      refine Reg.cons_op (i := 10) rfl (fun K hK => ?_) ?_
      go_simp
      have S8 := Lib.hid (show Sl.Sep W _ [L4.boxR W.heap.size 67 (U.cs_Store y0), L4.boxR (W.heap.size + 1) 83 (U.cs_Cursor y1), L4.boxR gb0 60 U.cz_Cursor, Bag.bag zs0.rows, L4.boxR w5.heap.size 43 U.cz_Item] from L4.push_box S7.out 43 #[.int .i64 0, .int .i64 0, .string ⟨#[]⟩, .slice none 0 0] w5.heap.size rfl)
      clear S7
      obtain ⟨gb1, hg⟩ : ∃ g', g' = w5.heap.size := ⟨_, rfl⟩
      rw [← hg] at S8 ⊢
      clear hg
      generalize w5.alloc (.cells #[.int .i64 0, .int .i64 0, .string ⟨#[]⟩, .slice none 0 0] 43) = w6 at S8 ⊢
      refine hK.out _ _ ⟨Bag.cs3 S8.out 0 rfl, Bag.cs13 S8.out 1 rfl⟩ (fun hS => ?_)
      clear hK K
      try simp only [zp0, zp1, zp2, zp3, zp4]
      refine Reg.one_op (i := 3) rfl (by kernel_rfl) (fun K hK => ?_)
      go_simp
      go_at_call 51
      refine (HTO1.out w6 S8.out.old).mono ?_
      rintro e w7 ⟨rfl, hb⟩
      have S9 := Lib.hid (S8.out.keep hb)
      clear S8
      clear hb
      go_wp2_with fail
      refine hK.out _ _ ⟨Bag.cs3 S9.out 0 rfl, Bag.cs13 S9.out 1 rfl⟩ (fun hS => ?_)
      clear hK K
      try simp only [zp0, zp1, zp2, zp3, zp4]
      refine Reg.one_op (i := 4) rfl (by kernel_rfl) (fun K hK => ?_)
      go_simp
      go_at_call 37
      refine (Cspec.out zs0 HZzs0.out _ (Bag.bag_rd S9.out 3 rfl)).mono ?_
      rintro e w8 ⟨zr1, rfl, hcon1, ho, hb⟩
      have S10 := Lib.hid (show Sl.Sep W _ [L4.boxR W.heap.size 67 (U.cs_Store y0), L4.boxR (W.heap.size + 1) 83 (U.cs_Cursor y1), L4.boxR gb0 60 U.cz_Cursor, Bag.bag zs0.rows, L4.boxR gb1 43 U.cz_Item, Bag.bag (U.rows1 zr1)] from Bag.push_bag S9.out hb ho)
      clear S9
      clear hb ho
      have HZzr1 := Lib.hid hcon1
      clear hcon1
      go_wp2_with fail
      refine hK.out _ _ ⟨Bag.cs3 S10.out 0 rfl, Bag.cs13 S10.out 1 rfl⟩ (fun hS => ?_)
      clear hK K
      try simp only [zp0, zp1, zp2, zp3, zp4]
      refine tk 5 rfl ?_
      try simp only [zp0, zp1, zp2, zp3, zp4]
      refine tk 6 rfl ?_
      try simp only [zp0, zp1, zp2, zp3, zp4]
      refine tk 7 rfl ?_
      try simp only [zp0, zp1, zp2, zp3, zp4]
      refine tk 8 rfl ?_
      try simp only [zp0, zp1, zp2, zp3, zp4]
      have S11 := Lib.hid (show Sl.Sep W _ [L4.boxR W.heap.size 67 (U.cs_Store y0), L4.boxR (W.heap.size + 1) 83 (U.cs_Cursor y1), Bag.bag (U.rows1 zr1), L4.boxR gb0 60 U.cz_Cursor, L4.boxR gb1 43 U.cz_Item] from Bag.take S10.out [0, 1, 5, 2, 4] (by rfl) (by decide))
      clear S10
      revert S11
      revert HZzr1
      revert hS
      exact hrest gb0 gb1 zr1 zs0 w8
      exact AllReadyH.nil
      refine Reg.cons_op (i := 10) rfl (fun K hK => ?_) ?_
      go_simp
      have S7 := Lib.hid (show Sl.Sep W _ [L4.boxR W.heap.size 67 (U.cs_Store y0), L4.boxR (W.heap.size + 1) 83 (U.cs_Cursor y1), L4.boxR gb0 60 U.cz_Cursor, L4.boxR w4.heap.size 43 U.cz_Item] from L4.push_box S6.out 43 #[.int .i64 0, .int .i64 0, .string ⟨#[]⟩, .slice none 0 0] w4.heap.size rfl)
      clear S6
      obtain ⟨gb1, hg⟩ : ∃ g', g' = w4.heap.size := ⟨_, rfl⟩
      rw [← hg] at S7 ⊢
      clear hg
      generalize w4.alloc (.cells #[.int .i64 0, .int .i64 0, .string ⟨#[]⟩, .slice none 0 0] 43) = w5 at S7 ⊢
      refine hK.out _ _ ⟨Bag.cs3 S7.out 0 rfl, Bag.cs13 S7.out 1 rfl⟩ (fun hS => ?_)
      clear hK K
      try simp only [zp0, zp1, zp2, zp3, zp4]
      refine Reg.one_op (i := 1) rfl (by kernel_rfl) (fun K hK => ?_)
      go_simp
      go_at_call 40
      refine (HTO0.out _ S7.out.old).mono ?_
      rintro e w6 ⟨zs0, rfl, hcon, ho, hb⟩
      have S8 := Lib.hid (show Sl.Sep W _ [L4.boxR W.heap.size 67 (U.cs_Store y0), L4.boxR (W.heap.size + 1) 83 (U.cs_Cursor y1), L4.boxR gb0 60 U.cz_Cursor, L4.boxR gb1 43 U.cz_Item, Bag.bag zs0.rows] from Bag.push_bag S7.out hb ho)
      clear S7
      clear hb ho
      have HZzs0 := Lib.hid (hcon.trans HC0.out)
      clear hcon
      go_wp2_with fail
      refine hK.out _ _ ⟨Bag.cs3 S8.out 0 rfl, Bag.cs13 S8.out 1 rfl⟩ (fun hS => ?_)
      clear hK K
      try simp only [zp0, zp1, zp2, zp3, zp4]
      refine Reg.one_op (i := 3) rfl (by kernel_rfl) (fun K hK => ?_)
      go_simp
      go_at_call 51
      refine (HTO1.out w6 S8.out.old).mono ?_
      rintro e w7 ⟨rfl, hb⟩
      have S9 := Lib.hid (S8.out.keep hb)
      clear S8
      clear hb
      go_wp2_with fail
      refine hK.out _ _ ⟨Bag.cs3 S9.out 0 rfl, Bag.cs13 S9.out 1 rfl⟩ (fun hS => ?_)
      clear hK K
      try simp only [zp0, zp1, zp2, zp3, zp4]
      refine Reg.one_op (i := 4) rfl (by kernel_rfl) (fun K hK => ?_)
      go_simp
      go_at_call 37
      refine (Cspec.out zs0 HZzs0.out _ (Bag.bag_rd S9.out 4 rfl)).mono ?_
      rintro e w8 ⟨zr1, rfl, hcon1, ho, hb⟩
      have S10 := Lib.hid (show Sl.Sep W _ [L4.boxR W.heap.size 67 (U.cs_Store y0), L4.boxR (W.heap.size + 1) 83 (U.cs_Cursor y1), L4.boxR gb0 60 U.cz_Cursor, L4.boxR gb1 43 U.cz_Item, Bag.bag zs0.rows, Bag.bag (U.rows1 zr1)] from Bag.push_bag S9.out hb ho)
      clear S9
      clear hb ho
      have HZzr1 := Lib.hid hcon1
      clear hcon1
      go_wp2_with fail
      refine hK.out _ _ ⟨Bag.cs3 S10.out 0 rfl, Bag.cs13 S10.out 1 rfl⟩ (fun hS => ?_)
      clear hK K
      try simp only [zp0, zp1, zp2, zp3, zp4]
      refine tk 5 rfl ?_
      try simp only [zp0, zp1, zp2, zp3, zp4]
      refine tk 6 rfl ?_
      try simp only [zp0, zp1, zp2, zp3, zp4]
      refine tk 7 rfl ?_
      try simp only [zp0, zp1, zp2, zp3, zp4]
      refine tk 8 rfl ?_
      try simp only [zp0, zp1, zp2, zp3, zp4]
      have S11 := Lib.hid (show Sl.Sep W _ [L4.boxR W.heap.size 67 (U.cs_Store y0), L4.boxR (W.heap.size + 1) 83 (U.cs_Cursor y1), Bag.bag (U.rows1 zr1), L4.boxR gb0 60 U.cz_Cursor, L4.boxR gb1 43 U.cz_Item] from Bag.take S10.out [0, 1, 5, 2, 3] (by rfl) (by decide))
      clear S10
      revert S11
      revert HZzr1
      revert hS
      exact hrest gb0 gb1 zr1 zs0 w8
      exact AllReadyH.nil
      refine Reg.cons_op (i := 10) rfl (fun K hK => ?_) ?_
      go_simp
      have S6 := Lib.hid (show Sl.Sep W _ [L4.boxR W.heap.size 67 (U.cs_Store y0), L4.boxR (W.heap.size + 1) 83 (U.cs_Cursor y1), L4.boxR w3.heap.size 43 U.cz_Item] from L4.push_box S5.out 43 #[.int .i64 0, .int .i64 0, .string ⟨#[]⟩, .slice none 0 0] w3.heap.size rfl)
      obtain ⟨gb1, hg⟩ : ∃ g', g' = w3.heap.size := ⟨_, rfl⟩
      rw [← hg] at S6 ⊢
      clear hg
      generalize w3.alloc (.cells #[.int .i64 0, .int .i64 0, .string ⟨#[]⟩, .slice none 0 0] 43) = w4 at S6 ⊢
      refine hK.out _ _ ⟨Bag.cs3 S6.out 0 rfl, Bag.cs13 S6.out 1 rfl⟩ (fun hS => ?_)
      clear hK K
      try simp only [zp0, zp1, zp2, zp3, zp4]
      refine wpAnyH_ready (rs := [1, 9]) (by kernel_rfl) (by simp) ?_
      refine Reg.cons_op (i := 1) rfl (fun K hK => ?_) ?_
      go_simp
      go_at_call 40
      refine (HTO0.out _ S6.out.old).mono ?_
      rintro e w5 ⟨zs0, rfl, hcon, ho, hb⟩
      have S7 := Lib.hid (show Sl.Sep W _ [L4.boxR W.heap.size 67 (U.cs_Store y0), L4.boxR (W.heap.size + 1) 83 (U.cs_Cursor y1), L4.boxR gb1 43 U.cz_Item, Bag.bag zs0.rows] from Bag.push_bag S6.out hb ho)
      clear S6
      clear hb ho
      have HZzs0 := Lib.hid (hcon.trans HC0.out)
      clear hcon
      go_wp2_with fail
      refine hK.out _ _ ⟨Bag.cs3 S7.out 0 rfl, Bag.cs13 S7.out 1 rfl⟩ (fun hS => ?_)
      clear hK K
      try simp only [zp0, zp1, zp2, zp3, zp4]
      refine wpAnyH_ready (rs := [3, 9]) (by kernel_rfl) (by simp) ?_
      refine Reg.cons_op (i := 3) rfl (fun K hK => ?_) ?_
      go_simp
      go_at_call 51
      refine (HTO1.out w5 S7.out.old).mono ?_
      rintro e w6 ⟨rfl, hb⟩
      have S8 := Lib.hid (S7.out.keep hb)
      clear S7
      clear hb
      go_wp2_with fail
      refine hK.out _ _ ⟨Bag.cs3 S8.out 0 rfl, Bag.cs13 S8.out 1 rfl⟩ (fun hS => ?_)
      clear hK K
      try simp only [zp0, zp1, zp2, zp3, zp4]
      refine wpAnyH_ready (rs := [4, 9]) (by kernel_rfl) (by simp) ?_
      refine Reg.cons_op (i := 4) rfl (fun K hK => ?_) ?_
      go_simp
      go_at_call 37
      refine (Cspec.out zs0 HZzs0.out _ (Bag.bag_rd S8.out 3 rfl)).mono ?_
      rintro e w7 ⟨zr1, rfl, hcon1, ho, hb⟩
      have S9 := Lib.hid (show Sl.Sep W _ [L4.boxR W.heap.size 67 (U.cs_Store y0), L4.boxR (W.heap.size + 1) 83 (U.cs_Cursor y1), L4.boxR gb1 43 U.cz_Item, Bag.bag zs0.rows, Bag.bag (U.rows1 zr1)] from Bag.push_bag S8.out hb ho)
      clear S8
      clear hb ho
      have HZzr1 := Lib.hid hcon1
      clear hcon1
      go_wp2_with fail
      refine hK.out _ _ ⟨Bag.cs3 S9.out 0 rfl, Bag.cs13 S9.out 1 rfl⟩ (fun hS => ?_)
      clear hK K
      try simp only [zp0, zp1, zp2, zp3, zp4]
      refine tk 5 rfl ?_
      try simp only [zp0, zp1, zp2, zp3, zp4]
      refine tk 6 rfl ?_
      try simp only [zp0, zp1, zp2, zp3, zp4]
      refine tk 7 rfl ?_
      try simp only [zp0, zp1, zp2, zp3, zp4]
      refine tk 8 rfl ?_
      try simp only [zp0, zp1, zp2, zp3, zp4]
      refine Reg.one_op (i := 9) rfl (by kernel_rfl) (fun K hK => ?_)
      go_simp
      have S10 := Lib.hid (show Sl.Sep W _ [L4.boxR W.heap.size 67 (U.cs_Store y0), L4.boxR (W.heap.size + 1) 83 (U.cs_Cursor y1), L4.boxR gb1 43 U.cz_Item, Bag.bag zs0.rows, Bag.bag (U.rows1 zr1), L4.boxR w7.heap.size 60 U.cz_Cursor] from L4.push_box S9.out 60 #[.bool false, .bool false, .int .i64 0, .int .i64 0, .string ⟨#[]⟩, .int .i64 0, .int .i64 0, .string ⟨#[]⟩, .bool false, .bool false, .int .i64 0, .int .i64 0, .string ⟨#[]⟩] w7.heap.size rfl)
      clear S9
      obtain ⟨gb0, hg⟩ : ∃ g', g' = w7.heap.size := ⟨_, rfl⟩
      rw [← hg] at S10 ⊢
      clear hg
      generalize w7.alloc (.cells #[.bool false, .bool false, .int .i64 0, .int .i64 0, .string ⟨#[]⟩, .int .i64 0, .int .i64 0, .string ⟨#[]⟩, .bool false, .bool false, .int .i64 0, .int .i64 0, .string ⟨#[]⟩] 60) = w8 at S10 ⊢
      refine hK.out _ _ ⟨Bag.cs3 S10.out 0 rfl, Bag.cs13 S10.out 1 rfl⟩ (fun hS => ?_)
      clear hK K
      try simp only [zp0, zp1, zp2, zp3, zp4]
      have S11 := Lib.hid (show Sl.Sep W _ [L4.boxR W.heap.size 67 (U.cs_Store y0), L4.boxR (W.heap.size + 1) 83 (U.cs_Cursor y1), Bag.bag (U.rows1 zr1), L4.boxR gb0 60 U.cz_Cursor, L4.boxR gb1 43 U.cz_Item] from Bag.take S10.out [0, 1, 4, 5, 2] (by rfl) (by decide))
      clear S10
      revert S11
      revert HZzr1
      revert hS
      exact hrest gb0 gb1 zr1 zs0 w8
      refine Reg.cons_op (i := 9) rfl (fun K hK => ?_) ?_
      go_simp
      have S9 := Lib.hid (show Sl.Sep W _ [L4.boxR W.heap.size 67 (U.cs_Store y0), L4.boxR (W.heap.size + 1) 83 (U.cs_Cursor y1), L4.boxR gb1 43 U.cz_Item, Bag.bag zs0.rows, L4.boxR w6.heap.size 60 U.cz_Cursor] from L4.push_box S8.out 60 #[.bool false, .bool false, .int .i64 0, .int .i64 0, .string ⟨#[]⟩, .int .i64 0, .int .i64 0, .string ⟨#[]⟩, .bool false, .bool false, .int .i64 0, .int .i64 0, .string ⟨#[]⟩] w6.heap.size rfl)
      clear S8
      obtain ⟨gb0, hg⟩ : ∃ g', g' = w6.heap.size := ⟨_, rfl⟩
      rw [← hg] at S9 ⊢
      clear hg
      generalize w6.alloc (.cells #[.bool false, .bool false, .int .i64 0, .int .i64 0, .string ⟨#[]⟩, .int .i64 0, .int .i64 0, .string ⟨#[]⟩, .bool false, .bool false, .int .i64 0, .int .i64 0, .string ⟨#[]⟩] 60) = w7 at S9 ⊢
      refine hK.out _ _ ⟨Bag.cs3 S9.out 0 rfl, Bag.cs13 S9.out 1 rfl⟩ (fun hS => ?_)
      clear hK K
      try simp only [zp0, zp1, zp2, zp3, zp4]
      refine Reg.one_op (i := 4) rfl (by kernel_rfl) (fun K hK => ?_)
      go_simp
      go_at_call 37
      refine (Cspec.out zs0 HZzs0.out _ (Bag.bag_rd S9.out 3 rfl)).mono ?_
      rintro e w8 ⟨zr1, rfl, hcon1, ho, hb⟩
      have S10 := Lib.hid (show Sl.Sep W _ [L4.boxR W.heap.size 67 (U.cs_Store y0), L4.boxR (W.heap.size + 1) 83 (U.cs_Cursor y1), L4.boxR gb1 43 U.cz_Item, Bag.bag zs0.rows, L4.boxR gb0 60 U.cz_Cursor, Bag.bag (U.rows1 zr1)] from Bag.push_bag S9.out hb ho)
      clear S9
      clear hb ho
      have HZzr1 := Lib.hid hcon1
      clear hcon1
      go_wp2_with fail
      refine hK.out _ _ ⟨Bag.cs3 S10.out 0 rfl, Bag.cs13 S10.out 1 rfl⟩ (fun hS => ?_)
      clear hK K
      try simp only [zp0, zp1, zp2, zp3, zp4]
      refine tk 5 rfl ?_
      try simp only [zp0, zp1, zp2, zp3, zp4]
      refine tk 6 rfl ?_
      try simp only [zp0, zp1, zp2, zp3, zp4]
      refine tk 7 rfl ?_
      try simp only [zp0, zp1, zp2, zp3, zp4]
      refine tk 8 rfl ?_
      try simp only [zp0, zp1, zp2, zp3, zp4]
      have S11 := Lib.hid (show Sl.Sep W _ [L4.boxR W.heap.size 67 (U.cs_Store y0), L4.boxR (W.heap.size + 1) 83 (U.cs_Cursor y1), Bag.bag (U.rows1 zr1), L4.boxR gb0 60 U.cz_Cursor, L4.boxR gb1 43 U.cz_Item] from Bag.take S10.out [0, 1, 5, 4, 2] (by rfl) (by decide))
      clear S10
      revert S11
      revert HZzr1
      revert hS
      exact hrest gb0 gb1 zr1 zs0 w8
      exact AllReadyH.nil
      refine Reg.cons_op (i := 9) rfl (fun K hK => ?_) ?_
      go_simp
      have S8 := Lib.hid (show Sl.Sep W _ [L4.boxR W.heap.size 67 (U.cs_Store y0), L4.boxR (W.heap.size + 1) 83 (U.cs_Cursor y1), L4.boxR gb1 43 U.cz_Item, Bag.bag zs0.rows, L4.boxR w5.heap.size 60 U.cz_Cursor] from L4.push_box S7.out 60 #[.bool false, .bool false, .int .i64 0, .int .i64 0, .string ⟨#[]⟩, .int .i64 0, .int .i64 0, .string ⟨#[]⟩, .bool false, .bool false, .int .i64 0, .int .i64 0, .string ⟨#[]⟩] w5.heap.size rfl)
      clear S7
      obtain ⟨gb0, hg⟩ : ∃ g', g' = w5.heap.size := ⟨_, rfl⟩
      rw [← hg] at S8 ⊢
      clear hg
      generalize w5.alloc (.cells #[.bool false, .bool false, .int .i64 0, .int .i64 0, .string ⟨#[]⟩, .int .i64 0, .int .i64 0, .string ⟨#[]⟩, .bool false, .bool false, .int .i64 0, .int .i64 0, .string ⟨#[]⟩] 60) = w6 at S8 ⊢
      refine hK.out _ _ ⟨Bag.cs3 S8.out 0 rfl, Bag.cs13 S8.out 1 rfl⟩ (fun hS => ?_)
      clear hK K
      try simp only [zp0, zp1, zp2, zp3, zp4]
      refine Reg.one_op (i := 3) rfl (by kernel_rfl) (fun K hK => ?_)
      go_simp
      go_at_call 51
      refine (HTO1.out w6 S8.out.old).mono ?_
      rintro e w7 ⟨rfl, hb⟩
      have S9 := Lib.hid (S8.out.keep hb)
      clear S8
      clear hb
      go_wp2_with fail
      refine hK.out _ _ ⟨Bag.cs3 S9.out 0 rfl, Bag.cs13 S9.out 1 rfl⟩ (fun hS => ?_)
      clear hK K
      try simp only [zp0, zp1, zp2, zp3, zp4]
      refine Reg.one_op (i := 4) rfl (by kernel_rfl) (fun K hK => ?_)
      go_simp
      go_at_call 37
      refine (Cspec.out zs0 HZzs0.out _ (Bag.bag_rd S9.out 3 rfl)).mono ?_
      rintro e w8 ⟨zr1, rfl, hcon1, ho, hb⟩
      have S10 := Lib.hid (show Sl.Sep W _ [L4.boxR W.heap.size 67 (U.cs_Store y0), L4.boxR (W.heap.size + 1) 83 (U.cs_Cursor y1), L4.boxR gb1 43 U.cz_Item, Bag.bag zs0.rows, L4.boxR gb0 60 U.cz_Cursor, Bag.bag (U.rows1 zr1)] from Bag.push_bag S9.out hb ho)
      clear S9
      clear hb ho
      have HZzr1 := Lib.hid hcon1
      clear hcon1
      go_wp2_with fail
      refine hK.out _ _ ⟨Bag.cs3 S10.out 0 rfl, Bag.cs13 S10.out 1 rfl⟩ (fun hS => ?_)
      clear hK K
      try simp only [zp0, zp1, zp2, zp3, zp4]
      refine tk 5 rfl ?_
      try simp only [zp0, zp1, zp2, zp3, zp4]
      refine tk 6 rfl ?_
      try simp only [zp0, zp1, zp2, zp3, zp4]
      refine tk 7 rfl ?_
      try simp only [zp0, zp1, zp2, zp3, zp4]
      refine tk 8 rfl ?_
      try simp only [zp0, zp1, zp2, zp3, zp4]
      have S11 := Lib.hid (show Sl.Sep W _ [L4.boxR W.heap.size 67 (U.cs_Store y0), L4.boxR (W.heap.size + 1) 83 (U.cs_Cursor y1), Bag.bag (U.rows1 zr1), L4.boxR gb0 60 U.cz_Cursor, L4.boxR gb1 43 U.cz_Item] from Bag.take S10.out [0, 1, 5, 4, 2] (by rfl) (by decide))
      clear S10
      revert S11
      revert HZzr1
      revert hS
      exact hrest gb0 gb1 zr1 zs0 w8
      exact AllReadyH.nil
      refine Reg.cons_op (i := 9) rfl (fun K hK => ?_) ?_
      go_simp
      have S7 := Lib.hid (show Sl.Sep W _ [L4.boxR W.heap.size 67 (U.cs_Store y0), L4.boxR (W.heap.size + 1) 83 (U.cs_Cursor y1), L4.boxR gb1 43 U.cz_Item, L4.boxR w4.heap.size 60 U.cz_Cursor] from L4.push_box S6.out 60 #[.bool false, .bool false, .int .i64 0, .int .i64 0, .string ⟨#[]⟩, .int .i64 0, .int .i64 0, .string ⟨#[]⟩, .bool false, .bool false, .int .i64 0, .int .i64 0, .string ⟨#[]⟩] w4.heap.size rfl)
      clear S6
      obtain ⟨gb0, hg⟩ : ∃ g', g' = w4.heap.size := ⟨_, rfl⟩
      rw [← hg] at S7 ⊢
      clear hg
      generalize w4.alloc (.cells #[.bool false, .bool false, .int .i64 0, .int .i64 0, .string ⟨#[]⟩, .int .i64 0, .int .i64 0, .string ⟨#[]⟩, .bool false, .bool false, .int .i64 0, .int .i64 0, .string ⟨#[]⟩] 60) = w5 at S7 ⊢
      refine hK.out _ _ ⟨Bag.cs3 S7.out 0 rfl, Bag.cs13 S7.out 1 rfl⟩ (fun hS => ?_)
      clear hK K
      try simp only [zp0, zp1, zp2, zp3, zp4]
      refine Reg.one_op (i := 1) rfl (by kernel_rfl) (fun K hK => ?_)
      go_simp
      go_at_call 40
      refine (HTO0.out _ S7.out.old).mono ?_
      rintro e w6 ⟨zs0, rfl, hcon, ho, hb⟩
      have S8 := Lib.hid (show Sl.Sep W _ [L4.boxR W.heap.size 67 (U.cs_Store y0), L4.boxR (W.heap.size + 1) 83 (U.cs_Cursor y1), L4.boxR gb1 43 U.cz_Item, L4.boxR gb0 60 U.cz_Cursor, Bag.bag zs0.rows] from Bag.push_bag S7.out hb ho)
      clear S7
      clear hb ho
      have HZzs0 := Lib.hid (hcon.trans HC0.out)
      clear hcon
      go_wp2_with fail
      refine hK.out _ _ ⟨Bag.cs3 S8.out 0 rfl, Bag.cs13 S8.out 1 rfl⟩ (fun hS => ?_)
      clear hK K
      try simp only [zp0, zp1, zp2, zp3, zp4]
      refine Reg.one_op (i := 3) rfl (by kernel_rfl) (fun K hK => ?_)
      go_simp
      go_at_call 51
      refine (HTO1.out w6 S8.out.old).mono ?_
      rintro e w7 ⟨rfl, hb⟩
      have S9 := Lib.hid (S8.out.keep hb)
      clear S8
      clear hb
      go_wp2_with fail
      refine hK.out _ _ ⟨Bag.cs3 S9.out 0 rfl, Bag.cs13 S9.out 1 rfl⟩ (fun hS => ?_)
      clear hK K
      try simp only [zp0, zp1, zp2, zp3, zp4]
      refine Reg.one_op (i := 4) rfl (by kernel_rfl) (fun K hK => ?_)
      go_simp
      go_at_call 37
      refine (Cspec.out zs0 HZzs0.out _ (Bag.bag_rd S9.out 4 rfl)).mono ?_
      rintro e w8 ⟨zr1, rfl, hcon1, ho, hb⟩
      have S10 := Lib.hid (show Sl.Sep W _ [L4.boxR W.heap.size 67 (U.cs_Store y0), L4.boxR (W.heap.size + 1) 83 (U.cs_Cursor y1), L4.boxR gb1 43 U.cz_Item, L4.boxR gb0 60 U.cz_Cursor, Bag.bag zs0.rows, Bag.bag (U.rows1 zr1)] from Bag.push_bag S9.out hb ho)
      clear S9
      clear hb ho
      have HZzr1 := Lib.hid hcon1
      clear hcon1
      go_wp2_with fail
      refine hK.out _ _ ⟨Bag.cs3 S10.out 0 rfl, Bag.cs13 S10.out 1 rfl⟩ (fun hS => ?_)
      clear hK K
      try simp only [zp0, zp1, zp2, zp3, zp4]
      refine tk 5 rfl ?_
      try simp only [zp0, zp1, zp2, zp3, zp4]
      refine tk 6 rfl ?_
      try simp only [zp0, zp1, zp2, zp3, zp4]
      refine tk 7 rfl ?_
      try simp only [zp0, zp1, zp2, zp3, zp4]
      refine tk 8 rfl ?_
      try simp only [zp0, zp1, zp2, zp3, zp4]
      have S11 := Lib.hid (show Sl.Sep W _ [L4.boxR W.heap.size 67 (U.cs_Store y0), L4.boxR (W.heap.size + 1) 83 (U.cs_Cursor y1), Bag.bag (U.rows1 zr1), L4.boxR gb0 60 U.cz_Cursor, L4.boxR gb1 43 U.cz_Item] from Bag.take S10.out [0, 1, 5, 3, 2] (by rfl) (by decide))
      clear S10
      revert S11
      revert HZzr1
      revert hS
      exact hrest gb0 gb1 zr1 zs0 w8
      exact AllReadyH.nil
      exact AllReadyH.nil
    case pf =>
      intro gb0 gb1 zr1 zs0 w8 hS HZzr1 S11
      refine Reg.one_op (i := 11) rfl (by kernel_rfl) (fun K hK => ?_)
      have hh := Bag.cs13 S11.out 3 rfl
      have f0 := hh.1; have f1 := hh.2.1; have f2 := hh.2.2.1; have f3 := hh.2.2.2.1; have f4 := hh.2.2.2.2.1; have f5 := hh.2.2.2.2.2.1; have f6 := hh.2.2.2.2.2.2.1; have f7 := hh.2.2.2.2.2.2.2.1; have f8 := hh.2.2.2.2.2.2.2.2.1; have f9 := hh.2.2.2.2.2.2.2.2.2.1; have f10 := hh.2.2.2.2.2.2.2.2.2.2.1; have f11 := hh.2.2.2.2.2.2.2.2.2.2.2.1; have f12 := hh.2.2.2.2.2.2.2.2.2.2.2.2; clear hh
      have hh := Bag.fs13 S11.out 3 rfl
      have z0 := hh.1; have z1 := hh.2.1; have z2 := hh.2.2.1; have z3 := hh.2.2.2.1; have z4 := hh.2.2.2.2.1; have z5 := hh.2.2.2.2.2.1; have z6 := hh.2.2.2.2.2.2.1; have z7 := hh.2.2.2.2.2.2.2.1; have z8 := hh.2.2.2.2.2.2.2.2.1; have z9 := hh.2.2.2.2.2.2.2.2.2.1; have z10 := hh.2.2.2.2.2.2.2.2.2.2.1; have z11 := hh.2.2.2.2.2.2.2.2.2.2.2.1; have z12 := hh.2.2.2.2.2.2.2.2.2.2.2.2; clear hh
      go_simp
      clear f0 f1 f2 f3 f4 f5 f6 f7 f8 f9 f10 f11 f12 z0 z1 z2 z3 z4 z5 z6 z7 z8 z9 z10 z11 z12
      have S12 := Lib.hid (show Sl.Sep W _ [L4.boxR W.heap.size 67 (U.cs_Store y0), L4.boxR (W.heap.size + 1) 83 (U.cs_Cursor y1), Bag.bag (U.rows1 zr1), L4.boxR gb0 60 #[.bool r0'.r.hl, .bool r0'.r.hh, .int .i64 r0'.r.lo.kind, .int .i64 r0'.r.lo.n, .string ⟨#[]⟩, .int .i64 0, .int .i64 0, .string ⟨#[]⟩, .bool false, .bool false, .int .i64 0, .int .i64 0, .string ⟨#[]⟩], L4.boxR gb1 43 U.cz_Item] from L5.put_box5 (L5.put_box5 (L5.put_box5 (L5.put_box5 (S11.out) 3 rfl 0 (.bool r0'.r.hl)) 3 rfl 1 (.bool r0'.r.hh)) 3 rfl 2 (.int .i64 r0'.r.lo.kind)) 3 rfl 3 (.int .i64 r0'.r.lo.n))
      clear S11
      have S13 := Lib.hid (show Sl.Sep W _ [L4.boxR W.heap.size 67 (U.cs_Store y0), L4.boxR (W.heap.size + 1) 83 (U.cs_Cursor y1), Bag.bag (U.rows1 zr1), L4.boxR gb0 60 #[.bool r0'.r.hl, .bool r0'.r.hh, .int .i64 r0'.r.lo.kind, .int .i64 r0'.r.lo.n, .string r0'.r.lo.text, .int .i64 r0'.r.hi.kind, .int .i64 r0'.r.hi.n, .string r0'.r.hi.text, .bool false, .bool false, .int .i64 0, .int .i64 0, .string ⟨#[]⟩], L4.boxR gb1 43 U.cz_Item] from L5.put_box5 (L5.put_box5 (L5.put_box5 (L5.put_box5 (S12.out) 3 rfl 4 (.string r0'.r.lo.text)) 3 rfl 5 (.int .i64 r0'.r.hi.kind)) 3 rfl 6 (.int .i64 r0'.r.hi.n)) 3 rfl 7 (.string r0'.r.hi.text))
      clear S12
      have S14 := Lib.hid (show Sl.Sep W _ [L4.boxR W.heap.size 67 (U.cs_Store y0), L4.boxR (W.heap.size + 1) 83 (U.cs_Cursor y1), Bag.bag (U.rows1 zr1), L4.boxR gb0 60 #[.bool r0'.r.hl, .bool r0'.r.hh, .int .i64 r0'.r.lo.kind, .int .i64 r0'.r.lo.n, .string r0'.r.lo.text, .int .i64 r0'.r.hi.kind, .int .i64 r0'.r.hi.n, .string r0'.r.hi.text, .bool r0'.back, .bool r0'.st, .int .i64 r0'.k.kind, .int .i64 r0'.k.n, .string ⟨#[]⟩], L4.boxR gb1 43 U.cz_Item] from L5.put_box5 (L5.put_box5 (L5.put_box5 (L5.put_box5 (S13.out) 3 rfl 8 (.bool r0'.back)) 3 rfl 9 (.bool r0'.st)) 3 rfl 10 (.int .i64 r0'.k.kind)) 3 rfl 11 (.int .i64 r0'.k.n))
      clear S13
      have S15 := Lib.hid (show Sl.Sep W _ [L4.boxR W.heap.size 67 (U.cs_Store y0), L4.boxR (W.heap.size + 1) 83 (U.cs_Cursor y1), Bag.bag (U.rows1 zr1), L4.boxR gb0 60 (U.cs_Cursor r0'), L4.boxR gb1 43 U.cz_Item] from L5.put_box5 (S14.out) 3 rfl 12 (.string r0'.k.text))
      clear S14
      refine hK.out _ _ ⟨Bag.cs3 S15.out 0 rfl, Bag.cs13 S15.out 1 rfl⟩ (fun hS => ?_)
      clear hK K
      try simp only [zp0, zp1, zp2, zp3, zp4]
      refine Reg.one_op (i := 12) rfl (by kernel_rfl) (fun K hK => ?_)
      have hh := Bag.cs4 S15.out 4 rfl
      have f0 := hh.1; have f1 := hh.2.1; have f2 := hh.2.2.1; have f3 := hh.2.2.2; clear hh
      have hh := Bag.fs4 S15.out 4 rfl
      have z0 := hh.1; have z1 := hh.2.1; have z2 := hh.2.2.1; have z3 := hh.2.2.2; clear hh
      go_simp
      clear f0 f1 f2 f3 z0 z1 z2 z3
      have S16 := Lib.hid (show Sl.Sep W _ [L4.boxR W.heap.size 67 (U.cs_Store y0), L4.boxR (W.heap.size + 1) 83 (U.cs_Cursor y1), Bag.bag (U.rows1 zr1), L4.boxR gb0 60 (U.cs_Cursor r0'), L4.boxR gb1 43 (U.cs_Item zr1)] from L5.put_box5 (L5.put_box5 (L5.put_box5 (L5.put_box5 (S15.out) 4 rfl 0 (.int .i64 zr1.k.kind)) 4 rfl 1 (.int .i64 zr1.k.n)) 4 rfl 2 (.string zr1.k.text)) 4 rfl 3 (.slice zr1.a zr1.l.length zr1.c))
      clear S15
      refine hK.out _ _ ⟨Bag.cs3 S16.out 0 rfl, Bag.cs13 S16.out 1 rfl⟩ (fun hS => ?_)
      clear hK K
      try simp only [zp0, zp1, zp2, zp3, zp4]
      refine tk 13 rfl ?_
      try simp only [zp0, zp1, zp2, zp3, zp4]
      refine wpAnyH_done (by kernel_rfl) ?_ _
      go_wp2_with fail
      go_meet
      case rel =>
        exact ⟨gb0, gb1, zr1, rfl, rfl, rfl, And.intro HZzr1.out (S16.out)⟩
  case rest =>
    obtain ⟨g1a', g1b', z1r1', rfl, rfl, rfl, hq⟩ := hcut
    have HZz1r1' := Lib.hid hq.out.1
    obtain ⟨w3, hww, hSS⟩ : ∃ u, u = _ ∧ Sl.Sep W u [L4.boxR W.heap.size 67 (U.cs_Store y0), L4.boxR (W.heap.size + 1) 83 (U.cs_Cursor y1), Bag.bag (U.rows1 z1r1'), L4.boxR g1a' 60 (U.cs_Cursor r0'), L4.boxR g1b' 43 (U.cs_Item z1r1')] := ⟨_, rfl, hq.out.2⟩
    subst hww
    have S5 := Lib.hid hSS
    clear hSS hq S4 HTO0 HTO1
    have hh := Bag.cs3 S5.out 0 rfl
    have f0 := hh.1; have f1 := hh.2.1; have f2 := hh.2.2; clear hh
    go_wp2_with fail
    go_at_call 40
    have HC := U.to_Store y0 (by rw [HC0.out]; exact HF0.out) _ (HRY0.out _ S5.out.old)
    try dsimp only [L6.LS.v, L6.LS.cells, L4.K.v, L4.R.v, L7.Cu.v, U.LR.v, U.LX.v, U.vI] at HC
    refine HC.mono ?_
    clear HC
    rintro e w4 ⟨z2', rfl, hcon, ho, hb⟩
    clear f0 f1 f2
    have S6 := Lib.hid (show Sl.Sep W _ [L4.boxR W.heap.size 67 (U.cs_Store y0), L4.boxR (W.heap.size + 1) 83 (U.cs_Cursor y1), Bag.bag (U.rows1 z1r1'), L4.boxR g1a' 60 (U.cs_Cursor r0'), L4.boxR g1b' 43 (U.cs_Item z1r1'), Bag.bag z2'.rows] from Bag.push_bag S5.out hb ho)
    clear S5
    clear hb ho
    have HZz2' := Lib.hid (hcon.trans HC0.out)
    clear hcon
    try dsimp only [L6.LS.v, L6.LS.cells, L4.K.v, L4.R.v, L7.Cu.v, U.LR.v, U.LX.v, U.vI]
    go_upto_region 10 with fail
    have S7 := Lib.hid (show Sl.Sep W _ [L4.boxR W.heap.size 67 (U.cs_Store y0), L4.boxR (W.heap.size + 1) 83 (U.cs_Cursor y1), Bag.bag (U.rows1 z1r1'), L4.boxR g1a' 60 (U.cs_Cursor r0'), L4.boxR g1b' 43 (U.cs_Item z1r1'), Bag.bag z2'.rows, L4.boxR w4.heap.size 26 (U.cs_Store z2')] from L4.push_box S6.out 26 #[.string z2'.name, .slice z2'.a z2'.xs.length z2'.c, .int .i64 z2'.auto] w4.heap.size rfl)
    clear S6
    obtain ⟨g1, hg⟩ : ∃ g', g' = w4.heap.size := ⟨_, rfl⟩
    rw [← hg] at S7 ⊢
    clear hg
    generalize w4.alloc (.cells #[.string z2'.name, .slice z2'.a z2'.xs.length z2'.c, .int .i64 z2'.auto] 26) = w5 at S7 ⊢
    have S8 := Lib.hid (show Sl.Sep W _ [L4.boxR (W.heap.size + 1) 83 (U.cs_Cursor y1), Bag.bag z2'.rows, L4.boxR g1 26 (U.cs_Store z2'), L4.boxR W.heap.size 67 (U.cs_Store y0), Bag.bag (U.rows1 z1r1'), L4.boxR g1a' 60 (U.cs_Cursor r0'), L4.boxR g1b' 43 (U.cs_Item z1r1')] from Bag.take S7.out [1, 5, 6, 0, 2, 3, 4] (by rfl) (by decide))
    clear S7
    have S9 := Lib.hid (show Sl.Sep W _ [L4.boxR (W.heap.size + 1) 83 (U.cs_Cursor y1), Bag.bag z2'.rows, L4.boxR g1 26 (U.cs_Store z2'), Run.allR [L4.boxR W.heap.size 67 (U.cs_Store y0), Bag.bag (U.rows1 z1r1'), L4.boxR g1a' 60 (U.cs_Cursor r0'), L4.boxR g1b' 43 (U.cs_Item z1r1')]] from Run.packR (us := [L4.boxR (W.heap.size + 1) 83 (U.cs_Cursor y1), Bag.bag z2'.rows, L4.boxR g1 26 (U.cs_Store z2')]) (vs := [L4.boxR W.heap.size 67 (U.cs_Store y0), Bag.bag (U.rows1 z1r1'), L4.boxR g1a' 60 (U.cs_Cursor r0'), L4.boxR g1b' 43 (U.cs_Item z1r1')]) S8.out)
    clear S8
    obtain ⟨QQ, hQQ⟩ : ∃ Q, Q = Run.allR [L4.boxR W.heap.size 67 (U.cs_Store y0), Bag.bag (U.rows1 z1r1'), L4.boxR g1a' 60 (U.cs_Cursor r0'), L4.boxR g1b' 43 (U.cs_Item z1r1')] := ⟨_, rfl⟩
    rw [← hQQ] at S9
    have HQQ := Lib.hid hQQ
    clear hQQ
    go_upto_region 10 with fail
    have HTO0 := Lib.hid (fun w' (h : Below W.heap.size W w') => U.to_Cursor y1 w')
    try dsimp only [L6.LS.v, L6.LS.cells, L4.K.v, L4.R.v, L7.Cu.v, U.LR.v, U.LX.v, U.vI] at HTO0
    go_cut [10, 11, 12] (fun pz0 pz1 qs0 wx => ∃ (g3a' g3b' : Nat) (z3r1' : L6.LI), pz0 = .pointer (some ⟨g3a', 0, none⟩) ∧ pz1 = .pointer (some ⟨g3b', 0, none⟩) ∧ qs0 = .bool r2' ∧ Hid (z3r1'.con = r1' ∧ Sl.Sep W wx [L4.boxR (W.heap.size + 1) 83 (U.cs_Cursor y1), Bag.bag z2'.rows, L4.boxR g1 26 (U.cs_Store z2'), QQ, Bag.bag (U.rows1 z3r1'), L4.boxR g3a' 60 (U.cs_Cursor r0'), L4.boxR g3b' 43 (U.cs_Item z3r1')]))
    case first =>
      refine wp_region_held_drew (S := (fun w' => (World.cell? w' ⟨W.heap.size + 1, 0, none⟩ = some (.bool y1.r.hl) ∧ World.cell? w' ⟨W.heap.size + 1, 1, none⟩ = some (.bool y1.r.hh) ∧ World.cell? w' ⟨W.heap.size + 1, 2, none⟩ = some (.int .i64 y1.r.lo.kind) ∧ World.cell? w' ⟨W.heap.size + 1, 3, none⟩ = some (.int .i64 y1.r.lo.n) ∧ World.cell? w' ⟨W.heap.size + 1, 4, none⟩ = some (.string y1.r.lo.text) ∧ World.cell? w' ⟨W.heap.size + 1, 5, none⟩ = some (.int .i64 y1.r.hi.kind) ∧ World.cell? w' ⟨W.heap.size + 1, 6, none⟩ = some (.int .i64 y1.r.hi.n) ∧ World.cell? w' ⟨W.heap.size + 1, 7, none⟩ = some (.string y1.r.hi.text) ∧ World.cell? w' ⟨W.heap.size + 1, 8, none⟩ = some (.bool y1.back) ∧ World.cell? w' ⟨W.heap.size + 1, 9, none⟩ = some (.bool y1.st) ∧ World.cell? w' ⟨W.heap.size + 1, 10, none⟩ = some (.int .i64 y1.k.kind) ∧ World.cell? w' ⟨W.heap.size + 1, 11, none⟩ = some (.int .i64 y1.k.n) ∧ World.cell? w' ⟨W.heap.size + 1, 12, none⟩ = some (.string y1.k.text)) ∧ (World.cell? w' ⟨g1, 0, none⟩ = some (.string z2'.name) ∧ World.cell? w' ⟨g1, 1, none⟩ = some (.slice z2'.a z2'.xs.length z2'.c) ∧ World.cell? w' ⟨g1, 2, none⟩ = some (.int .i64 z2'.auto)))) (by kernel_rfl) ⟨Bag.cs13 (Bag.drew1 S9.out) 0 rfl, Bag.cs3 (Bag.drew1 S9.out) 2 rfl⟩ (fun hS => ?_)
      have S10 := Lib.hid (show Sl.Sep W _ [L4.boxR (W.heap.size + 1) 83 (U.cs_Cursor y1), Bag.bag z2'.rows, L4.boxR g1 26 (U.cs_Store z2'), QQ] from Bag.drew1 S9.out)
      clear S9
      generalize World.drew _ = w6 at hS S10 ⊢
      apply share4
      case main =>
        intro hrest
        refine tk 0 rfl ?_
        try simp only [zp0, zp1, zp2, zp3, zp4]
        refine tk 1 rfl ?_
        try simp only [zp0, zp1, zp2, zp3, zp4]
        refine wpAnyH_ready (rs := [2, 8, 9]) (by kernel_rfl) (by simp) ?_
        refine Reg.cons_op (i := 2) rfl (fun K hK => ?_) ?_
        go_simp
        go_at_call 51
        refine (HTO0.out w6 S10.out.old).mono ?_
        rintro e w7 ⟨rfl, hb⟩
        have S11 := Lib.hid (S10.out.keep hb)
        clear hb
        go_wp2_with fail
        refine hK.out _ _ ⟨Bag.cs13 S11.out 0 rfl, Bag.cs3 S11.out 2 rfl⟩ (fun hS => ?_)
        clear hK K
        try simp only [zp0, zp1, zp2, zp3, zp4]
        refine wpAnyH_ready (rs := [3, 8, 9]) (by kernel_rfl) (by simp) ?_
        refine Reg.cons_op (i := 3) rfl (fun K hK => ?_) ?_
        go_simp
        go_at_call 36
        refine (Cimpl.out z2' HZz2'.out _ (Bag.bag_rd S11.out 1 rfl)).mono ?_
        rintro e w8 ⟨zr1, rfl, hcon1, ho, hb⟩
        have S12 := Lib.hid (show Sl.Sep W _ [L4.boxR (W.heap.size + 1) 83 (U.cs_Cursor y1), Bag.bag z2'.rows, L4.boxR g1 26 (U.cs_Store z2'), QQ, Bag.bag (U.rows1 zr1)] from Bag.push_bag S11.out hb ho)
        clear S11
        clear hb ho
        have HZzr1 := Lib.hid hcon1
        clear hcon1
        go_wp2_with fail
        refine hK.out _ _ ⟨Bag.cs13 S12.out 0 rfl, Bag.cs3 S12.out 2 rfl⟩ (fun hS => ?_)
        clear hK K
        try simp only [zp0, zp1, zp2, zp3, zp4]
        refine tk 4 rfl ?_
        try simp only [zp0, zp1, zp2, zp3, zp4]
        refine tk 5 rfl ?_
        try simp only [zp0, zp1, zp2, zp3, zp4]
        refine tk 6 rfl ?_
        try simp only [zp0, zp1, zp2, zp3, zp4]
        refine tk 7 rfl ?_
        try simp only [zp0, zp1, zp2, zp3, zp4]
        refine wpAnyH_ready (rs := [8, 9]) (by kernel_rfl) (by simp) ?_
        refine Reg.cons_op (i := 8) rfl (fun K hK => ?_) ?_
        go_simp
        have S13 := Lib.hid (show Sl.Sep W _ [L4.boxR (W.heap.size + 1) 83 (U.cs_Cursor y1), Bag.bag z2'.rows, L4.boxR g1 26 (U.cs_Store z2'), QQ, Bag.bag (U.rows1 zr1), L4.boxR w8.heap.size 60 U.cz_Cursor] from L4.push_box S12.out 60 #[.bool false, .bool false, .int .i64 0, .int .i64 0, .string ⟨#[]⟩, .int .i64 0, .int .i64 0, .string ⟨#[]⟩, .bool false, .bool false, .int .i64 0, .int .i64 0, .string ⟨#[]⟩] w8.heap.size rfl)
        clear S12
        obtain ⟨gb0, hg⟩ : ∃ g', g' = w8.heap.size := ⟨_, rfl⟩
        rw [← hg] at S13 ⊢
        clear hg
        generalize w8.alloc (.cells #[.bool false, .bool false, .int .i64 0, .int .i64 0, .string ⟨#[]⟩, .int .i64 0, .int .i64 0, .string ⟨#[]⟩, .bool false, .bool false, .int .i64 0, .int .i64 0, .string ⟨#[]⟩] 60) = w9 at S13 ⊢
        refine hK.out _ _ ⟨Bag.cs13 S13.out 0 rfl, Bag.cs3 S13.out 2 rfl⟩ (fun hS => ?_)
        clear hK K
        try simp only [zp0, zp1, zp2, zp3, zp4]
        refine Reg.one_op (i := 9) rfl (by kernel_rfl) (fun K hK => ?_)
        go_simp
        have S14 := Lib.hid (show Sl.Sep W _ [L4.boxR (W.heap.size + 1) 83 (U.cs_Cursor y1), Bag.bag z2'.rows, L4.boxR g1 26 (U.cs_Store z2'), QQ, Bag.bag (U.rows1 zr1), L4.boxR gb0 60 U.cz_Cursor, L4.boxR w9.heap.size 43 U.cz_Item] from L4.push_box S13.out 43 #[.int .i64 0, .int .i64 0, .string ⟨#[]⟩, .slice none 0 0] w9.heap.size rfl)
        clear S13
        obtain ⟨gb1, hg⟩ : ∃ g', g' = w9.heap.size := ⟨_, rfl⟩
        rw [← hg] at S14 ⊢
        clear hg
        generalize w9.alloc (.cells #[.int .i64 0, .int .i64 0, .string ⟨#[]⟩, .slice none 0 0] 43) = w10 at S14 ⊢
        refine hK.out _ _ ⟨Bag.cs13 S14.out 0 rfl, Bag.cs3 S14.out 2 rfl⟩ (fun hS => ?_)
        clear hK K
        try simp only [zp0, zp1, zp2, zp3, zp4]
        have S15 := Lib.hid (show Sl.Sep W _ [L4.boxR (W.heap.size + 1) 83 (U.cs_Cursor y1), Bag.bag z2'.rows, L4.boxR g1 26 (U.cs_Store z2'), QQ, Bag.bag (U.rows1 zr1), L4.boxR gb0 60 U.cz_Cursor, L4.boxR gb1 43 U.cz_Item] from Bag.take S14.out [0, 1, 2, 3, 4, 5, 6] (by rfl) (by decide))
        clear S14
        revert S15
        revert HZzr1
        revert hS
        exact hrest gb0 gb1 zr1 w10
        refine Reg.cons_op (i := 9) rfl (fun K hK => ?_) ?_
        go_simp
        have S13 := Lib.hid (show Sl.Sep W _ [L4.boxR (W.heap.size + 1) 83 (U.cs_Cursor y1), Bag.bag z2'.rows, L4.boxR g1 26 (U.cs_Store z2'), QQ, Bag.bag (U.rows1 zr1), L4.boxR w8.heap.size 43 U.cz_Item] from L4.push_box S12.out 43 #[.int .i64 0, .int .i64 0, .string ⟨#[]⟩, .slice none 0 0] w8.heap.size rfl)
        clear S12
        obtain ⟨gb1, hg⟩ : ∃ g', g' = w8.heap.size := ⟨_, rfl⟩
        rw [← hg] at S13 ⊢
        clear hg
        generalize w8.alloc (.cells #[.int .i64 0, .int .i64 0, .string ⟨#[]⟩, .slice none 0 0] 43) = w9 at S13 ⊢
        refine hK.out _ _ ⟨Bag.cs13 S13.out 0 rfl, Bag.cs3 S13.out 2 rfl⟩ (fun hS => ?_)
        clear hK K
        try simp only [zp0, zp1, zp2, zp3, zp4]
        refine Reg.one_op (i := 8) rfl (by kernel_rfl) (fun K hK => ?_)
        go_simp
        have S14 := Lib.hid (show Sl.Sep W _ [L4.boxR (W.heap.size + 1) 83 (U.cs_Cursor y1), Bag.bag z2'.rows, L4.boxR g1 26 (U.cs_Store z2'), QQ, Bag.bag (U.rows1 zr1), L4.boxR gb1 43 U.cz_Item, L4.boxR w9.heap.size 60 U.cz_Cursor] from L4.push_box S13.out 60 #[.bool false, .bool false, .int .i64 0, .int .i64 0, .string ⟨#[]⟩, .int .i64 0, .int .i64 0, .string ⟨#[]⟩, .bool false, .bool false, .int .i64 0, .int .i64 0, .string ⟨#[]⟩] w9.heap.size rfl)
        clear S13
        obtain ⟨gb0, hg⟩ : ∃ g', g' = w9.heap.size := ⟨_, rfl⟩
        rw [← hg] at S14 ⊢
        clear hg
        generalize w9.alloc (.cells #[.bool false, .bool false, .int .i64 0, .int .i64 0, .string ⟨#[]⟩, .int .i64 0, .int .i64 0, .string ⟨#[]⟩, .bool false, .bool false, .int .i64 0, .int .i64 0, .string ⟨#[]⟩] 60) = w10 at S14 ⊢
        refine hK.out _ _ ⟨Bag.cs13 S14.out 0 rfl, Bag.cs3 S14.out 2 rfl⟩ (fun hS => ?_)
        clear hK K
        try simp only [zp0, zp1, zp2, zp3, zp4]
        have S15 := Lib.hid (show Sl.Sep W _ [L4.boxR (W.heap.size + 1) 83 (U.cs_Cursor y1), Bag.bag z2'.rows, L4.boxR g1 26 (U.cs_Store z2'), QQ, Bag.bag (U.rows1 zr1), L4.boxR gb0 60 U.cz_Cursor, L4.boxR gb1 43 U.cz_Item] from Bag.take S14.out [0, 1, 2, 3, 4, 6, 5] (by rfl) (by decide))
        clear S14
        revert S15
        revert HZzr1
        revert hS
        exact hrest gb0 gb1 zr1 w10
        exact AllReadyH.nil
        refine Reg.cons_op (i := 8) rfl (fun K hK => ?_) ?_
        go_simp
        have S12 := Lib.hid (show Sl.Sep W _ [L4.boxR (W.heap.size + 1) 83 (U.cs_Cursor y1), Bag.bag z2'.rows, L4.boxR g1 26 (U.cs_Store z2'), QQ, L4.boxR w7.heap.size 60 U.cz_Cursor] from L4.push_box S11.out 60 #[.bool false, .bool false, .int .i64 0, .int .i64 0, .string ⟨#[]⟩, .int .i64 0, .int .i64 0, .string ⟨#[]⟩, .bool false, .bool false, .int .i64 0, .int .i64 0, .string ⟨#[]⟩] w7.heap.size rfl)
        clear S11
        obtain ⟨gb0, hg⟩ : ∃ g', g' = w7.heap.size := ⟨_, rfl⟩
        rw [← hg] at S12 ⊢
        clear hg
        generalize w7.alloc (.cells #[.bool false, .bool false, .int .i64 0, .int .i64 0, .string ⟨#[]⟩, .int .i64 0, .int .i64 0, .string ⟨#[]⟩, .bool false, .bool false, .int .i64 0, .int .i64 0, .string ⟨#[]⟩] 60) = w8 at S12 ⊢
        refine hK.out _ _ ⟨Bag.cs13 S12.out 0 rfl, Bag.cs3 S12.out 2 rfl⟩ (fun hS => ?_)
        clear hK K
        try simp only [zp0, zp1, zp2, zp3, zp4]
        refine wpAnyH_ready (rs := [3, 9]) (by kernel_rfl) (by simp) ?_
        refine Reg.cons_op (i := 3) rfl (fun K hK => ?_) ?_
        go_simp
        go_at_call 36
        refine (Cimpl.out z2' HZz2'.out _ (Bag.bag_rd S12.out 1 rfl)).mono ?_
        rintro e w9 ⟨zr1, rfl, hcon1, ho, hb⟩
        have S13 := Lib.hid (show Sl.Sep W _ [L4.boxR (W.heap.size + 1) 83 (U.cs_Cursor y1), Bag.bag z2'.rows, L4.boxR g1 26 (U.cs_Store z2'), QQ, L4.boxR gb0 60 U.cz_Cursor, Bag.bag (U.rows1 zr1)] from Bag.push_bag S12.out hb ho)
        clear S12
        clear hb ho
        have HZzr1 := Lib.hid hcon1
        clear hcon1
        go_wp2_with fail
        refine hK.out _ _ ⟨Bag.cs13 S13.out 0 rfl, Bag.cs3 S13.out 2 rfl⟩ (fun hS => ?_)
        clear hK K
        try simp only [zp0, zp1, zp2, zp3, zp4]
        refine tk 4 rfl ?_
        try simp only [zp0, zp1, zp2, zp3, zp4]
        refine tk 5 rfl ?_
        try simp only [zp0, zp1, zp2, zp3, zp4]
        refine tk 6 rfl ?_
        try simp only [zp0, zp1, zp2, zp3, zp4]
        refine tk 7 rfl ?_
        try simp only [zp0, zp1, zp2, zp3, zp4]
        refine Reg.one_op (i := 9) rfl (by kernel_rfl) (fun K hK => ?_)
        go_simp
        have S14 := Lib.hid (show Sl.Sep W _ [L4.boxR (W.heap.size + 1) 83 (U.cs_Cursor y1), Bag.bag z2'.rows, L4.boxR g1 26 (U.cs_Store z2'), QQ, L4.boxR gb0 60 U.cz_Cursor, Bag.bag (U.rows1 zr1), L4.boxR w9.heap.size 43 U.cz_Item] from L4.push_box S13.out 43 #[.int .i64 0, .int .i64 0, .string ⟨#[]⟩, .slice none 0 0] w9.heap.size rfl)
        clear S13
        obtain ⟨gb1, hg⟩ : ∃ g', g' = w9.heap.size := ⟨_, rfl⟩
        rw [← hg] at S14 ⊢
        clear hg
        generalize w9.alloc (.cells #[.int .i64 0, .int .i64 0, .string ⟨#[]⟩, .slice none 0 0] 43) = w10 at S14 ⊢
        refine hK.out _ _ ⟨Bag.cs13 S14.out 0 rfl, Bag.cs3 S14.out 2 rfl⟩ (fun hS => ?_)
        clear hK K
        try simp only [zp0, zp1, zp2, zp3, zp4]
        have S15 := Lib.hid (show Sl.Sep W _ [L4.boxR (W.heap.size + 1) 83 (U.cs_Cursor y1), Bag.bag z2'.rows, L4.boxR g1 26 (U.cs_Store z2'), QQ, Bag.bag (U.rows1 zr1), L4.boxR gb0 60 U.cz_Cursor, L4.boxR gb1 43 U.cz_Item] from Bag.take S14.out [0, 1, 2, 3, 5, 4, 6] (by rfl) (by decide))
        clear S14
        revert S15
        revert HZzr1
        revert hS
        exact hrest gb0 gb1 zr1 w10
        refine Reg.cons_op (i := 9) rfl (fun K hK => ?_) ?_
        go_simp
        have S13 := Lib.hid (show Sl.Sep W _ [L4.boxR (W.heap.size + 1) 83 (U.cs_Cursor y1), Bag.bag z2'.rows, L4.boxR g1 26 (U.cs_Store z2'), QQ, L4.boxR gb0 60 U.cz_Cursor, L4.boxR w8.heap.size 43 U.cz_Item] from L4.push_box S12.out 43 #[.int .i64 0, .int .i64 0, .string ⟨#[]⟩, .slice none 0 0] w8.heap.size rfl)
        clear S12
        obtain ⟨gb1, hg⟩ : ∃ g', g' = w8.heap.size := ⟨_, rfl⟩
        rw [← hg] at S13 ⊢
        clear hg
        generalize w8.alloc (.cells #[.int .i64 0, .int .i64 0, .string ⟨#[]⟩, .slice none 0 0] 43) = w9 at S13 ⊢
        refine hK.out _ _ ⟨Bag.cs13 S13.out 0 rfl, Bag.cs3 S13.out 2 rfl⟩ (fun hS => ?_)
        clear hK K
        try simp only [zp0, zp1, zp2, zp3, zp4]
        refine Reg.one_op (i := 3) rfl (by kernel_rfl) (fun K hK => ?_)
        go_simp
        go_at_call 36
        refine (Cimpl.out z2' HZz2'.out _ (Bag.bag_rd S13.out 1 rfl)).mono ?_
        rintro e w10 ⟨zr1, rfl, hcon1, ho, hb⟩
        have S14 := Lib.hid (show Sl.Sep W _ [L4.boxR (W.heap.size + 1) 83 (U.cs_Cursor y1), Bag.bag z2'.rows, L4.boxR g1 26 (U.cs_Store z2'), QQ, L4.boxR gb0 60 U.cz_Cursor, L4.boxR gb1 43 U.cz_Item, Bag.bag (U.rows1 zr1)] from Bag.push_bag S13.out hb ho)
        clear S13
        clear hb ho
        have HZzr1 := Lib.hid hcon1
        clear hcon1
        go_wp2_with fail
        refine hK.out _ _ ⟨Bag.cs13 S14.out 0 rfl, Bag.cs3 S14.out 2 rfl⟩ (fun hS => ?_)
        clear hK K
        try simp only [zp0, zp1, zp2, zp3, zp4]
        refine tk 4 rfl ?_
        try simp only [zp0, zp1, zp2, zp3, zp4]
        refine tk 5 rfl ?_
        try simp only [zp0, zp1, zp2, zp3, zp4]
        refine tk 6 rfl ?_
        try simp only [zp0, zp1, zp2, zp3, zp4]
        refine tk 7 rfl ?_
        try simp only [zp0, zp1, zp2, zp3, zp4]
        have S15 := Lib.hid (show Sl.Sep W _ [L4.boxR (W.heap.size + 1) 83 (U.cs_Cursor y1), Bag.bag z2'.rows, L4.boxR g1 26 (U.cs_Store z2'), QQ, Bag.bag (U.rows1 zr1), L4.boxR gb0 60 U.cz_Cursor, L4.boxR gb1 43 U.cz_Item] from Bag.take S14.out [0, 1, 2, 3, 6, 4, 5] (by rfl) (by decide))
        clear S14
        revert S15
        revert HZzr1
        revert hS
        exact hrest gb0 gb1 zr1 w10
        exact AllReadyH.nil
        refine Reg.cons_op (i := 9) rfl (fun K hK => ?_) ?_
        go_simp
        have S12 := Lib.hid (show Sl.Sep W _ [L4.boxR (W.heap.size + 1) 83 (U.cs_Cursor y1), Bag.bag z2'.rows, L4.boxR g1 26 (U.cs_Store z2'), QQ, L4.boxR w7.heap.size 43 U.cz_Item] from L4.push_box S11.out 43 #[.int .i64 0, .int .i64 0, .string ⟨#[]⟩, .slice none 0 0] w7.heap.size rfl)
        clear S11
        obtain ⟨gb1, hg⟩ : ∃ g', g' = w7.heap.size := ⟨_, rfl⟩
        rw [← hg] at S12 ⊢
        clear hg
        generalize w7.alloc (.cells #[.int .i64 0, .int .i64 0, .string ⟨#[]⟩, .slice none 0 0] 43) = w8 at S12 ⊢
        refine hK.out _ _ ⟨Bag.cs13 S12.out 0 rfl, Bag.cs3 S12.out 2 rfl⟩ (fun hS => ?_)
        clear hK K
        try simp only [zp0, zp1, zp2, zp3, zp4]
        refine wpAnyH_ready (rs := [3, 8]) (by kernel_rfl) (by simp) ?_
        refine Reg.cons_op (i := 3) rfl (fun K hK => ?_) ?_
        go_simp
        go_at_call 36
        refine (Cimpl.out z2' HZz2'.out _ (Bag.bag_rd S12.out 1 rfl)).mono ?_
        rintro e w9 ⟨zr1, rfl, hcon1, ho, hb⟩
        have S13 := Lib.hid (show Sl.Sep W _ [L4.boxR (W.heap.size + 1) 83 (U.cs_Cursor y1), Bag.bag z2'.rows, L4.boxR g1 26 (U.cs_Store z2'), QQ, L4.boxR gb1 43 U.cz_Item, Bag.bag (U.rows1 zr1)] from Bag.push_bag S12.out hb ho)
        clear S12
        clear hb ho
        have HZzr1 := Lib.hid hcon1
        clear hcon1
        go_wp2_with fail
        refine hK.out _ _ ⟨Bag.cs13 S13.out 0 rfl, Bag.cs3 S13.out 2 rfl⟩ (fun hS => ?_)
        clear hK K
        try simp only [zp0, zp1, zp2, zp3, zp4]
        refine tk 4 rfl ?_
        try simp only [zp0, zp1, zp2, zp3, zp4]
        refine tk 5 rfl ?_
        try simp only [zp0, zp1, zp2, zp3, zp4]
        refine tk 6 rfl ?_
        try simp only [zp0, zp1, zp2, zp3, zp4]
        refine tk 7 rfl ?_
        try simp only [zp0, zp1, zp2, zp3, zp4]
        refine Reg.one_op (i := 8) rfl (by kernel_rfl) (fun K hK => ?_)
        go_simp
        have S14 := Lib.hid (show Sl.Sep W _ [L4.boxR (W.heap.size + 1) 83 (U.cs_Cursor y1), Bag.bag z2'.rows, L4.boxR g1 26 (U.cs_Store z2'), QQ, L4.boxR gb1 43 U.cz_Item, Bag.bag (U.rows1 zr1), L4.boxR w9.heap.size 60 U.cz_Cursor] from L4.push_box S13.out 60 #[.bool false, .bool false, .int .i64 0, .int .i64 0, .string ⟨#[]⟩, .int .i64 0, .int .i64 0, .string ⟨#[]⟩, .bool false, .bool false, .int .i64 0, .int .i64 0, .string ⟨#[]⟩] w9.heap.size rfl)
        clear S13
        obtain ⟨gb0, hg⟩ : ∃ g', g' = w9.heap.size := ⟨_, rfl⟩
        rw [← hg] at S14 ⊢
        clear hg
        generalize w9.alloc (.cells #[.bool false, .bool false, .int .i64 0, .int .i64 0, .string ⟨#[]⟩, .int .i64 0, .int .i64 0, .string ⟨#[]⟩, .bool false, .bool false, .int .i64 0, .int .i64 0, .string ⟨#[]⟩] 60) = w10 at S14 ⊢
        refine hK.out _ _ ⟨Bag.cs13 S14.out 0 rfl, Bag.cs3 S14.out 2 rfl⟩ (fun hS => ?_)
        clear hK K
        try simp only [zp0, zp1, zp2, zp3, zp4]
        have S15 := Lib.hid (show Sl.Sep W _ [L4.boxR (W.heap.size + 1) 83 (U.cs_Cursor y1), Bag.bag z2'.rows, L4.boxR g1 26 (U.cs_Store z2'), QQ, Bag.bag (U.rows1 zr1), L4.boxR gb0 60 U.cz_Cursor, L4.boxR gb1 43 U.cz_Item] from Bag.take S14.out [0, 1, 2, 3, 5, 6, 4] (by rfl) (by decide))
        clear S14
        revert S15
        revert HZzr1
        revert hS
        exact hrest gb0 gb1 zr1 w10
        refine Reg.cons_op (i := 8) rfl (fun K hK => ?_) ?_
        go_simp
        have S13 := Lib.hid (show Sl.Sep W _ [L4.boxR (W.heap.size + 1) 83 (U.cs_Cursor y1), Bag.bag z2'.rows, L4.boxR g1 26 (U.cs_Store z2'), QQ, L4.boxR gb1 43 U.cz_Item, L4.boxR w8.heap.size 60 U.cz_Cursor] from L4.push_box S12.out 60 #[.bool false, .bool false, .int .i64 0, .int .i64 0, .string ⟨#[]⟩, .int .i64 0, .int .i64 0, .string ⟨#[]⟩, .bool false, .bool false, .int .i64 0, .int .i64 0, .string ⟨#[]⟩] w8.heap.size rfl)
        clear S12
        obtain ⟨gb0, hg⟩ : ∃ g', g' = w8.heap.size := ⟨_, rfl⟩
        rw [← hg] at S13 ⊢
        clear hg
        generalize w8.alloc (.cells #[.bool false, .bool false, .int .i64 0, .int .i64 0, .string ⟨#[]⟩, .int .i64 0, .int .i64 0, .string ⟨#[]⟩, .bool false, .bool false, .int .i64 0, .int .i64 0, .string ⟨#[]⟩] 60) = w9 at S13 ⊢
        refine hK.out _ _ ⟨Bag.cs13 S13.out 0 rfl, Bag.cs3 S13.out 2 rfl⟩ (fun hS => ?_)
        clear hK K
        try simp only [zp0, zp1, zp2, zp3, zp4]
        refine Reg.one_op (i := 3) rfl (by kernel_rfl) (fun K hK => ?_)
        go_simp
        go_at_call 36
        refine (Cimpl.out z2' HZz2'.out _ (Bag.bag_rd S13.out 1 rfl)).mono ?_
        rintro e w10 ⟨zr1, rfl, hcon1, ho, hb⟩
        have S14 := Lib.hid (show Sl.Sep W _ [L4.boxR (W.heap.size + 1) 83 (U.cs_Cursor y1), Bag.bag z2'.rows, L4.boxR g1 26 (U.cs_Store z2'), QQ, L4.boxR gb1 43 U.cz_Item, L4.boxR gb0 60 U.cz_Cursor, Bag.bag (U.rows1 zr1)] from Bag.push_bag S13.out hb ho)
        clear S13
        clear hb ho
        have HZzr1 := Lib.hid hcon1
        clear hcon1
        go_wp2_with fail
        refine hK.out _ _ ⟨Bag.cs13 S14.out 0 rfl, Bag.cs3 S14.out 2 rfl⟩ (fun hS => ?_)
        clear hK K
        try simp only [zp0, zp1, zp2, zp3, zp4]
        refine tk 4 rfl ?_
        try simp only [zp0, zp1, zp2, zp3, zp4]
        refine tk 5 rfl ?_
        try simp only [zp0, zp1, zp2, zp3, zp4]
        refine tk 6 rfl ?_
        try simp only [zp0, zp1, zp2, zp3, zp4]
        refine tk 7 rfl ?_
        try simp only [zp0, zp1, zp2, zp3, zp4]
        have S15 := Lib.hid (show Sl.Sep W _ [L4.boxR (W.heap.size + 1) 83 (U.cs_Cursor y1), Bag.bag z2'.rows, L4.boxR g1 26 (U.cs_Store z2'), QQ, Bag.bag (U.rows1 zr1), L4.boxR gb0 60 U.cz_Cursor, L4.boxR gb1 43 U.cz_Item] from Bag.take S14.out [0, 1, 2, 3, 6, 5, 4] (by rfl) (by decide))
        clear S14
        revert S15
        revert HZzr1
        revert hS
        exact hrest gb0 gb1 zr1 w10
        exact AllReadyH.nil
        exact AllReadyH.nil
        refine Reg.cons_op (i := 8) rfl (fun K hK => ?_) ?_
        go_simp
        have S11 := Lib.hid (show Sl.Sep W _ [L4.boxR (W.heap.size + 1) 83 (U.cs_Cursor y1), Bag.bag z2'.rows, L4.boxR g1 26 (U.cs_Store z2'), QQ, L4.boxR w6.heap.size 60 U.cz_Cursor] from L4.push_box S10.out 60 #[.bool false, .bool false, .int .i64 0, .int .i64 0, .string ⟨#[]⟩, .int .i64 0, .int .i64 0, .string ⟨#[]⟩, .bool false, .bool false, .int .i64 0, .int .i64 0, .string ⟨#[]⟩] w6.heap.size rfl)
        obtain ⟨gb0, hg⟩ : ∃ g', g' = w6.heap.size := ⟨_, rfl⟩
        rw [← hg] at S11 ⊢
        clear hg
        generalize w6.alloc (.cells #[.bool false, .bool false, .int .i64 0, .int .i64 0, .string ⟨#[]⟩, .int .i64 0, .int .i64 0, .string ⟨#[]⟩, .bool false, .bool false, .int .i64 0, .int .i64 0, .string ⟨#[]⟩] 60) = w7 at S11 ⊢
        refine hK.out _ _ ⟨Bag.cs13 S11.out 0 rfl, Bag.cs3 S11.out 2 rfl⟩ (fun hS => ?_)
        clear hK K
        try simp only [zp0, zp1, zp2, zp3, zp4]
        refine wpAnyH_ready (rs := [2, 9]) (by kernel_rfl) (by simp) ?_
        refine Reg.cons_op (i := 2) rfl (fun K hK => ?_) ?_
        go_simp
        go_at_call 51
        refine (HTO0.out w7 S11.out.old).mono ?_
        rintro e w8 ⟨rfl, hb⟩
        have S12 := Lib.hid (S11.out.keep hb)
        clear S11
        clear hb
        go_wp2_with fail
        refine hK.out _ _ ⟨Bag.cs13 S12.out 0 rfl, Bag.cs3 S12.out 2 rfl⟩ (fun hS => ?_)
        clear hK K
        try simp only [zp0, zp1, zp2, zp3, zp4]
        refine wpAnyH_ready (rs := [3, 9]) (by kernel_rfl) (by simp) ?_
        refine Reg.cons_op (i := 3) rfl (fun K hK => ?_) ?_
        go_simp
        go_at_call 36
        refine (Cimpl.out z2' HZz2'.out _ (Bag.bag_rd S12.out 1 rfl)).mono ?_
        rintro e w9 ⟨zr1, rfl, hcon1, ho, hb⟩
        have S13 := Lib.hid (show Sl.Sep W _ [L4.boxR (W.heap.size + 1) 83 (U.cs_Cursor y1), Bag.bag z2'.rows, L4.boxR g1 26 (U.cs_Store z2'), QQ, L4.boxR gb0 60 U.cz_Cursor, Bag.bag (U.rows1 zr1)] from Bag.push_bag S12.out hb ho)
        clear S12
        clear hb ho
        have HZzr1 := Lib.hid hcon1
        clear hcon1
        go_wp2_with fail
        refine hK.out _ _ ⟨Bag.cs13 S13.out 0 rfl, Bag.cs3 S13.out 2 rfl⟩ (fun hS => ?_)
        clear hK K
        try simp only [zp0, zp1, zp2, zp3, zp4]
        refine tk 4 rfl ?_
        try simp only [zp0, zp1, zp2, zp3, zp4]
        refine tk 5 rfl ?_
        try simp only [zp0, zp1, zp2, zp3, zp4]
        refine tk 6 rfl ?_
        try simp only [zp0, zp1, zp2, zp3, zp4]
        refine tk 7 rfl ?_
        try simp only [zp0, zp1, zp2, zp3, zp4]
        refine Reg.one_op (i := 9) rfl (by kernel_rfl) (fun K hK => ?_)
        go_simp
        have S14 := Lib.hid (show Sl.Sep W _ [L4.boxR (W.heap.size + 1) 83 (U.cs_Cursor y1), Bag.bag z2'.rows, L4.boxR g1 26 (U.cs_Store z2'), QQ, L4.boxR gb0 60 U.cz_Cursor, Bag.bag (U.rows1 zr1), L4.boxR w9.heap.size 43 U.cz_Item] from L4.push_box S13.out 43 #[.int .i64 0, .int .i64 0, .string ⟨#[]⟩, .slice none 0 0] w9.heap.size rfl)
        clear S13
        obtain ⟨gb1, hg⟩ : ∃ g', g' = w9.heap.size := ⟨_, rfl⟩
        rw [← hg] at S14 ⊢
        clear hg
        generalize w9.alloc (.cells #[.int .i64 0, .int .i64 0, .string ⟨#[]⟩, .slice none 0 0] 43) = w10 at S14 ⊢
        refine hK.out _ _ ⟨Bag.cs13 S14.out 0 rfl, Bag.cs3 S14.out 2 rfl⟩ (fun hS => ?_)
        clear hK K
        try simp only [zp0, zp1, zp2, zp3, zp4]
        have S15 := Lib.hid (show Sl.Sep W _ [L4.boxR (W.heap.size + 1) 83 (U.cs_Cursor y1), Bag.bag z2'.rows, L4.boxR g1 26 (U.cs_Store z2'), QQ, Bag.bag (U.rows1 zr1), L4.boxR gb0 60 U.cz_Cursor, L4.boxR gb1 43 U.cz_Item] from Bag.take S14.out [0, 1, 2, 3, 5, 4, 6] (by rfl) (by decide))
        clear S14
        revert S15
        revert HZzr1
        revert hS
        exact hrest gb0 gb1 zr1 w10
        refine Reg.cons_op (i := 9) rfl (fun K hK => ?_) ?_
        go_simp
        have S13 := Lib.hid (show Sl.Sep W _ [L4.boxR (W.heap.size + 1) 83 (U.cs_Cursor y1), Bag.bag z2'.rows, L4.boxR g1 26 (U.cs_Store z2'), QQ, L4.boxR gb0 60 U.cz_Cursor, L4.boxR w8.heap.size 43 U.cz_Item] from L4.push_box S12.out 43 #[.int .i64 0, .int .i64 0, .string ⟨#[]⟩, .slice none 0 0] w8.heap.size rfl)
        clear S12
        obtain ⟨gb1, hg⟩ : ∃ g', g' = w8.heap.size := ⟨_, rfl⟩
        rw [← hg] at S13 ⊢
        clear hg
        generalize w8.alloc (.cells #[.int .i64 0, .int .i64 0, .string ⟨#[]⟩, .slice none 0 0] 43) = w9 at S13 ⊢
        refine hK.out _ _ ⟨Bag.cs13 S13.out 0 rfl, Bag.cs3 S13.out 2 rfl⟩ (fun hS => ?_)
        clear hK K
        try simp only [zp0, zp1, zp2, zp3, zp4]
        refine Reg.one_op (i := 3) rfl (by kernel_rfl) (fun K hK => ?_)
        go_simp
        go_at_call 36
        refine (Cimpl.out z2' HZz2'.out _ (Bag.bag_rd S13.out 1 rfl)).mono ?_
        rintro e w10 ⟨zr1, rfl, hcon1, ho, hb⟩
        have S14 := Lib.hid (show Sl.Sep W _ [L4.boxR (W.heap.size + 1) 83 (U.cs_Cursor y1), Bag.bag z2'.rows, L4.boxR g1 26 (U.cs_Store z2'), QQ, L4.boxR gb0 60 U.cz_Cursor, L4.boxR gb1 43 U.cz_Item, Bag.bag (U.rows1 zr1)] from Bag.push_bag S13.out hb ho)
        clear S13
        clear hb ho
        have HZzr1 := Lib.hid hcon1
        clear hcon1
        go_wp2_with fail
        refine hK.out _ _ ⟨Bag.cs13 S14.out 0 rfl, Bag.cs3 S14.out 2 rfl⟩ (fun hS => ?_)
        clear hK K
        try simp only [zp0, zp1, zp2, zp3, zp4]
        refine tk 4 rfl ?_
        try simp only [zp0, zp1, zp2, zp3, zp4]
        refine tk 5 rfl ?_
        try simp only [zp0, zp1, zp2, zp3, zp4]
        refine tk 6 rfl ?_
        try simp only [zp0, zp1, zp2, zp3, zp4]
        refine tk 7 rfl ?_
        try simp only [zp0, zp1, zp2, zp3, zp4]
        have S15 := Lib.hid (show Sl.Sep W _ [L4.boxR (W.heap.size + 1) 83 (U.cs_Cursor y1), Bag.bag z2'.rows, L4.boxR g1 26 (U.cs_Store z2'), QQ, Bag.bag (U.rows1 zr1), L4.boxR gb0 60 U.cz_Cursor, L4.boxR gb1 43 U.cz_Item] from Bag.take S14.out [0, 1, 2, 3, 6, 4, 5] (by rfl) (by decide))
        clear S14
        revert S15
        revert HZzr1
        revert hS
        exact hrest gb0 gb1 zr1 w10
        exact AllReadyH.nil
        refine Reg.cons_op (i := 9) rfl (fun K hK => ?_) ?_
        go_simp
        have S12 := Lib.hid (show Sl.Sep W _ [L4.boxR (W.heap.size + 1) 83 (U.cs_Cursor y1), Bag.bag z2'.rows, L4.boxR g1 26 (U.cs_Store z2'), QQ, L4.boxR gb0 60 U.cz_Cursor, L4.boxR w7.heap.size 43 U.cz_Item] from L4.push_box S11.out 43 #[.int .i64 0, .int .i64 0, .string ⟨#[]⟩, .slice none 0 0] w7.heap.size rfl)
        clear S11
        obtain ⟨gb1, hg⟩ : ∃ g', g' = w7.heap.size := ⟨_, rfl⟩
        rw [← hg] at S12 ⊢
        clear hg
        generalize w7.alloc (.cells #[.int .i64 0, .int .i64 0, .string ⟨#[]⟩, .slice none 0 0] 43) = w8 at S12 ⊢
        refine hK.out _ _ ⟨Bag.cs13 S12.out 0 rfl, Bag.cs3 S12.out 2 rfl⟩ (fun hS => ?_)
        clear hK K
        try simp only [zp0, zp1, zp2, zp3, zp4]
        refine Reg.one_op (i := 2) rfl (by kernel_rfl) (fun K hK => ?_)
        go_simp
        go_at_call 51
        refine (HTO0.out w8 S12.out.old).mono ?_
        rintro e w9 ⟨rfl, hb⟩
        have S13 := Lib.hid (S12.out.keep hb)
        clear S12
        clear hb
        go_wp2_with fail
        refine hK.out _ _ ⟨Bag.cs13 S13.out 0 rfl, Bag.cs3 S13.out 2 rfl⟩ (fun hS => ?_)
        clear hK K
        try simp only [zp0, zp1, zp2, zp3, zp4]
        refine Reg.one_op (i := 3) rfl (by kernel_rfl) (fun K hK => ?_)
        go_simp
        go_at_call 36
        refine (Cimpl.out z2' HZz2'.out _ (Bag.bag_rd S13.out 1 rfl)).mono ?_
        rintro e w10 ⟨zr1, rfl, hcon1, ho, hb⟩
        have S14 := Lib.hid (show Sl.Sep W _ [L4.boxR (W.heap.size + 1) 83 (U.cs_Cursor y1), Bag.bag z2'.rows, L4.boxR g1 26 (U.cs_Store z2'), QQ, L4.boxR gb0 60 U.cz_Cursor, L4.boxR gb1 43 U.cz_Item, Bag.bag (U.rows1 zr1)] from Bag.push_bag S13.out hb ho)
        clear S13
        clear hb ho
        have HZzr1 := Lib.hid hcon1
        clear hcon1
        go_wp2_with fail
        refine hK.out _ _ ⟨Bag.cs13 S14.out 0 rfl, Bag.cs3 S14.out 2 rfl⟩ (fun hS => ?_)
        clear hK K
        try simp only [zp0, zp1, zp2, zp3, zp4]
        refine tk 4 rfl ?_
        try simp only [zp0, zp1, zp2, zp3, zp4]
        refine tk 5 rfl ?_
        try simp only [zp0, zp1, zp2, zp3, zp4]
        refine tk 6 rfl ?_
        try simp only [zp0, zp1, zp2, zp3, zp4]
        refine tk 7 rfl ?_
        try simp only [zp0, zp1, zp2, zp3, zp4]
        have S15 := Lib.hid (show Sl.Sep W _ [L4.boxR (W.heap.size + 1) 83 (U.cs_Cursor y1), Bag.bag z2'.rows, L4.boxR g1 26 (U.cs_Store z2'), QQ, Bag.bag (U.rows1 zr1), L4.boxR gb0 60 U.cz_Cursor, L4.boxR gb1 43 U.cz_Item] from Bag.take S14.out [0, 1, 2, 3, 6, 4, 5] (by rfl) (by decide))
        clear S14
        revert S15
        revert HZzr1
        revert hS
        exact hrest gb0 gb1 zr1 w10
        exact AllReadyH.nil
        refine Reg.cons_op (i := 9) rfl (fun K hK => ?_) ?_
        go_simp
        have S11 := Lib.hid (show Sl.Sep W _ [L4.boxR (W.heap.size + 1) 83 (U.cs_Cursor y1), Bag.bag z2'.rows, L4.boxR g1 26 (U.cs_Store z2'), QQ, L4.boxR w6.heap.size 43 U.cz_Item] from L4.push_box S10.out 43 #[.int .i64 0, .int .i64 0, .string ⟨#[]⟩, .slice none 0 0] w6.heap.size rfl)
        obtain ⟨gb1, hg⟩ : ∃ g', g' = w6.heap.size := ⟨_, rfl⟩
        rw [← hg] at S11 ⊢
        clear hg
        generalize w6.alloc (.cells #[.int .i64 0, .int .i64 0, .string ⟨#[]⟩, .slice none 0 0] 43) = w7 at S11 ⊢
        refine hK.out _ _ ⟨Bag.cs13 S11.out 0 rfl, Bag.cs3 S11.out 2 rfl⟩ (fun hS => ?_)
        clear hK K
        try simp only [zp0, zp1, zp2, zp3, zp4]
        refine wpAnyH_ready (rs := [2, 8]) (by kernel_rfl) (by simp) ?_
        refine Reg.cons_op (i := 2) rfl (fun K hK => ?_) ?_
        go_simp
        go_at_call 51
        refine (HTO0.out w7 S11.out.old).mono ?_
        rintro e w8 ⟨rfl, hb⟩
        have S12 := Lib.hid (S11.out.keep hb)
        clear S11
        clear hb
        go_wp2_with fail
        refine hK.out _ _ ⟨Bag.cs13 S12.out 0 rfl, Bag.cs3 S12.out 2 rfl⟩ (fun hS => ?_)
        clear hK K
        try simp only [zp0, zp1, zp2, zp3, zp4]
        refine wpAnyH_ready (rs := [3, 8]) (by kernel_rfl) (by simp) ?_
        refine Reg.cons_op (i := 3) rfl (fun K hK => ?_) ?_
        go_simp
        go_at_call 36
        refine (Cimpl.out z2' HZz2'.out _ (Bag.bag_rd S12.out 1 rfl)).mono ?_
        rintro e w9 ⟨zr1, rfl, hcon1, ho, hb⟩
        have S13 := Lib.hid (show Sl.Sep W _ [L4.boxR (W.heap.size + 1) 83 (U.cs_Cursor y1), Bag.bag z2'.rows, L4.boxR g1 26 (U.cs_Store z2'), QQ, L4.boxR gb1 43 U.cz_Item, Bag.bag (U.rows1 zr1)] from Bag.push_bag S12.out hb ho)
        clear S12
        clear hb ho
        have HZzr1 := Lib.hid hcon1
        clear hcon1
        go_wp2_with fail
        refine hK.out _ _ ⟨Bag.cs13 S13.out 0 rfl, Bag.cs3 S13.out 2 rfl⟩ (fun hS => ?_)
        clear hK K
        try simp only [zp0, zp1, zp2, zp3, zp4]
        refine tk 4 rfl ?_
        try simp only [zp0, zp1, zp2, zp3, zp4]
        refine tk 5 rfl ?_
        try simp only [zp0, zp1, zp2, zp3, zp4]
        refine tk 6 rfl ?_
        try simp only [zp0, zp1, zp2, zp3, zp4]
        refine tk 7 rfl ?_
        try simp only [zp0, zp1, zp2, zp3, zp4]
        refine Reg.one_op (i := 8) rfl (by kernel_rfl) (fun K hK => ?_)
        go_simp
        have S14 := Lib.hid (show Sl.Sep W _ [L4.boxR (W.heap.size + 1) 83 (U.cs_Cursor y1), Bag.bag z2'.rows, L4.boxR g1 26 (U.cs_Store z2'), QQ, L4.boxR gb1 43 U.cz_Item, Bag.bag (U.rows1 zr1), L4.boxR w9.heap.size 60 U.cz_Cursor] from L4.push_box S13.out 60 #[.bool false, .bool false, .int .i64 0, .int .i64 0, .string ⟨#[]⟩, .int .i64 0, .int .i64 0, .string ⟨#[]⟩, .bool false, .bool false, .int .i64 0, .int .i64 0, .string ⟨#[]⟩] w9.heap.size rfl)
        clear S13
        obtain ⟨gb0, hg⟩ : ∃ g', g' = w9.heap.size := ⟨_, rfl⟩
        rw [← hg] at S14 ⊢
        clear hg
        generalize w9.alloc (.cells #[.bool false, .bool false, .int .i64 0, .int .i64 0, .string ⟨#[]⟩, .int .i64 0, .int .i64 0, .string ⟨#[]⟩, .bool false, .bool false, .int .i64 0, .int .i64 0, .string ⟨#[]⟩] 60) = w10 at S14 ⊢
        refine hK.out _ _ ⟨Bag.cs13 S14.out 0 rfl, Bag.cs3 S14.out 2 rfl⟩ (fun hS => ?_)
        clear hK K
        try simp only [zp0, zp1, zp2, zp3, zp4]
        have S15 := Lib.hid (show Sl.Sep W _ [L4.boxR (W.heap.size + 1) 83 (U.cs_Cursor y1), Bag.bag z2'.rows, L4.boxR g1 26 (U.cs_Store z2'), QQ, Bag.bag (U.rows1 zr1), L4.boxR gb0 60 U.cz_Cursor, L4.boxR gb1 43 U.cz_Item] from Bag.take S14.out [0, 1, 2, 3, 5, 6, 4] (by rfl) (by decide))
        clear S14
        revert S15
        revert HZzr1
        revert hS
        exact hrest gb0 gb1 zr1 w10
        refine Reg.cons_op (i := 8) rfl (fun K hK => ?_) ?_
        go_simp
        have S13 := Lib.hid (show Sl.Sep W _ [L4.boxR (W.heap.size + 1) 83 (U.cs_Cursor y1), Bag.bag z2'.rows, L4.boxR g1 26 (U.cs_Store z2'), QQ, L4.boxR gb1 43 U.cz_Item, L4.boxR w8.heap.size 60 U.cz_Cursor] from L4.push_box S12.out 60 #[.bool false, .bool false, .int .i64 0, .int .i64 0, .string ⟨#[]⟩, .int .i64 0, .int .i64 0, .string ⟨#[]⟩, .bool false, .bool false, .int .i64 0, .int .i64 0, .string ⟨#[]⟩] w8.heap.size rfl)
        clear S12
        obtain ⟨gb0, hg⟩ : ∃ g', g' = w8.heap.size := ⟨_, rfl⟩
        rw [← hg] at S13 ⊢
        clear hg
        generalize w8.alloc (.cells #[.bool false, .bool false, .int .i64 0, .int .i64 0, .string ⟨#[]⟩, .int .i64 0, .int .i64 0, .string ⟨#[]⟩, .bool false, .bool false, .int .i64 0, .int .i64 0, .string ⟨#[]⟩] 60) = w9 at S13 ⊢
        refine hK.out _ _ ⟨Bag.cs13 S13.out 0 rfl, Bag.cs3 S13.out 2 rfl⟩ (fun hS => ?_)
        clear hK K
        try simp only [zp0, zp1, zp2, zp3, zp4]
        refine Reg.one_op (i := 3) rfl (by kernel_rfl) (fun K hK => ?_)
        go_simp
        go_at_call 36
        refine (Cimpl.out z2' HZz2'.out _ (Bag.bag_rd S13.out 1 rfl)).mono ?_
        rintro e w10 ⟨zr1, rfl, hcon1, ho, hb⟩
        have S14 := Lib.hid (show Sl.Sep W _ [L4.boxR (W.heap.size + 1) 83 (U.cs_Cursor y1), Bag.bag z2'.rows, L4.boxR g1 26 (U.cs_Store z2'), QQ, L4.boxR gb1 43 U.cz_Item, L4.boxR gb0 60 U.cz_Cursor, Bag.bag (U.rows1 zr1)] from Bag.push_bag S13.out hb ho)
        clear S13
        clear hb ho
        have HZzr1 := Lib.hid hcon1
        clear hcon1
        go_wp2_with fail
        refine hK.out _ _ ⟨Bag.cs13 S14.out 0 rfl, Bag.cs3 S14.out 2 rfl⟩ (fun hS => ?_)
        clear hK K
        try simp only [zp0, zp1, zp2, zp3, zp4]
        refine tk 4 rfl ?_
        try simp only [zp0, zp1, zp2, zp3, zp4]
        refine tk 5 rfl ?_
        try simp only [zp0, zp1, zp2, zp3, zp4]
        refine tk 6 rfl ?_
        try simp only [zp0, zp1, zp2, zp3, zp4]
        refine tk 7 rfl ?_
        try simp only [zp0, zp1, zp2, zp3, zp4]
        have S15 := Lib.hid (show Sl.Sep W _ [L4.boxR (W.heap.size + 1) 83 (U.cs_Cursor y1), Bag.bag z2'.rows, L4.boxR g1 26 (U.cs_Store z2'), QQ, Bag.bag (U.rows1 zr1), L4.boxR gb0 60 U.cz_Cursor, L4.boxR gb1 43 U.cz_Item] from Bag.take S14.out [0, 1, 2, 3, 6, 5, 4] (by rfl) (by decide))
        clear S14
        revert S15
        revert HZzr1
        revert hS
        exact hrest gb0 gb1 zr1 w10
        exact AllReadyH.nil
        refine Reg.cons_op (i := 8) rfl (fun K hK => ?_) ?_
        go_simp
        have S12 := Lib.hid (show Sl.Sep W _ [L4.boxR (W.heap.size + 1) 83 (U.cs_Cursor y1), Bag.bag z2'.rows, L4.boxR g1 26 (U.cs_Store z2'), QQ, L4.boxR gb1 43 U.cz_Item, L4.boxR w7.heap.size 60 U.cz_Cursor] from L4.push_box S11.out 60 #[.bool false, .bool false, .int .i64 0, .int .i64 0, .string ⟨#[]⟩, .int .i64 0, .int .i64 0, .string ⟨#[]⟩, .bool false, .bool false, .int .i64 0, .int .i64 0, .string ⟨#[]⟩] w7.heap.size rfl)
        clear S11
        obtain ⟨gb0, hg⟩ : ∃ g', g' = w7.heap.size := ⟨_, rfl⟩
        rw [← hg] at S12 ⊢
        clear hg
        generalize w7.alloc (.cells #[.bool false, .bool false, .int .i64 0, .int .i64 0, .string ⟨#[]⟩, .int .i64 0, .int .i64 0, .string ⟨#[]⟩, .bool false, .bool false, .int .i64 0, .int .i64 0, .string ⟨#[]⟩] 60) = w8 at S12 ⊢
        refine hK.out _ _ ⟨Bag.cs13 S12.out 0 rfl, Bag.cs3 S12.out 2 rfl⟩ (fun hS => ?_)
        clear hK K
        try simp only [zp0, zp1, zp2, zp3, zp4]
        refine Reg.one_op (i := 2) rfl (by kernel_rfl) (fun K hK => ?_)
        go_simp
        go_at_call 51
        refine (HTO0.out w8 S12.out.old).mono ?_
        rintro e w9 ⟨rfl, hb⟩
        have S13 := Lib.hid (S12.out.keep hb)
        clear S12
        clear hb
        go_wp2_with fail
        refine hK.out _ _ ⟨Bag.cs13 S13.out 0 rfl, Bag.cs3 S13.out 2 rfl⟩ (fun hS => ?_)
        clear hK K
        try simp only [zp0, zp1, zp2, zp3, zp4]
        refine Reg.one_op (i := 3) rfl (by kernel_rfl) (fun K hK => ?_)
        go_simp
        go_at_call 36
        refine (Cimpl.out z2' HZz2'.out _ (Bag.bag_rd S13.out 1 rfl)).mono ?_
        rintro e w10 ⟨zr1, rfl, hcon1, ho, hb⟩
        have S14 := Lib.hid (show Sl.Sep W _ [L4.boxR (W.heap.size + 1) 83 (U.cs_Cursor y1), Bag.bag z2'.rows, L4.boxR g1 26 (U.cs_Store z2'), QQ, L4.boxR gb1 43 U.cz_Item, L4.boxR gb0 60 U.cz_Cursor, Bag.bag (U.rows1 zr1)] from Bag.push_bag S13.out hb ho)
        clear S13
        clear hb ho
        have HZzr1 := Lib.hid hcon1
        clear hcon1
        go_wp2_with fail
        refine hK.out _ _ ⟨Bag.cs13 S14.out 0 rfl, Bag.cs3 S14.out 2 rfl⟩ (fun hS => ?_)
        clear hK K
        try simp only [zp0, zp1, zp2, zp3, zp4]
        refine tk 4 rfl ?_
        try simp only [zp0, zp1, zp2, zp3, zp4]
        refine tk 5 rfl ?_
        try simp only [zp0, zp1, zp2, zp3, zp4]
        refine tk 6 rfl ?_
        try simp only [zp0, zp1, zp2, zp3, zp4]
        refine tk 7 rfl ?_
        try simp only [zp0, zp1, zp2, zp3, zp4]
        have S15 := Lib.hid (show Sl.Sep W _ [L4.boxR (W.heap.size + 1) 83 (U.cs_Cursor y1), Bag.bag z2'.rows, L4.boxR g1 26 (U.cs_Store z2'), QQ, Bag.bag (U.rows1 zr1), L4.boxR gb0 60 U.cz_Cursor, L4.boxR gb1 43 U.cz_Item] from Bag.take S14.out [0, 1, 2, 3, 6, 5, 4] (by rfl) (by decide))
        clear S14
        revert S15
        revert HZzr1
        revert hS
        exact hrest gb0 gb1 zr1 w10
        exact AllReadyH.nil
        exact AllReadyH.nil
      case pf =>
        intro gb0 gb1 zr1 w10 hS HZzr1 S15
        refine Reg.one_op (i := 10) rfl (by kernel_rfl) (fun K hK => ?_)
        have hh := Bag.cs13 S15.out 5 rfl
        have f0 := hh.1; have f1 := hh.2.1; have f2 := hh.2.2.1; have f3 := hh.2.2.2.1; have f4 := hh.2.2.2.2.1; have f5 := hh.2.2.2.2.2.1; have f6 := hh.2.2.2.2.2.2.1; have f7 := hh.2.2.2.2.2.2.2.1; have f8 := hh.2.2.2.2.2.2.2.2.1; have f9 := hh.2.2.2.2.2.2.2.2.2.1; have f10 := hh.2.2.2.2.2.2.2.2.2.2.1; have f11 := hh.2.2.2.2.2.2.2.2.2.2.2.1; have f12 := hh.2.2.2.2.2.2.2.2.2.2.2.2; clear hh
        have hh := Bag.fs13 S15.out 5 rfl
        have z0 := hh.1; have z1 := hh.2.1; have z2 := hh.2.2.1; have z3 := hh.2.2.2.1; have z4 := hh.2.2.2.2.1; have z5 := hh.2.2.2.2.2.1; have z6 := hh.2.2.2.2.2.2.1; have z7 := hh.2.2.2.2.2.2.2.1; have z8 := hh.2.2.2.2.2.2.2.2.1; have z9 := hh.2.2.2.2.2.2.2.2.2.1; have z10 := hh.2.2.2.2.2.2.2.2.2.2.1; have z11 := hh.2.2.2.2.2.2.2.2.2.2.2.1; have z12 := hh.2.2.2.2.2.2.2.2.2.2.2.2; clear hh
        go_simp
        clear f0 f1 f2 f3 f4 f5 f6 f7 f8 f9 f10 f11 f12 z0 z1 z2 z3 z4 z5 z6 z7 z8 z9 z10 z11 z12
        have S16 := Lib.hid (show Sl.Sep W _ [L4.boxR (W.heap.size + 1) 83 (U.cs_Cursor y1), Bag.bag z2'.rows, L4.boxR g1 26 (U.cs_Store z2'), QQ, Bag.bag (U.rows1 zr1), L4.boxR gb0 60 #[.bool r0'.r.hl, .bool r0'.r.hh, .int .i64 r0'.r.lo.kind, .int .i64 r0'.r.lo.n, .string ⟨#[]⟩, .int .i64 0, .int .i64 0, .string ⟨#[]⟩, .bool false, .bool false, .int .i64 0, .int .i64 0, .string ⟨#[]⟩], L4.boxR gb1 43 U.cz_Item] from L5.put_box5 (L5.put_box5 (L5.put_box5 (L5.put_box5 (S15.out) 5 rfl 0 (.bool r0'.r.hl)) 5 rfl 1 (.bool r0'.r.hh)) 5 rfl 2 (.int .i64 r0'.r.lo.kind)) 5 rfl 3 (.int .i64 r0'.r.lo.n))
        clear S15
        have S17 := Lib.hid (show Sl.Sep W _ [L4.boxR (W.heap.size + 1) 83 (U.cs_Cursor y1), Bag.bag z2'.rows, L4.boxR g1 26 (U.cs_Store z2'), QQ, Bag.bag (U.rows1 zr1), L4.boxR gb0 60 #[.bool r0'.r.hl, .bool r0'.r.hh, .int .i64 r0'.r.lo.kind, .int .i64 r0'.r.lo.n, .string r0'.r.lo.text, .int .i64 r0'.r.hi.kind, .int .i64 r0'.r.hi.n, .string r0'.r.hi.text, .bool false, .bool false, .int .i64 0, .int .i64 0, .string ⟨#[]⟩], L4.boxR gb1 43 U.cz_Item] from L5.put_box5 (L5.put_box5 (L5.put_box5 (L5.put_box5 (S16.out) 5 rfl 4 (.string r0'.r.lo.text)) 5 rfl 5 (.int .i64 r0'.r.hi.kind)) 5 rfl 6 (.int .i64 r0'.r.hi.n)) 5 rfl 7 (.string r0'.r.hi.text))
        clear S16
        have S18 := Lib.hid (show Sl.Sep W _ [L4.boxR (W.heap.size + 1) 83 (U.cs_Cursor y1), Bag.bag z2'.rows, L4.boxR g1 26 (U.cs_Store z2'), QQ, Bag.bag (U.rows1 zr1), L4.boxR gb0 60 #[.bool r0'.r.hl, .bool r0'.r.hh, .int .i64 r0'.r.lo.kind, .int .i64 r0'.r.lo.n, .string r0'.r.lo.text, .int .i64 r0'.r.hi.kind, .int .i64 r0'.r.hi.n, .string r0'.r.hi.text, .bool r0'.back, .bool r0'.st, .int .i64 r0'.k.kind, .int .i64 r0'.k.n, .string ⟨#[]⟩], L4.boxR gb1 43 U.cz_Item] from L5.put_box5 (L5.put_box5 (L5.put_box5 (L5.put_box5 (S17.out) 5 rfl 8 (.bool r0'.back)) 5 rfl 9 (.bool r0'.st)) 5 rfl 10 (.int .i64 r0'.k.kind)) 5 rfl 11 (.int .i64 r0'.k.n))
        clear S17
        have S19 := Lib.hid (show Sl.Sep W _ [L4.boxR (W.heap.size + 1) 83 (U.cs_Cursor y1), Bag.bag z2'.rows, L4.boxR g1 26 (U.cs_Store z2'), QQ, Bag.bag (U.rows1 zr1), L4.boxR gb0 60 (U.cs_Cursor r0'), L4.boxR gb1 43 U.cz_Item] from L5.put_box5 (S18.out) 5 rfl 12 (.string r0'.k.text))
        clear S18
        refine hK.out _ _ ⟨Bag.cs13 S19.out 0 rfl, Bag.cs3 S19.out 2 rfl⟩ (fun hS => ?_)
        clear hK K
        try simp only [zp0, zp1, zp2, zp3, zp4]
        refine Reg.one_op (i := 11) rfl (by kernel_rfl) (fun K hK => ?_)
        have hh := Bag.cs4 S19.out 6 rfl
        have f0 := hh.1; have f1 := hh.2.1; have f2 := hh.2.2.1; have f3 := hh.2.2.2; clear hh
        have hh := Bag.fs4 S19.out 6 rfl
        have z0 := hh.1; have z1 := hh.2.1; have z2 := hh.2.2.1; have z3 := hh.2.2.2; clear hh
        go_simp
        clear f0 f1 f2 f3 z0 z1 z2 z3
        have S20 := Lib.hid (show Sl.Sep W _ [L4.boxR (W.heap.size + 1) 83 (U.cs_Cursor y1), Bag.bag z2'.rows, L4.boxR g1 26 (U.cs_Store z2'), QQ, Bag.bag (U.rows1 zr1), L4.boxR gb0 60 (U.cs_Cursor r0'), L4.boxR gb1 43 (U.cs_Item zr1)] from L5.put_box5 (L5.put_box5 (L5.put_box5 (L5.put_box5 (S19.out) 6 rfl 0 (.int .i64 zr1.k.kind)) 6 rfl 1 (.int .i64 zr1.k.n)) 6 rfl 2 (.string zr1.k.text)) 6 rfl 3 (.slice zr1.a zr1.l.length zr1.c))
        clear S19
        refine hK.out _ _ ⟨Bag.cs13 S20.out 0 rfl, Bag.cs3 S20.out 2 rfl⟩ (fun hS => ?_)
        clear hK K
        try simp only [zp0, zp1, zp2, zp3, zp4]
        refine tk 12 rfl ?_
        try simp only [zp0, zp1, zp2, zp3, zp4]
        refine wpAnyH_done (by kernel_rfl) ?_ _
        go_wp2_with fail
        go_meet
        case rel =>
          exact ⟨gb0, gb1, zr1, rfl, rfl, rfl, And.intro HZzr1.out (S20.out)⟩
    case rest =>
      obtain ⟨g3a', g3b', z3r1', rfl, rfl, rfl, hq⟩ := hcut
      have HZz3r1' := Lib.hid hq.out.1
      obtain ⟨w6, hww, hSS⟩ : ∃ u, u = _ ∧ Sl.Sep W u [L4.boxR (W.heap.size + 1) 83 (U.cs_Cursor y1), Bag.bag z2'.rows, L4.boxR g1 26 (U.cs_Store z2'), QQ, Bag.bag (U.rows1 z3r1'), L4.boxR g3a' 60 (U.cs_Cursor r0'), L4.boxR g3b' 43 (U.cs_Item z3r1')] := ⟨_, rfl, hq.out.2⟩
      subst hww
      have S10 := Lib.hid hSS
      clear hSS hq S9 HTO0
      have S11 := Lib.hid (show Sl.Sep W _ [L4.boxR (W.heap.size + 1) 83 (U.cs_Cursor y1), Bag.bag z2'.rows, L4.boxR g1 26 (U.cs_Store z2'), Bag.bag (U.rows1 z3r1'), L4.boxR g3a' 60 (U.cs_Cursor r0'), L4.boxR g3b' 43 (U.cs_Item z3r1'), QQ] from Bag.take S10.out [0, 1, 2, 4, 5, 6, 3] (by rfl) (by decide))
      clear S10
      have S12 := Lib.hid (show Sl.Sep W _ [L4.boxR (W.heap.size + 1) 83 (U.cs_Cursor y1), Bag.bag z2'.rows, L4.boxR g1 26 (U.cs_Store z2'), Bag.bag (U.rows1 z3r1'), L4.boxR g3a' 60 (U.cs_Cursor r0'), L4.boxR g3b' 43 (U.cs_Item z3r1'), L4.boxR W.heap.size 67 (U.cs_Store y0), Bag.bag (U.rows1 z1r1'), L4.boxR g1a' 60 (U.cs_Cursor r0'), L4.boxR g1b' 43 (U.cs_Item z1r1')] from (by have h := S11.out; rw [HQQ.out] at h; exact Run.unpackR (us := [L4.boxR (W.heap.size + 1) 83 (U.cs_Cursor y1), Bag.bag z2'.rows, L4.boxR g1 26 (U.cs_Store z2'), Bag.bag (U.rows1 z3r1'), L4.boxR g3a' 60 (U.cs_Cursor r0'), L4.boxR g3b' 43 (U.cs_Item z3r1')]) (vs := [L4.boxR W.heap.size 67 (U.cs_Store y0), Bag.bag (U.rows1 z1r1'), L4.boxR g1a' 60 (U.cs_Cursor r0'), L4.boxR g1b' 43 (U.cs_Item z1r1')]) h))
      clear S11
      clear HQQ QQ
      have hh := Bag.cs13 S12.out 4 rfl
      have f0 := hh.1; have f1 := hh.2.1; have f2 := hh.2.2.1; have f3 := hh.2.2.2.1; have f4 := hh.2.2.2.2.1; have f5 := hh.2.2.2.2.2.1; have f6 := hh.2.2.2.2.2.2.1; have f7 := hh.2.2.2.2.2.2.2.1; have f8 := hh.2.2.2.2.2.2.2.2.1; have f9 := hh.2.2.2.2.2.2.2.2.2.1; have f10 := hh.2.2.2.2.2.2.2.2.2.2.1; have f11 := hh.2.2.2.2.2.2.2.2.2.2.2.1; have f12 := hh.2.2.2.2.2.2.2.2.2.2.2.2; clear hh
      have hh := Bag.cs13 S12.out 8 rfl
      have f13 := hh.1; have f14 := hh.2.1; have f15 := hh.2.2.1; have f16 := hh.2.2.2.1; have f17 := hh.2.2.2.2.1; have f18 := hh.2.2.2.2.2.1; have f19 := hh.2.2.2.2.2.2.1; have f20 := hh.2.2.2.2.2.2.2.1; have f21 := hh.2.2.2.2.2.2.2.2.1; have f22 := hh.2.2.2.2.2.2.2.2.2.1; have f23 := hh.2.2.2.2.2.2.2.2.2.2.1; have f24 := hh.2.2.2.2.2.2.2.2.2.2.2.1; have f25 := hh.2.2.2.2.2.2.2.2.2.2.2.2; clear hh
      go_wp2_with fail
      go_at_call 52
      have HC := U.eq_Cursor r0' w6
      try dsimp only [L6.LS.v, L6.LS.cells, L4.K.v, L4.R.v, L7.Cu.v, U.LR.v, U.LX.v, U.vI] at HC
      refine HC.mono ?_
      clear HC
      rintro e w7 ⟨rfl, hb⟩
      clear f0 f1 f2 f3 f4 f5 f6 f7 f8 f9 f10 f11 f12 f13 f14 f15 f16 f17 f18 f19 f20 f21 f22 f23 f24 f25
      have S13 := Lib.hid (S12.out.keep hb)
      clear S12
      clear hb
      have hh := Bag.cs4 S13.out 5 rfl
      have f0 := hh.1; have f1 := hh.2.1; have f2 := hh.2.2.1; have f3 := hh.2.2.2; clear hh
      have hh := Bag.cs4 S13.out 9 rfl
      have f4 := hh.1; have f5 := hh.2.1; have f6 := hh.2.2.1; have f7 := hh.2.2.2; clear hh
      go_wp2_with fail
      go_at_call 53
      have HC := U.eq_Item z3r1' z1r1' (HZz3r1'.out.trans HZz1r1'.out.symm) (by rw [HZz3r1'.out]; exact HFR1.out) _ (Bag.bag_rd S13.out 3 rfl) (Bag.bag_rd S13.out 7 rfl)
      try dsimp only [L6.LS.v, L6.LS.cells, L4.K.v, L4.R.v, L7.Cu.v, U.LR.v, U.LX.v, U.vI] at HC
      refine HC.mono ?_
      clear HC
      rintro e w8 ⟨rfl, hb⟩
      clear f0 f1 f2 f3 f4 f5 f6 f7
      have S14 := Lib.hid (S13.out.keep hb)
      clear S13
      clear hb
      go_upto_region 13 with fail
      refine wp_region_held_drew (S := (fun w' => (World.cell? w' ⟨g1, 0, none⟩ = some (.string z2'.name) ∧ World.cell? w' ⟨g1, 1, none⟩ = some (.slice z2'.a z2'.xs.length z2'.c) ∧ World.cell? w' ⟨g1, 2, none⟩ = some (.int .i64 z2'.auto)) ∧ (World.cell? w' ⟨W.heap.size, 0, none⟩ = some (.string y0.name) ∧ World.cell? w' ⟨W.heap.size, 1, none⟩ = some (.slice y0.a y0.xs.length y0.c) ∧ World.cell? w' ⟨W.heap.size, 2, none⟩ = some (.int .i64 y0.auto)))) (by kernel_rfl) ⟨Bag.cs3 (Bag.drew1 S14.out) 2 rfl, Bag.cs3 (Bag.drew1 S14.out) 6 rfl⟩ (fun hS => ?_)
      have S15 := Lib.hid (show Sl.Sep W _ [L4.boxR (W.heap.size + 1) 83 (U.cs_Cursor y1), Bag.bag z2'.rows, L4.boxR g1 26 (U.cs_Store z2'), Bag.bag (U.rows1 z3r1'), L4.boxR g3a' 60 (U.cs_Cursor r0'), L4.boxR g3b' 43 (U.cs_Item z3r1'), L4.boxR W.heap.size 67 (U.cs_Store y0), Bag.bag (U.rows1 z1r1'), L4.boxR g1a' 60 (U.cs_Cursor r0'), L4.boxR g1b' 43 (U.cs_Item z1r1')] from Bag.drew1 S14.out)
      clear S14
      generalize World.drew _ = w9 at hS S15 ⊢
      refine tk 0 rfl ?_
      try simp only [zp0, zp1, zp2, zp3, zp4]
      refine tk 1 rfl ?_
      try simp only [zp0, zp1, zp2, zp3, zp4]
      refine Reg.one_op (i := 2) rfl (by kernel_rfl) (fun K hK => ?_)
      go_simp
      go_at_call 40
      have HC := U.to_Store y0 (by rw [HC0.out]; exact HF0.out) _ (HRY0.out _ S15.out.old)
      try dsimp only [L6.LS.v, L6.LS.cells, L4.K.v, L4.R.v, L7.Cu.v, U.LR.v, U.LX.v, U.vI] at HC
      refine HC.mono ?_
      clear HC
      rintro e w10 ⟨z4', rfl, hcon, ho, hb⟩
      have S16 := Lib.hid (show Sl.Sep W _ [L4.boxR (W.heap.size + 1) 83 (U.cs_Cursor y1), Bag.bag z2'.rows, L4.boxR g1 26 (U.cs_Store z2'), Bag.bag (U.rows1 z3r1'), L4.boxR g3a' 60 (U.cs_Cursor r0'), L4.boxR g3b' 43 (U.cs_Item z3r1'), L4.boxR W.heap.size 67 (U.cs_Store y0), Bag.bag (U.rows1 z1r1'), L4.boxR g1a' 60 (U.cs_Cursor r0'), L4.boxR g1b' 43 (U.cs_Item z1r1'), Bag.bag z4'.rows] from Bag.push_bag S15.out hb ho)
      clear S15
      clear hb ho
      have HZz4' := Lib.hid (hcon.trans HC0.out)
      clear hcon
      try dsimp only [L6.LS.v, L6.LS.cells, L4.K.v, L4.R.v, L7.Cu.v, U.LR.v, U.LX.v, U.vI]
      go_wp2_with fail
      refine hK.out _ _ ⟨Bag.cs3 S16.out 2 rfl, Bag.cs3 S16.out 6 rfl⟩ (fun hS => ?_)
      clear hK K
      try simp only [zp0, zp1, zp2, zp3, zp4]
      refine Reg.one_op (i := 3) rfl (by kernel_rfl) (fun K hK => ?_)
      go_simp
      go_at_call 43
      have HC := U.eq_Store z2' z4' (HZz2'.out.trans HZz4'.out.symm) (by rw [HZz2'.out]; exact HF0.out) _ (Bag.bag_rd S16.out 1 rfl) (Bag.bag_rd S16.out 10 rfl)
      try dsimp only [L6.LS.v, L6.LS.cells, L4.K.v, L4.R.v, L7.Cu.v, U.LR.v, U.LX.v, U.vI] at HC
      refine HC.mono ?_
      clear HC
      rintro e w11 ⟨rfl, hb⟩
      have S17 := Lib.hid (S16.out.keep hb)
      clear S16
      clear hb
      go_wp2_with fail
      refine hK.out _ _ ⟨Bag.cs3 S17.out 2 rfl, Bag.cs3 S17.out 6 rfl⟩ (fun hS => ?_)
      clear hK K
      try simp only [zp0, zp1, zp2, zp3, zp4]
      refine tk 4 rfl ?_
      try simp only [zp0, zp1, zp2, zp3, zp4]
      refine wpAnyH_done (by kernel_rfl) ?_ _
      have hh := Bag.cs13 S17.out 0 rfl
      have f0 := hh.1; have f1 := hh.2.1; have f2 := hh.2.2.1; have f3 := hh.2.2.2.1; have f4 := hh.2.2.2.2.1; have f5 := hh.2.2.2.2.2.1; have f6 := hh.2.2.2.2.2.2.1; have f7 := hh.2.2.2.2.2.2.2.1; have f8 := hh.2.2.2.2.2.2.2.2.1; have f9 := hh.2.2.2.2.2.2.2.2.2.1; have f10 := hh.2.2.2.2.2.2.2.2.2.2.1; have f11 := hh.2.2.2.2.2.2.2.2.2.2.2.1; have f12 := hh.2.2.2.2.2.2.2.2.2.2.2.2; clear hh
      have hh := Bag.cs3 S17.out 2 rfl
      have f13 := hh.1; have f14 := hh.2.1; have f15 := hh.2.2; clear hh
      have hh := Bag.cs13 S17.out 4 rfl
      have f16 := hh.1; have f17 := hh.2.1; have f18 := hh.2.2.1; have f19 := hh.2.2.2.1; have f20 := hh.2.2.2.2.1; have f21 := hh.2.2.2.2.2.1; have f22 := hh.2.2.2.2.2.2.1; have f23 := hh.2.2.2.2.2.2.2.1; have f24 := hh.2.2.2.2.2.2.2.2.1; have f25 := hh.2.2.2.2.2.2.2.2.2.1; have f26 := hh.2.2.2.2.2.2.2.2.2.2.1; have f27 := hh.2.2.2.2.2.2.2.2.2.2.2.1; have f28 := hh.2.2.2.2.2.2.2.2.2.2.2.2; clear hh
      have hh := Bag.cs4 S17.out 5 rfl
      have f29 := hh.1; have f30 := hh.2.1; have f31 := hh.2.2.1; have f32 := hh.2.2.2; clear hh
      have hh := Bag.cs3 S17.out 6 rfl
      have f33 := hh.1; have f34 := hh.2.1; have f35 := hh.2.2; clear hh
      have hh := Bag.cs13 S17.out 8 rfl
      have f36 := hh.1; have f37 := hh.2.1; have f38 := hh.2.2.1; have f39 := hh.2.2.2.1; have f40 := hh.2.2.2.2.1; have f41 := hh.2.2.2.2.2.1; have f42 := hh.2.2.2.2.2.2.1; have f43 := hh.2.2.2.2.2.2.2.1; have f44 := hh.2.2.2.2.2.2.2.2.1; have f45 := hh.2.2.2.2.2.2.2.2.2.1; have f46 := hh.2.2.2.2.2.2.2.2.2.2.1; have f47 := hh.2.2.2.2.2.2.2.2.2.2.2.1; have f48 := hh.2.2.2.2.2.2.2.2.2.2.2.2; clear hh
      have hh := Bag.cs4 S17.out 9 rfl
      have f49 := hh.1; have f50 := hh.2.1; have f51 := hh.2.2.1; have f52 := hh.2.2.2; clear hh
      have S18 := Lib.hid (show Sl.Sep W _ [L4.boxR (W.heap.size + 1) 83 (U.cs_Cursor y1), Bag.bag z2'.rows, L4.boxR g1 26 (U.cs_Store z2'), Bag.bag (U.rows1 z3r1'), L4.boxR g3a' 60 (U.cs_Cursor r0'), L4.boxR g3b' 43 (U.cs_Item z3r1'), L4.boxR W.heap.size 67 (U.cs_Store y0), Bag.bag (U.rows1 z1r1'), L4.boxR g1a' 60 (U.cs_Cursor r0'), L4.boxR g1b' 43 (U.cs_Item z1r1')] from Bag.take S17.out [0, 1, 2, 3, 4, 5, 6, 7, 8, 9] (by rfl) (by decide))
      clear S17
      obtain ⟨Ez2', hE⟩ : ∃ E, U.end_Store 1 z2' = E := ⟨_, rfl⟩
      have hEb := U.endr_Store 1 z2' (U.Few_Store.of (by rw [HZz2'.out]; exact HF0.out))
      rw [hE] at hEb
      have hEb0 : 1 ≤ Ez2' := hEb.1
      have hEb1 : Ez2' ≤ 1 + 4398046511104 := hEb.2
      have hEb2 : 0 < Ez2' := by omega
      have hEb3 : ¬ Ez2' < 0 := by omega
      have HEz2' := Lib.hid hE
      clear hE hEb
      clear f0 f1 f2 f3 f4 f5 f6 f7 f8 f9 f10 f11 f12 f13 f14 f15 f16 f17 f18 f19 f20 f21 f22 f23 f24 f25 f26 f27 f28 f29 f30 f31 f32 f33 f34 f35 f36 f37 f38 f39 f40 f41 f42 f43 f44 f45 f46 f47 f48 f49 f50 f51 f52
      have hh := Bag.cs3 S18.out 2 rfl
      have f0 := hh.1; have f1 := hh.2.1; have f2 := hh.2.2; clear hh
      go_wp2_with fail
      go_at_call 44
      have HC := U.mark_Store S18.out 1 (z := z2') rfl 1 (by rw [HZz2'.out]; exact HF0.out) (by omega) (by omega)
      try dsimp only [L6.LS.v, L6.LS.cells, L4.K.v, L4.R.v, L7.Cu.v, U.LR.v, U.LX.v, U.vI] at HC
      rw [HEz2'.out] at HC
      refine HC.mono ?_
      clear HC
      rintro e w12 ⟨rfl, hS⟩
      clear f0 f1 f2
      have S19 := Lib.hid (show Sl.Sep W _ [L4.boxR (W.heap.size + 1) 83 (U.cs_Cursor y1), Bag.bag ((L6.LS.marked 1 z2').rows), L4.boxR g1 26 (U.cs_Store z2'), Bag.bag (U.rows1 z3r1'), L4.boxR g3a' 60 (U.cs_Cursor r0'), L4.boxR g3b' 43 (U.cs_Item z3r1'), L4.boxR W.heap.size 67 (U.cs_Store y0), Bag.bag (U.rows1 z1r1'), L4.boxR g1a' 60 (U.cs_Cursor r0'), L4.boxR g1b' 43 (U.cs_Item z1r1')] from hS)
      clear S18
      clear hS
      have hh := Bag.cs13 S19.out 4 rfl
      have f0 := hh.1; have f1 := hh.2.1; have f2 := hh.2.2.1; have f3 := hh.2.2.2.1; have f4 := hh.2.2.2.2.1; have f5 := hh.2.2.2.2.2.1; have f6 := hh.2.2.2.2.2.2.1; have f7 := hh.2.2.2.2.2.2.2.1; have f8 := hh.2.2.2.2.2.2.2.2.1; have f9 := hh.2.2.2.2.2.2.2.2.2.1; have f10 := hh.2.2.2.2.2.2.2.2.2.2.1; have f11 := hh.2.2.2.2.2.2.2.2.2.2.2.1; have f12 := hh.2.2.2.2.2.2.2.2.2.2.2.2; clear hh
      have hh := Bag.cs13 S19.out 8 rfl
      have f13 := hh.1; have f14 := hh.2.1; have f15 := hh.2.2.1; have f16 := hh.2.2.2.1; have f17 := hh.2.2.2.2.1; have f18 := hh.2.2.2.2.2.1; have f19 := hh.2.2.2.2.2.2.1; have f20 := hh.2.2.2.2.2.2.2.1; have f21 := hh.2.2.2.2.2.2.2.2.1; have f22 := hh.2.2.2.2.2.2.2.2.2.1; have f23 := hh.2.2.2.2.2.2.2.2.2.2.1; have f24 := hh.2.2.2.2.2.2.2.2.2.2.2.1; have f25 := hh.2.2.2.2.2.2.2.2.2.2.2.2; clear hh
      go_wp2_with fail
      go_at_call 52
      have HC := U.eq_Cursor r0' w12
      try dsimp only [L6.LS.v, L6.LS.cells, L4.K.v, L4.R.v, L7.Cu.v, U.LR.v, U.LX.v, U.vI] at HC
      refine HC.mono ?_
      clear HC
      rintro e w13 ⟨rfl, hb⟩
      clear f0 f1 f2 f3 f4 f5 f6 f7 f8 f9 f10 f11 f12 f13 f14 f15 f16 f17 f18 f19 f20 f21 f22 f23 f24 f25
      have S20 := Lib.hid (S19.out.keep hb)
      clear S19
      clear hb
      have hh := Bag.cs4 S20.out 5 rfl
      have f0 := hh.1; have f1 := hh.2.1; have f2 := hh.2.2.1; have f3 := hh.2.2.2; clear hh
      have hh := Bag.cs4 S20.out 9 rfl
      have f4 := hh.1; have f5 := hh.2.1; have f6 := hh.2.2.1; have f7 := hh.2.2.2; clear hh
      go_wp2_with fail
      go_at_call 53
      have HC := U.eq_Item z3r1' z1r1' (HZz3r1'.out.trans HZz1r1'.out.symm) (by rw [HZz3r1'.out]; exact HFR1.out) _ (Bag.bag_rd S20.out 3 rfl) (Bag.bag_rd S20.out 7 rfl)
      try dsimp only [L6.LS.v, L6.LS.cells, L4.K.v, L4.R.v, L7.Cu.v, U.LR.v, U.LX.v, U.vI] at HC
      refine HC.mono ?_
      clear HC
      rintro e w14 ⟨rfl, hb⟩
      clear f0 f1 f2 f3 f4 f5 f6 f7
      have S21 := Lib.hid (S20.out.keep hb)
      clear S20
      clear hb
      obtain ⟨Ez3r1', hE⟩ : ∃ E, U.end_Item 1 z3r1' = E := ⟨_, rfl⟩
      have hEb := U.endr_Item 1 z3r1' ((by rw [HZz3r1'.out]; exact HFR1.out) : L6.FitI _).len
      rw [hE] at hEb
      have hEb0 : 1 ≤ Ez3r1' := hEb.1
      have hEb1 : Ez3r1' ≤ 1 + 4398046511104 := hEb.2
      have hEb2 : 0 < Ez3r1' := by omega
      have hEb3 : ¬ Ez3r1' < 0 := by omega
      have HEz3r1' := Lib.hid hE
      clear hE hEb
      have hh := Bag.cs4 S21.out 5 rfl
      have f0 := hh.1; have f1 := hh.2.1; have f2 := hh.2.2.1; have f3 := hh.2.2.2; clear hh
      go_wp2_with fail
      go_at_call 54
      have HC := U.mark_Item S21.out 3 (z := z3r1') rfl 1 ((by rw [HZz3r1'.out]; exact HFR1.out) : L6.FitI _).len (by omega) (by omega)
      try dsimp only [L6.LS.v, L6.LS.cells, L4.K.v, L4.R.v, L7.Cu.v, U.LR.v, U.LX.v, U.vI] at HC
      rw [HEz3r1'.out] at HC
      refine HC.mono ?_
      clear HC
      rintro e w15 ⟨rfl, hS⟩
      clear f0 f1 f2 f3
      have S22 := Lib.hid (show Sl.Sep W _ [L4.boxR (W.heap.size + 1) 83 (U.cs_Cursor y1), Bag.bag ((L6.LS.marked 1 z2').rows), L4.boxR g1 26 (U.cs_Store z2'), Bag.bag (U.rows1 (U.markedI 1 z3r1')), L4.boxR g3a' 60 (U.cs_Cursor r0'), L4.boxR g3b' 43 (U.cs_Item z3r1'), L4.boxR W.heap.size 67 (U.cs_Store y0), Bag.bag (U.rows1 z1r1'), L4.boxR g1a' 60 (U.cs_Cursor r0'), L4.boxR g1b' 43 (U.cs_Item z1r1')] from hS)
      clear S21
      clear hS
      have hh := Bag.cs4 S22.out 5 rfl
      have f0 := hh.1; have f1 := hh.2.1; have f2 := hh.2.2.1; have f3 := hh.2.2.2; clear hh
      go_wp2_with fail
      go_at_call 55
      have HC := U.held_Item z3r1' 1 ((by rw [HZz3r1'.out]; exact HFR1.out) : L6.FitI _).len (by omega) (by omega) _ (Bag.bag_rd S22.out 3 rfl)
      try dsimp only [L6.LS.v, L6.LS.cells, L4.K.v, L4.R.v, L7.Cu.v, U.LR.v, U.LX.v, U.vI] at HC
      rw [HEz3r1'.out] at HC
      refine HC.mono ?_
      clear HC
      rintro e w16 ⟨rfl, hb⟩
      clear f0 f1 f2 f3
      have S23 := Lib.hid (S22.out.keep hb)
      clear S22
      clear hb
      have S24 := Lib.hid (show Sl.Sep W _ [L4.boxR (W.heap.size + 1) 83 (U.cs_Cursor y1), L4.boxR W.heap.size 67 (U.cs_Store y0), Bag.bag ((L6.LS.marked 1 z2').rows), L4.boxR g1 26 (U.cs_Store z2'), Bag.bag (U.rows1 (U.markedI 1 z3r1')), L4.boxR g3a' 60 (U.cs_Cursor r0'), L4.boxR g3b' 43 (U.cs_Item z3r1'), Bag.bag (U.rows1 z1r1'), L4.boxR g1a' 60 (U.cs_Cursor r0'), L4.boxR g1b' 43 (U.cs_Item z1r1')] from Bag.take S23.out [0, 6, 1, 2, 3, 4, 5, 7, 8, 9] (by rfl) (by decide))
      clear S23
      have S25 := Lib.hid (show Sl.Sep W _ [L4.boxR (W.heap.size + 1) 83 (U.cs_Cursor y1), L4.boxR W.heap.size 67 (U.cs_Store y0), Run.allR [Bag.bag ((L6.LS.marked 1 z2').rows), L4.boxR g1 26 (U.cs_Store z2'), Bag.bag (U.rows1 (U.markedI 1 z3r1')), L4.boxR g3a' 60 (U.cs_Cursor r0'), L4.boxR g3b' 43 (U.cs_Item z3r1'), Bag.bag (U.rows1 z1r1'), L4.boxR g1a' 60 (U.cs_Cursor r0'), L4.boxR g1b' 43 (U.cs_Item z1r1')]] from Run.packR (us := [L4.boxR (W.heap.size + 1) 83 (U.cs_Cursor y1), L4.boxR W.heap.size 67 (U.cs_Store y0)]) (vs := [Bag.bag ((L6.LS.marked 1 z2').rows), L4.boxR g1 26 (U.cs_Store z2'), Bag.bag (U.rows1 (U.markedI 1 z3r1')), L4.boxR g3a' 60 (U.cs_Cursor r0'), L4.boxR g3b' 43 (U.cs_Item z3r1'), Bag.bag (U.rows1 z1r1'), L4.boxR g1a' 60 (U.cs_Cursor r0'), L4.boxR g1b' 43 (U.cs_Item z1r1')]) S24.out)
      clear S24
      obtain ⟨QQ, hQQ⟩ : ∃ Q, Q = Run.allR [Bag.bag ((L6.LS.marked 1 z2').rows), L4.boxR g1 26 (U.cs_Store z2'), Bag.bag (U.rows1 (U.markedI 1 z3r1')), L4.boxR g3a' 60 (U.cs_Cursor r0'), L4.boxR g3b' 43 (U.cs_Item z3r1'), Bag.bag (U.rows1 z1r1'), L4.boxR g1a' 60 (U.cs_Cursor r0'), L4.boxR g1b' 43 (U.cs_Item z1r1')] := ⟨_, rfl⟩
      rw [← hQQ] at S25
      have HQQ := Lib.hid hQQ
      clear hQQ
      go_upto_region 27 with fail
      have HTO0 := Lib.hid (fun w' (h : Below W.heap.size W w') => U.to_Store y0 (by rw [HC0.out]; exact HF0.out) w' (HRY0.out w' h))
      try dsimp only [L6.LS.v, L6.LS.cells, L4.K.v, L4.R.v, L7.Cu.v, U.LR.v, U.LX.v, U.vI] at HTO0
      have HTO1 := Lib.hid (fun w' (h : Below W.heap.size W w') => U.to_Cursor y1 w')
      try dsimp only [L6.LS.v, L6.LS.cells, L4.K.v, L4.R.v, L7.Cu.v, U.LR.v, U.LX.v, U.vI] at HTO1
      go_cut [16, 17, 18] (fun pz0 pz1 qs0 wx => ∃ (g5a' g5b' : Nat) (z5r1' : L6.LI), pz0 = .pointer (some ⟨g5a', 0, none⟩) ∧ pz1 = .pointer (some ⟨g5b', 0, none⟩) ∧ qs0 = .bool r2' ∧ Hid (z5r1'.con = r1' ∧ Sl.Sep W wx [L4.boxR (W.heap.size + 1) 83 (U.cs_Cursor y1), L4.boxR W.heap.size 67 (U.cs_Store y0), QQ, Bag.bag (U.rows1 z5r1'), L4.boxR g5a' 60 (U.cs_Cursor r0'), L4.boxR g5b' 43 (U.cs_Item z5r1')]))
      case first =>
        refine wp_region_held_drew (S := (fun w' => (World.cell? w' ⟨W.heap.size + 1, 0, none⟩ = some (.bool y1.r.hl) ∧ World.cell? w' ⟨W.heap.size + 1, 1, none⟩ = some (.bool y1.r.hh) ∧ World.cell? w' ⟨W.heap.size + 1, 2, none⟩ = some (.int .i64 y1.r.lo.kind) ∧ World.cell? w' ⟨W.heap.size + 1, 3, none⟩ = some (.int .i64 y1.r.lo.n) ∧ World.cell? w' ⟨W.heap.size + 1, 4, none⟩ = some (.string y1.r.lo.text) ∧ World.cell? w' ⟨W.heap.size + 1, 5, none⟩ = some (.int .i64 y1.r.hi.kind) ∧ World.cell? w' ⟨W.heap.size + 1, 6, none⟩ = some (.int .i64 y1.r.hi.n) ∧ World.cell? w' ⟨W.heap.size + 1, 7, none⟩ = some (.string y1.r.hi.text) ∧ World.cell? w' ⟨W.heap.size + 1, 8, none⟩ = some (.bool y1.back) ∧ World.cell? w' ⟨W.heap.size + 1, 9, none⟩ = some (.bool y1.st) ∧ World.cell? w' ⟨W.heap.size + 1, 10, none⟩ = some (.int .i64 y1.k.kind) ∧ World.cell? w' ⟨W.heap.size + 1, 11, none⟩ = some (.int .i64 y1.k.n) ∧ World.cell? w' ⟨W.heap.size + 1, 12, none⟩ = some (.string y1.k.text)) ∧ (World.cell? w' ⟨W.heap.size, 0, none⟩ = some (.string y0.name) ∧ World.cell? w' ⟨W.heap.size, 1, none⟩ = some (.slice y0.a y0.xs.length y0.c) ∧ World.cell? w' ⟨W.heap.size, 2, none⟩ = some (.int .i64 y0.auto)))) (by kernel_rfl) ⟨Bag.cs13 (Bag.drew1 S25.out) 0 rfl, Bag.cs3 (Bag.drew1 S25.out) 1 rfl⟩ (fun hS => ?_)
        have S26 := Lib.hid (show Sl.Sep W _ [L4.boxR (W.heap.size + 1) 83 (U.cs_Cursor y1), L4.boxR W.heap.size 67 (U.cs_Store y0), QQ] from Bag.drew1 S25.out)
        clear S25
        generalize World.drew _ = w17 at hS S26 ⊢
        apply share5
        case main =>
          intro hrest
          refine tk 0 rfl ?_
          try simp only [zp0, zp1, zp2, zp3, zp4]
          refine tk 2 rfl ?_
          try simp only [zp0, zp1, zp2, zp3, zp4]
          refine wpAnyH_ready (rs := [1, 9, 10]) (by kernel_rfl) (by simp) ?_
          refine Reg.cons_op (i := 1) rfl (fun K hK => ?_) ?_
          go_simp
          go_at_call 40
          refine (HTO0.out _ S26.out.old).mono ?_
          rintro e w18 ⟨zs0, rfl, hcon, ho, hb⟩
          have S27 := Lib.hid (show Sl.Sep W _ [L4.boxR (W.heap.size + 1) 83 (U.cs_Cursor y1), L4.boxR W.heap.size 67 (U.cs_Store y0), QQ, Bag.bag zs0.rows] from Bag.push_bag S26.out hb ho)
          clear hb ho
          have HZzs0 := Lib.hid (hcon.trans HC0.out)
          clear hcon
          go_wp2_with fail
          refine hK.out _ _ ⟨Bag.cs13 S27.out 0 rfl, Bag.cs3 S27.out 1 rfl⟩ (fun hS => ?_)
          clear hK K
          try simp only [zp0, zp1, zp2, zp3, zp4]
          refine wpAnyH_ready (rs := [3, 9, 10]) (by kernel_rfl) (by simp) ?_
          refine Reg.cons_op (i := 3) rfl (fun K hK => ?_) ?_
          go_simp
          go_at_call 51
          refine (HTO1.out w18 S27.out.old).mono ?_
          rintro e w19 ⟨rfl, hb⟩
          have S28 := Lib.hid (S27.out.keep hb)
          clear S27
          clear hb
          go_wp2_with fail
          refine hK.out _ _ ⟨Bag.cs13 S28.out 0 rfl, Bag.cs3 S28.out 1 rfl⟩ (fun hS => ?_)
          clear hK K
          try simp only [zp0, zp1, zp2, zp3, zp4]
          refine wpAnyH_ready (rs := [4, 9, 10]) (by kernel_rfl) (by simp) ?_
          refine Reg.cons_op (i := 4) rfl (fun K hK => ?_) ?_
          go_simp
          go_at_call 36
          refine (Cimpl.out zs0 HZzs0.out _ (Bag.bag_rd S28.out 3 rfl)).mono ?_
          rintro e w20 ⟨zr1, rfl, hcon1, ho, hb⟩
          have S29 := Lib.hid (show Sl.Sep W _ [L4.boxR (W.heap.size + 1) 83 (U.cs_Cursor y1), L4.boxR W.heap.size 67 (U.cs_Store y0), QQ, Bag.bag zs0.rows, Bag.bag (U.rows1 zr1)] from Bag.push_bag S28.out hb ho)
          clear S28
          clear hb ho
          have HZzr1 := Lib.hid hcon1
          clear hcon1
          go_wp2_with fail
          refine hK.out _ _ ⟨Bag.cs13 S29.out 0 rfl, Bag.cs3 S29.out 1 rfl⟩ (fun hS => ?_)
          clear hK K
          try simp only [zp0, zp1, zp2, zp3, zp4]
          refine tk 5 rfl ?_
          try simp only [zp0, zp1, zp2, zp3, zp4]
          refine tk 6 rfl ?_
          try simp only [zp0, zp1, zp2, zp3, zp4]
          refine tk 7 rfl ?_
          try simp only [zp0, zp1, zp2, zp3, zp4]
          refine tk 8 rfl ?_
          try simp only [zp0, zp1, zp2, zp3, zp4]
          refine wpAnyH_ready (rs := [9, 10]) (by kernel_rfl) (by simp) ?_
          refine Reg.cons_op (i := 9) rfl (fun K hK => ?_) ?_
          go_simp
          have S30 := Lib.hid (show Sl.Sep W _ [L4.boxR (W.heap.size + 1) 83 (U.cs_Cursor y1), L4.boxR W.heap.size 67 (U.cs_Store y0), QQ, Bag.bag zs0.rows, Bag.bag (U.rows1 zr1), L4.boxR w20.heap.size 60 U.cz_Cursor] from L4.push_box S29.out 60 #[.bool false, .bool false, .int .i64 0, .int .i64 0, .string ⟨#[]⟩, .int .i64 0, .int .i64 0, .string ⟨#[]⟩, .bool false, .bool false, .int .i64 0, .int .i64 0, .string ⟨#[]⟩] w20.heap.size rfl)
          clear S29
          obtain ⟨gb0, hg⟩ : ∃ g', g' = w20.heap.size := ⟨_, rfl⟩
          rw [← hg] at S30 ⊢
          clear hg
          generalize w20.alloc (.cells #[.bool false, .bool false, .int .i64 0, .int .i64 0, .string ⟨#[]⟩, .int .i64 0, .int .i64 0, .string ⟨#[]⟩, .bool false, .bool false, .int .i64 0, .int .i64 0, .string ⟨#[]⟩] 60) = w21 at S30 ⊢
          refine hK.out _ _ ⟨Bag.cs13 S30.out 0 rfl, Bag.cs3 S30.out 1 rfl⟩ (fun hS => ?_)
          clear hK K
          try simp only [zp0, zp1, zp2, zp3, zp4]
          refine Reg.one_op (i := 10) rfl (by kernel_rfl) (fun K hK => ?_)
          go_simp
          have S31 := Lib.hid (show Sl.Sep W _ [L4.boxR (W.heap.size + 1) 83 (U.cs_Cursor y1), L4.boxR W.heap.size 67 (U.cs_Store y0), QQ, Bag.bag zs0.rows, Bag.bag (U.rows1 zr1), L4.boxR gb0 60 U.cz_Cursor, L4.boxR w21.heap.size 43 U.cz_Item] from L4.push_box S30.out 43 #[.int .i64 0, .int .i64 0, .string ⟨#[]⟩, .slice none 0 0] w21.heap.size rfl)
          clear S30
          obtain ⟨gb1, hg⟩ : ∃ g', g' = w21.heap.size := ⟨_, rfl⟩
          rw [← hg] at S31 ⊢
          clear hg
          generalize w21.alloc (.cells #[.int .i64 0, .int .i64 0, .string ⟨#[]⟩, .slice none 0 0] 43) = w22 at S31 ⊢
          refine hK.out _ _ ⟨Bag.cs13 S31.out 0 rfl, Bag.cs3 S31.out 1 rfl⟩ (fun hS => ?_)
          clear hK K
          try simp only [zp0, zp1, zp2, zp3, zp4]
          have S32 := Lib.hid (show Sl.Sep W _ [L4.boxR (W.heap.size + 1) 83 (U.cs_Cursor y1), L4.boxR W.heap.size 67 (U.cs_Store y0), QQ, Bag.bag (U.rows1 zr1), L4.boxR gb0 60 U.cz_Cursor, L4.boxR gb1 43 U.cz_Item] from Bag.take S31.out [0, 1, 2, 4, 5, 6] (by rfl) (by decide))
          clear S31
          revert S32
          revert HZzr1
          revert hS
          exact hrest gb0 gb1 zr1 zs0 w22
          refine Reg.cons_op (i := 10) rfl (fun K hK => ?_) ?_
          go_simp
          have S30 := Lib.hid (show Sl.Sep W _ [L4.boxR (W.heap.size + 1) 83 (U.cs_Cursor y1), L4.boxR W.heap.size 67 (U.cs_Store y0), QQ, Bag.bag zs0.rows, Bag.bag (U.rows1 zr1), L4.boxR w20.heap.size 43 U.cz_Item] from L4.push_box S29.out 43 #[.int .i64 0, .int .i64 0, .string ⟨#[]⟩, .slice none 0 0] w20.heap.size rfl)
          clear S29
          obtain ⟨gb1, hg⟩ : ∃ g', g' = w20.heap.size := ⟨_, rfl⟩
          rw [← hg] at S30 ⊢
          clear hg
          generalize w20.alloc (.cells #[.int .i64 0, .int .i64 0, .string ⟨#[]⟩, .slice none 0 0] 43) = w21 at S30 ⊢
          refine hK.out _ _ ⟨Bag.cs13 S30.out 0 rfl, Bag.cs3 S30.out 1 rfl⟩ (fun hS => ?_)
          clear hK K
          try simp only [zp0, zp1, zp2, zp3, zp4]
          refine Reg.one_op (i := 9) rfl (by kernel_rfl) (fun K hK => ?_)
          go_simp
          have S31 := Lib.hid (show Sl.Sep W _ [L4.boxR (W.heap.size + 1) 83 (U.cs_Cursor y1), L4.boxR W.heap.size 67 (U.cs_Store y0), QQ, Bag.bag zs0.rows, Bag.bag (U.rows1 zr1), L4.boxR gb1 43 U.cz_Item, L4.boxR w21.heap.size 60 U.cz_Cursor] from L4.push_box S30.out 60 #[.bool false, .bool false, .int .i64 0, .int .i64 0, .string ⟨#[]⟩, .int .i64 0, .int .i64 0, .string ⟨#[]⟩, .bool false, .bool false, .int .i64 0, .int .i64 0, .string ⟨#[]⟩] w21.heap.size rfl)
          clear S30
          obtain ⟨gb0, hg⟩ : ∃ g', g' = w21.heap.size := ⟨_, rfl⟩
          rw [← hg] at S31 ⊢
          clear hg
          generalize w21.alloc (.cells #[.bool false, .bool false, .int .i64 0, .int .i64 0, .string ⟨#[]⟩, .int .i64 0, .int .i64 0, .string ⟨#[]⟩, .bool false, .bool false, .int .i64 0, .int .i64 0, .string ⟨#[]⟩] 60) = w22 at S31 ⊢
          refine hK.out _ _ ⟨Bag.cs13 S31.out 0 rfl, Bag.cs3 S31.out 1 rfl⟩ (fun hS => ?_)
          clear hK K
          try simp only [zp0, zp1, zp2, zp3, zp4]
          have S32 := Lib.hid (show Sl.Sep W _ [L4.boxR (W.heap.size + 1) 83 (U.cs_Cursor y1), L4.boxR W.heap.size 67 (U.cs_Store y0), QQ, Bag.bag (U.rows1 zr1), L4.boxR gb0 60 U.cz_Cursor, L4.boxR gb1 43 U.cz_Item] from Bag.take S31.out [0, 1, 2, 4, 6, 5] (by rfl) (by decide))
          clear S31
          revert S32
          revert HZzr1
          revert hS
          exact hrest gb0 gb1 zr1 zs0 w22
          exact AllReadyH.nil
          refine Reg.cons_op (i := 9) rfl (fun K hK => ?_) ?_
          go_simp
          have S29 := Lib.hid (show Sl.Sep W _ [L4.boxR (W.heap.size + 1) 83 (U.cs_Cursor y1), L4.boxR W.heap.size 67 (U.cs_Store y0), QQ, Bag.bag zs0.rows, L4.boxR w19.heap.size 60 U.cz_Cursor] from L4.push_box S28.out 60 #[.bool false, .bool false, .int .i64 0, .int .i64 0, .string ⟨#[]⟩, .int .i64 0, .int .i64 0, .string ⟨#[]⟩, .bool false, .bool false, .int .i64 0, .int .i64 0, .string ⟨#[]⟩] w19.heap.size rfl)
          clear S28
          obtain ⟨gb0, hg⟩ : ∃ g', g' = w19.heap.size := ⟨_, rfl⟩
          rw [← hg] at S29 ⊢
          clear hg
          generalize w19.alloc (.cells #[.bool false, .bool false, .int .i64 0, .int .i64 0, .string ⟨#[]⟩, .int .i64 0, .int .i64 0, .string ⟨#[]⟩, .bool false, .bool false, .int .i64 0, .int .i64 0, .string ⟨#[]⟩] 60) = w20 at S29 ⊢
          refine hK.out _ _ ⟨Bag.cs13 S29.out 0 rfl, Bag.cs3 S29.out 1 rfl⟩ (fun hS => ?_)
          clear hK K
          try simp only [zp0, zp1, zp2, zp3, zp4]
          refine wpAnyH_ready (rs := [4, 10]) (by kernel_rfl) (by simp) ?_
          refine Reg.cons_op (i := 4) rfl (fun K hK => ?_) ?_
          go_simp
          go_at_call 36
          refine (Cimpl.out zs0 HZzs0.out _ (Bag.bag_rd S29.out 3 rfl)).mono ?_
          rintro e w21 ⟨zr1, rfl, hcon1, ho, hb⟩
          have S30 := Lib.hid (show Sl.Sep W _ [L4.boxR (W.heap.size + 1) 83 (U.cs_Cursor y1), L4.boxR W.heap.size 67 (U.cs_Store y0), QQ, Bag.bag zs0.rows, L4.boxR gb0 60 U.cz_Cursor, Bag.bag (U.rows1 zr1)] from Bag.push_bag S29.out hb ho)
          clear S29
          clear hb ho
          have HZzr1 := Lib.hid hcon1
          clear hcon1
          go_wp2_with fail
          refine hK.out _ _ ⟨Bag.cs13 S30.out 0 rfl, Bag.cs3 S30.out 1 rfl⟩ (fun hS => ?_)
          clear hK K
          try simp only [zp0, zp1, zp2, zp3, zp4]
          refine tk 5 rfl ?_
          try simp only [zp0, zp1, zp2, zp3, zp4]
          refine tk 6 rfl ?_
          try simp only [zp0, zp1, zp2, zp3, zp4]
          refine tk 7 rfl ?_
          try simp only [zp0, zp1, zp2, zp3, zp4]
          refine tk 8 rfl ?_
          try simp only [zp0, zp1, zp2, zp3, zp4]
          refine Reg.one_op (i := 10) rfl (by kernel_rfl) (fun K hK => ?_)
          go_simp
          have S31 := Lib.hid (show Sl.Sep W _ [L4.boxR (W.heap.size + 1) 83 (U.cs_Cursor y1), L4.boxR W.heap.size 67 (U.cs_Store y0), QQ, Bag.bag zs0.rows, L4.boxR gb0 60 U.cz_Cursor, Bag.bag (U.rows1 zr1), L4.boxR w21.heap.size 43 U.cz_Item] from L4.push_box S30.out 43 #[.int .i64 0, .int .i64 0, .string ⟨#[]⟩, .slice none 0 0] w21.heap.size rfl)
          clear S30
          obtain ⟨gb1, hg⟩ : ∃ g', g' = w21.heap.size := ⟨_, rfl⟩
          rw [← hg] at S31 ⊢
          clear hg
          generalize w21.alloc (.cells #[.int .i64 0, .int .i64 0, .string ⟨#[]⟩, .slice none 0 0] 43) = w22 at S31 ⊢
          refine hK.out _ _ ⟨Bag.cs13 S31.out 0 rfl, Bag.cs3 S31.out 1 rfl⟩ (fun hS => ?_)
          clear hK K
          try simp only [zp0, zp1, zp2, zp3, zp4]
          have S32 := Lib.hid (show Sl.Sep W _ [L4.boxR (W.heap.size + 1) 83 (U.cs_Cursor y1), L4.boxR W.heap.size 67 (U.cs_Store y0), QQ, Bag.bag (U.rows1 zr1), L4.boxR gb0 60 U.cz_Cursor, L4.boxR gb1 43 U.cz_Item] from Bag.take S31.out [0, 1, 2, 5, 4, 6] (by rfl) (by decide))
          clear S31
          revert S32
          revert HZzr1
          revert hS
          exact hrest gb0 gb1 zr1 zs0 w22
          refine Reg.cons_op (i := 10) rfl (fun K hK => ?_) ?_
          go_simp
          have S30 := Lib.hid (show Sl.Sep W _ [L4.boxR (W.heap.size + 1) 83 (U.cs_Cursor y1), L4.boxR W.heap.size 67 (U.cs_Store y0), QQ, Bag.bag zs0.rows, L4.boxR gb0 60 U.cz_Cursor, L4.boxR w20.heap.size 43 U.cz_Item] from L4.push_box S29.out 43 #[.int .i64 0, .int .i64 0, .string ⟨#[]⟩, .slice none 0 0] w20.heap.size rfl)
          clear S29
          obtain ⟨gb1, hg⟩ : ∃ g', g' = w20.heap.size := ⟨_, rfl⟩
          rw [← hg] at S30 ⊢
          clear hg
          generalize w20.alloc (.cells #[.int .i64 0, .int .i64 0, .string ⟨#[]⟩, .slice none 0 0] 43) = w21 at S30 ⊢
          refine hK.out _ _ ⟨Bag.cs13 S30.out 0 rfl, Bag.cs3 S30.out 1 rfl⟩ (fun hS => ?_)
          clear hK K
          try simp only [zp0, zp1, zp2, zp3, zp4]
          refine Reg.one_op (i := 4) rfl (by kernel_rfl) (fun K hK => ?_)
          go_simp
          go_at_call 36
          refine (Cimpl.out zs0 HZzs0.out _ (Bag.bag_rd S30.out 3 rfl)).mono ?_
          rintro e w22 ⟨zr1, rfl, hcon1, ho, hb⟩
          have S31 := Lib.hid (show Sl.Sep W _ [L4.boxR (W.heap.size + 1) 83 (U.cs_Cursor y1), L4.boxR W.heap.size 67 (U.cs_Store y0), QQ, Bag.bag zs0.rows, L4.boxR gb0 60 U.cz_Cursor, L4.boxR gb1 43 U.cz_Item, Bag.bag (U.rows1 zr1)] from Bag.push_bag S30.out hb ho)
          clear S30
          clear hb ho
          have HZzr1 := Lib.hid hcon1
          clear hcon1
          go_wp2_with fail
          refine hK.out _ _ ⟨Bag.cs13 S31.out 0 rfl, Bag.cs3 S31.out 1 rfl⟩ (fun hS => ?_)
          clear hK K
          try simp only [zp0, zp1, zp2, zp3, zp4]
          refine tk 5 rfl ?_
          try simp only [zp0, zp1, zp2, zp3, zp4]
          refine tk 6 rfl ?_
          try simp only [zp0, zp1, zp2, zp3, zp4]
          refine tk 7 rfl ?_
          try simp only [zp0, zp1, zp2, zp3, zp4]
          refine tk 8 rfl ?_
          try simp only [zp0, zp1, zp2, zp3, zp4]
          have S32 := Lib.hid (show Sl.Sep W _ [L4.boxR (W.heap.size + 1) 83 (U.cs_Cursor y1), L4.boxR W.heap.size 67 (U.cs_Store y0), QQ, Bag.bag (U.rows1 zr1), L4.boxR gb0 60 U.cz_Cursor, L4.boxR gb1 43 U.cz_Item] from Bag.take S31.out [0, 1, 2, 6, 4, 5] (by rfl) (by decide))
          clear S31
          revert S32
          revert HZzr1
          revert hS
          exact hrest gb0 gb1 zr1 zs0 w22
          exact AllReadyH.nil
          refine Reg.cons_op (i := 10) rfl (fun K hK => ?_) ?_
          go_simp
          have S29 := Lib.hid (show Sl.Sep W _ [L4.boxR (W.heap.size + 1) 83 (U.cs_Cursor y1), L4.boxR W.heap.size 67 (U.cs_Store y0), QQ, Bag.bag zs0.rows, L4.boxR w19.heap.size 43 U.cz_Item] from L4.push_box S28.out 43 #[.int .i64 0, .int .i64 0, .string ⟨#[]⟩, .slice none 0 0] w19.heap.size rfl)
          clear S28
          obtain ⟨gb1, hg⟩ : ∃ g', g' = w19.heap.size := ⟨_, rfl⟩
          rw [← hg] at S29 ⊢
          clear hg
          generalize w19.alloc (.cells #[.int .i64 0, .int .i64 0, .string ⟨#[]⟩, .slice none 0 0] 43) = w20 at S29 ⊢
          refine hK.out _ _ ⟨Bag.cs13 S29.out 0 rfl, Bag.cs3 S29.out 1 rfl⟩ (fun hS => ?_)
          clear hK K
          try simp only [zp0, zp1, zp2, zp3, zp4]
          refine wpAnyH_ready (rs := [4, 9]) (by kernel_rfl) (by simp) ?_
          refine Reg.cons_op (i := 4) rfl (fun K hK => ?_) ?_
          go_simp
          go_at_call 36
          refine (Cimpl.out zs0 HZzs0.out _ (Bag.bag_rd S29.out 3 rfl)).mono ?_
          rintro e w21 ⟨zr1, rfl, hcon1, ho, hb⟩
          have S30 := Lib.hid (show Sl.Sep W _ [L4.boxR (W.heap.size + 1) 83 (U.cs_Cursor y1), L4.boxR W.heap.size 67 (U.cs_Store y0), QQ, Bag.bag zs0.rows, L4.boxR gb1 43 U.cz_Item, Bag.bag (U.rows1 zr1)] from Bag.push_bag S29.out hb ho)
          clear S29
          clear hb ho
          have HZzr1 := Lib.hid hcon1
          clear hcon1
          go_wp2_with fail
          refine hK.out _ _ ⟨Bag.cs13 S30.out 0 rfl, Bag.cs3 S30.out 1 rfl⟩ (fun hS => ?_)
          clear hK K
          try simp only [zp0, zp1, zp2, zp3, zp4]
          refine tk 5 rfl ?_
          try simp only [zp0, zp1, zp2, zp3, zp4]
          refine tk 6 rfl ?_
          try simp only [zp0, zp1, zp2, zp3, zp4]
          refine tk 7 rfl ?_
          try simp only [zp0, zp1, zp2, zp3, zp4]
          refine tk 8 rfl ?_
          try simp only [zp0, zp1, zp2, zp3, zp4]
          refine Reg.one_op (i := 9) rfl (by kernel_rfl) (fun K hK => ?_)
          go_simp
          have S31 := Lib.hid (show Sl.Sep W _ [L4.boxR (W.heap.size + 1) 83 (U.cs_Cursor y1), L4.boxR W.heap.size 67 (U.cs_Store y0), QQ, Bag.bag zs0.rows, L4.boxR gb1 43 U.cz_Item, Bag.bag (U.rows1 zr1), L4.boxR w21.heap.size 60 U.cz_Cursor] from L4.push_box S30.out 60 #[.bool false, .bool false, .int .i64 0, .int .i64 0, .string ⟨#[]⟩, .int .i64 0, .int .i64 0, .string ⟨#[]⟩, .bool false, .bool false, .int .i64 0, .int .i64 0, .string ⟨#[]⟩] w21.heap.size rfl)
          clear S30
          obtain ⟨gb0, hg⟩ : ∃ g', g' = w21.heap.size := ⟨_, rfl⟩
          rw [← hg] at S31 ⊢
          clear hg
          generalize w21.alloc (.cells #[.bool false, .bool false, .int .i64 0, .int .i64 0, .string ⟨#[]⟩, .int .i64 0, .int .i64 0, .string ⟨#[]⟩, .bool false, .bool false, .int .i64 0, .int .i64 0, .string ⟨#[]⟩] 60) = w22 at S31 ⊢
          refine hK.out _ _ ⟨Bag.cs13 S31.out 0 rfl, Bag.cs3 S31.out 1 rfl⟩ (fun hS => ?_)
          clear hK K
          try simp only [zp0, zp1, zp2, zp3, zp4]
          have S32 := Lib.hid (show Sl.Sep W _ [L4.boxR (W.heap.size + 1) 83 (U.cs_Cursor y1), L4.boxR W.heap.size 67 (U.cs_Store y0), QQ, Bag.bag (U.rows1 zr1), L4.boxR gb0 60 U.cz_Cursor, L4.boxR gb1 43 U.cz_Item] from Bag.take S31.out [0, 1, 2, 5, 6, 4] (by rfl) (by decide))
          clear S31
          revert S32
          revert HZzr1
          revert hS
          exact hrest gb0 gb1 zr1 zs0 w22
          refine Reg.cons_op (i := 9) rfl (fun K hK => ?_) ?_
          go_simp
          have S30 := Lib.hid (show Sl.Sep W _ [L4.boxR (W.heap.size + 1) 83 (U.cs_Cursor y1), L4.boxR W.heap.size 67 (U.cs_Store y0), QQ, Bag.bag zs0.rows, L4.boxR gb1 43 U.cz_Item, L4.boxR w20.heap.size 60 U.cz_Cursor] from L4.push_box S29.out 60 #[.bool false, .bool false, .int .i64 0, .int .i64 0, .string ⟨#[]⟩, .int .i64 0, .int .i64 0, .string ⟨#[]⟩, .bool false, .bool false, .int .i64 0, .int .i64 0, .string ⟨#[]⟩] w20.heap.size rfl)
          clear S29
          obtain ⟨gb0, hg⟩ : ∃ g', g' = w20.heap.size := ⟨_, rfl⟩
          rw [← hg] at S30 ⊢
          clear hg
          generalize w20.alloc (.cells #[.bool false, .bool false, .int .i64 0, .int .i64 0, .string ⟨#[]⟩, .int .i64 0, .int .i64 0, .string ⟨#[]⟩, .bool false, .bool false, .int .i64 0, .int .i64 0, .string ⟨#[]⟩] 60) = w21 at S30 ⊢
          refine hK.out _ _ ⟨Bag.cs13 S30.out 0 rfl, Bag.cs3 S30.out 1 rfl⟩ (fun hS => ?_)
          clear hK K
          try simp only [zp0, zp1, zp2, zp3, zp4]
          refine Reg.one_op (i := 4) rfl (by kernel_rfl) (fun K hK => ?_)
          go_simp
          go_at_call 36
          refine (Cimpl.out zs0 HZzs0.out _ (Bag.bag_rd S30.out 3 rfl)).mono ?_
          rintro e w22 ⟨zr1, rfl, hcon1, ho, hb⟩
          have S31 := Lib.hid (show Sl.Sep W _ [L4.boxR (W.heap.size + 1) 83 (U.cs_Cursor y1), L4.boxR W.heap.size 67 (U.cs_Store y0), QQ, Bag.bag zs0.rows, L4.boxR gb1 43 U.cz_Item, L4.boxR gb0 60 U.cz_Cursor, Bag.bag (U.rows1 zr1)] from Bag.push_bag S30.out hb ho)
          clear S30
          clear hb ho
          have HZzr1 := Lib.hid hcon1
          clear hcon1
          go_wp2_with fail
          refine hK.out _ _ ⟨Bag.cs13 S31.out 0 rfl, Bag.cs3 S31.out 1 rfl⟩ (fun hS => ?_)
          clear hK K
          try simp only [zp0, zp1, zp2, zp3, zp4]
          refine tk 5 rfl ?_
          try simp only [zp0, zp1, zp2, zp3, zp4]
          refine tk 6 rfl ?_
          try simp only [zp0, zp1, zp2, zp3, zp4]
          refine tk 7 rfl ?_
          try simp only [zp0, zp1, zp2, zp3, zp4]
          refine tk 8 rfl ?_
          try simp only [zp0, zp1, zp2, zp3, zp4]
          have S32 := Lib.hid (show Sl.Sep W _ [L4.boxR (W.heap.size + 1) 83 (U.cs_Cursor y1), L4.boxR W.heap.size 67 (U.cs_Store y0), QQ, Bag.bag (U.rows1 zr1), L4.boxR gb0 60 U.cz_Cursor, L4.boxR gb1 43 U.cz_Item] from Bag.take S31.out [0, 1, 2, 6, 5, 4] (by rfl) (by decide))
          clear S31
          revert S32
          revert HZzr1
          revert hS
          exact hrest gb0 gb1 zr1 zs0 w22
          exact AllReadyH.nil
          exact AllReadyH.nil
          refine Reg.cons_op (i := 9) rfl (fun K hK => ?_) ?_
          go_simp
          have S28 := Lib.hid (show Sl.Sep W _ [L4.boxR (W.heap.size + 1) 83 (U.cs_Cursor y1), L4.boxR W.heap.size 67 (U.cs_Store y0), QQ, Bag.bag zs0.rows, L4.boxR w18.heap.size 60 U.cz_Cursor] from L4.push_box S27.out 60 #[.bool false, .bool false, .int .i64 0, .int .i64 0, .string ⟨#[]⟩, .int .i64 0, .int .i64 0, .string ⟨#[]⟩, .bool false, .bool false, .int .i64 0, .int .i64 0, .string ⟨#[]⟩] w18.heap.size rfl)
          clear S27
          obtain ⟨gb0, hg⟩ : ∃ g', g' = w18.heap.size := ⟨_, rfl⟩
          rw [← hg] at S28 ⊢
          clear hg
          generalize w18.alloc (.cells #[.bool false, .bool false, .int .i64 0, .int .i64 0, .string ⟨#[]⟩, .int .i64 0, .int .i64 0, .string ⟨#[]⟩, .bool false, .bool false, .int .i64 0, .int .i64 0, .string ⟨#[]⟩] 60) = w19 at S28 ⊢
          refine hK.out _ _ ⟨Bag.cs13 S28.out 0 rfl, Bag.cs3 S28.out 1 rfl⟩ (fun hS => ?_)
          clear hK K
          try simp only [zp0, zp1, zp2, zp3, zp4]
          refine wpAnyH_ready (rs := [3, 10]) (by kernel_rfl) (by simp) ?_
          refine Reg.cons_op (i := 3) rfl (fun K hK => ?_) ?_
          go_simp
          go_at_call 51
          refine (HTO1.out w19 S28.out.old).mono ?_
          rintro e w20 ⟨rfl, hb⟩
          have S29 := Lib.hid (S28.out.keep hb)
          clear S28
          clear hb
          go_wp2_with fail
          refine hK.out _ _ ⟨Bag.cs13 S29.out 0 rfl, Bag.cs3 S29.out 1 rfl⟩ (fun hS => ?_)
          clear hK K
          try simp only [zp0, zp1, zp2, zp3, zp4]
          refine wpAnyH_ready (rs := [4, 10]) (by kernel_rfl) (by simp) ?_
          refine Reg.cons_op (i := 4) rfl (fun K hK => ?_) ?_
          go_simp
          go_at_call 36
          refine (Cimpl.out zs0 HZzs0.out _ (Bag.bag_rd S29.out 3 rfl)).mono ?_
          rintro e w21 ⟨zr1, rfl, hcon1, ho, hb⟩
          have S30 := Lib.hid (show Sl.Sep W _ [L4.boxR (W.heap.size + 1) 83 (U.cs_Cursor y1), L4.boxR W.heap.size 67 (U.cs_Store y0), QQ, Bag.bag zs0.rows, L4.boxR gb0 60 U.cz_Cursor, Bag.bag (U.rows1 zr1)] from Bag.push_bag S29.out hb ho)
          clear S29
          clear hb ho
          have HZzr1 := Lib.hid hcon1
          clear hcon1
          go_wp2_with fail
          refine hK.out _ _ ⟨Bag.cs13 S30.out 0 rfl, Bag.cs3 S30.out 1 rfl⟩ (fun hS => ?_)
          clear hK K
          try simp only [zp0, zp1, zp2, zp3, zp4]
          refine tk 5 rfl ?_
          try simp only [zp0, zp1, zp2, zp3, zp4]
          refine tk 6 rfl ?_
          try simp only [zp0, zp1, zp2, zp3, zp4]
          refine tk 7 rfl ?_
          try simp only [zp0, zp1, zp2, zp3, zp4]
          refine tk 8 rfl ?_
          try simp only [zp0, zp1, zp2, zp3, zp4]
          refine Reg.one_op (i := 10) rfl (by kernel_rfl) (fun K hK => ?_)
          go_simp
          have S31 := Lib.hid (show Sl.Sep W _ [L4.boxR (W.heap.size + 1) 83 (U.cs_Cursor y1), L4.boxR W.heap.size 67 (U.cs_Store y0), QQ, Bag.bag zs0.rows, L4.boxR gb0 60 U.cz_Cursor, Bag.bag (U.rows1 zr1), L4.boxR w21.heap.size 43 U.cz_Item] from L4.push_box S30.out 43 #[.int .i64 0, .int .i64 0, .string ⟨#[]⟩, .slice none 0 0] w21.heap.size rfl)
          clear S30
          obtain ⟨gb1, hg⟩ : ∃ g', g' = w21.heap.size := ⟨_, rfl⟩
          rw [← hg] at S31 ⊢
          clear hg
          generalize w21.alloc (.cells #[.int .i64 0, .int .i64 0, .string ⟨#[]⟩, .slice none 0 0] 43) = w22 at S31 ⊢
          refine hK.out _ _ ⟨Bag.cs13 S31.out 0 rfl, Bag.cs3 S31.out 1 rfl⟩ (fun hS => ?_)
          clear hK K
          try simp only [zp0, zp1, zp2, zp3, zp4]
          have S32 := Lib.hid (show Sl.Sep W _ [L4.boxR (W.heap.size + 1) 83 (U.cs_Cursor y1), L4.boxR W.heap.size 67 (U.cs_Store y0), QQ, Bag.bag (U.rows1 zr1), L4.boxR gb0 60 U.cz_Cursor, L4.boxR gb1 43 U.cz_Item] from Bag.take S31.out [0, 1, 2, 5, 4, 6] (by rfl) (by decide))
          clear S31
          revert S32
          revert HZzr1
          revert hS
          exact hrest gb0 gb1 zr1 zs0 w22
          refine Reg.cons_op (i := 10) rfl (fun K hK => ?_) ?_
          go_simp
          have S30 := Lib.hid (show Sl.Sep W _ [L4.boxR (W.heap.size + 1) 83 (U.cs_Cursor y1), L4.boxR W.heap.size 67 (U.cs_Store y0), QQ, Bag.bag zs0.rows, L4.boxR gb0 60 U.cz_Cursor, L4.boxR w20.heap.size 43 U.cz_Item] from L4.push_box S29.out 43 #[.int .i64 0, .int .i64 0, .string ⟨#[]⟩, .slice none 0 0] w20.heap.size rfl)
          clear S29
          obtain ⟨gb1, hg⟩ : ∃ g', g' = w20.heap.size := ⟨_, rfl⟩
          rw [← hg] at S30 ⊢
          clear hg
          generalize w20.alloc (.cells #[.int .i64 0, .int .i64 0, .string ⟨#[]⟩, .slice none 0 0] 43) = w21 at S30 ⊢
          refine hK.out _ _ ⟨Bag.cs13 S30.out 0 rfl, Bag.cs3 S30.out 1 rfl⟩ (fun hS => ?_)
          clear hK K
          try simp only [zp0, zp1, zp2, zp3, zp4]
          refine Reg.one_op (i := 4) rfl (by kernel_rfl) (fun K hK => ?_)
          go_simp
          go_at_call 36
          refine (Cimpl.out zs0 HZzs0.out _ (Bag.bag_rd S30.out 3 rfl)).mono ?_
          rintro e w22 ⟨zr1, rfl, hcon1, ho, hb⟩
          have S31 := Lib.hid (show Sl.Sep W _ [L4.boxR (W.heap.size + 1) 83 (U.cs_Cursor y1), L4.boxR W.heap.size 67 (U.cs_Store y0), QQ, Bag.bag zs0.rows, L4.boxR gb0 60 U.cz_Cursor, L4.boxR gb1 43 U.cz_Item, Bag.bag (U.rows1 zr1)] from Bag.push_bag S30.out hb ho)
          clear S30
          clear hb ho
          have HZzr1 := Lib.hid hcon1
          clear hcon1
          go_wp2_with fail
          refine hK.out _ _ ⟨Bag.cs13 S31.out 0 rfl, Bag.cs3 S31.out 1 rfl⟩ (fun hS => ?_)
          clear hK K
          try simp only [zp0, zp1, zp2, zp3, zp4]
          refine tk 5 rfl ?_
          try simp only [zp0, zp1, zp2, zp3, zp4]
          refine tk 6 rfl ?_
          try simp only [zp0, zp1, zp2, zp3, zp4]
          refine tk 7 rfl ?_
          try simp only [zp0, zp1, zp2, zp3, zp4]
          refine tk 8 rfl ?_
          try simp only [zp0, zp1, zp2, zp3, zp4]
          have S32 := Lib.hid (show Sl.Sep W _ [L4.boxR (W.heap.size + 1) 83 (U.cs_Cursor y1), L4.boxR W.heap.size 67 (U.cs_Store y0), QQ, Bag.bag (U.rows1 zr1), L4.boxR gb0 60 U.cz_Cursor, L4.boxR gb1 43 U.cz_Item] from Bag.take S31.out [0, 1, 2, 6, 4, 5] (by rfl) (by decide))
          clear S31
          revert S32
          revert HZzr1
          revert hS
          exact hrest gb0 gb1 zr1 zs0 w22
          exact AllReadyH.nil
          refine Reg.cons_op (i := 10) rfl (fun K hK => ?_) ?_
          go_simp
          have S29 := Lib.hid (show Sl.Sep W _ [L4.boxR (W.heap.size + 1) 83 (U.cs_Cursor y1), L4.boxR W.heap.size 67 (U.cs_Store y0), QQ, Bag.bag zs0.rows, L4.boxR gb0 60 U.cz_Cursor, L4.boxR w19.heap.size 43 U.cz_Item] from L4.push_box S28.out 43 #[.int .i64 0, .int .i64 0, .string ⟨#[]⟩, .slice none 0 0] w19.heap.size rfl)
          clear S28
          obtain ⟨gb1, hg⟩ : ∃ g', g' = w19.heap.size := ⟨_, rfl⟩
          rw [← hg] at S29 ⊢
          clear hg
          generalize w19.alloc (.cells #[.int .i64 0, .int .i64 0, .string ⟨#[]⟩, .slice none 0 0] 43) = w20 at S29 ⊢
          refine hK.out _ _ ⟨Bag.cs13 S29.out 0 rfl, Bag.cs3 S29.out 1 rfl⟩ (fun hS => ?_)
          clear hK K
          try simp only [zp0, zp1, zp2, zp3, zp4]
          refine Reg.one_op (i := 3) rfl (by kernel_rfl) (fun K hK => ?_)
          go_simp
          go_at_call 51
          refine (HTO1.out w20 S29.out.old).mono ?_
          rintro e w21 ⟨rfl, hb⟩
          have S30 := Lib.hid (S29.out.keep hb)
          clear S29
          clear hb
          go_wp2_with fail
          refine hK.out _ _ ⟨Bag.cs13 S30.out 0 rfl, Bag.cs3 S30.out 1 rfl⟩ (fun hS => ?_)
          clear hK K
          try simp only [zp0, zp1, zp2, zp3, zp4]
          refine Reg.one_op (i := 4) rfl (by kernel_rfl) (fun K hK => ?_)
          go_simp
          go_at_call 36
          refine (Cimpl.out zs0 HZzs0.out _ (Bag.bag_rd S30.out 3 rfl)).mono ?_
          rintro e w22 ⟨zr1, rfl, hcon1, ho, hb⟩
          have S31 := Lib.hid (show Sl.Sep W _ [L4.boxR (W.heap.size + 1) 83 (U.cs_Cursor y1), L4.boxR W.heap.size 67 (U.cs_Store y0), QQ, Bag.bag zs0.rows, L4.boxR gb0 60 U.cz_Cursor, L4.boxR gb1 43 U.cz_Item, Bag.bag (U.rows1 zr1)] from Bag.push_bag S30.out hb ho)
          clear S30
          clear hb ho
          have HZzr1 := Lib.hid hcon1
          clear hcon1
          go_wp2_with fail
          refine hK.out _ _ ⟨Bag.cs13 S31.out 0 rfl, Bag.cs3 S31.out 1 rfl⟩ (fun hS => ?_)
          clear hK K
          try simp only [zp0, zp1, zp2, zp3, zp4]
          refine tk 5 rfl ?_
          try simp only [zp0, zp1, zp2, zp3, zp4]
          refine tk 6 rfl ?_
          try simp only [zp0, zp1, zp2, zp3, zp4]
          refine tk 7 rfl ?_
          try simp only [zp0, zp1, zp2, zp3, zp4]
          refine tk 8 rfl ?_
          try simp only [zp0, zp1, zp2, zp3, zp4]
          have S32 := Lib.hid (show Sl.Sep W _ [L4.boxR (W.heap.size + 1) 83 (U.cs_Cursor y1), L4.boxR W.heap.size 67 (U.cs_Store y0), QQ, Bag.bag (U.rows1 zr1), L4.boxR gb0 60 U.cz_Cursor, L4.boxR gb1 43 U.cz_Item] from Bag.take S31.out [0, 1, 2, 6, 4, 5] (by rfl) (by decide))
          clear S31
          revert S32
          revert HZzr1
          revert hS
          exact hrest gb0 gb1 zr1 zs0 w22
          exact AllReadyH.nil
          refine Reg.cons_op (i := 10) rfl (fun K hK => ?_) ?_
          go_simp
          have S28 := Lib.hid (show Sl.Sep W _ [L4.boxR (W.heap.size + 1) 83 (U.cs_Cursor y1), L4.boxR W.heap.size 67 (U.cs_Store y0), QQ, Bag.bag zs0.rows, L4.boxR w18.heap.size 43 U.cz_Item] from L4.push_box S27.out 43 #[.int .i64 0, .int .i64 0, .string ⟨#[]⟩, .slice none 0 0] w18.heap.size rfl)
          clear S27
          obtain ⟨gb1, hg⟩ : ∃ g', g' = w18.heap.size := ⟨_, rfl⟩
          rw [← hg] at S28 ⊢
          clear hg
          generalize w18.alloc (.cells #[.int .i64 0, .int .i64 0, .string ⟨#[]⟩, .slice none 0 0] 43) = w19 at S28 ⊢
          refine hK.out _ _ ⟨Bag.cs13 S28.out 0 rfl, Bag.cs3 S28.out 1 rfl⟩ (fun hS => ?_)
          clear hK K
          try simp only [zp0, zp1, zp2, zp3, zp4]
          refine wpAnyH_ready (rs := [3, 9]) (by kernel_rfl) (by simp) ?_
          refine Reg.cons_op (i := 3) rfl (fun K hK => ?_) ?_
          go_simp
          go_at_call 51
          refine (HTO1.out w19 S28.out.old).mono ?_
          rintro e w20 ⟨rfl, hb⟩
          have S29 := Lib.hid (S28.out.keep hb)
          clear S28
          clear hb
          go_wp2_with fail
          refine hK.out _ _ ⟨Bag.cs13 S29.out 0 rfl, Bag.cs3 S29.out 1 rfl⟩ (fun hS => ?_)
          clear hK K
          try simp only [zp0, zp1, zp2, zp3, zp4]
          refine wpAnyH_ready (rs := [4, 9]) (by kernel_rfl) (by simp) ?_
          refine Reg.cons_op (i := 4) rfl (fun K hK => ?_) ?_
          go_simp
          go_at_call 36
          refine (Cimpl.out zs0 HZzs0.out _ (Bag.bag_rd S29.out 3 rfl)).mono ?_
          rintro e w21 ⟨zr1, rfl, hcon1, ho, hb⟩
          have S30 := Lib.hid (show Sl.Sep W _ [L4.boxR (W.heap.size + 1) 83 (U.cs_Cursor y1), L4.boxR W.heap.size 67 (U.cs_Store y0), QQ, Bag.bag zs0.rows, L4.boxR gb1 43 U.cz_Item, Bag.bag (U.rows1 zr1)] from Bag.push_bag S29.out hb ho)
          clear S29
          clear hb ho
          have HZzr1 := Lib.hid hcon1
          clear hcon1
          go_wp2_with fail
          refine hK.out _ _ ⟨Bag.cs13 S30.out 0 rfl, Bag.cs3 S30.out 1 rfl⟩ (fun hS => ?_)
          clear hK K
          try simp only [zp0, zp1, zp2, zp3, zp4]
          refine tk 5 rfl ?_
          try simp only [zp0, zp1, zp2, zp3, zp4]
          refine tk 6 rfl ?_
          try simp only [zp0, zp1, zp2, zp3, zp4]
          refine tk 7 rfl ?_
          try simp only [zp0, zp1, zp2, zp3, zp4]
          refine tk 8 rfl ?_
          try simp only [zp0, zp1, zp2, zp3, zp4]
          refine Reg.one_op (i := 9) rfl (by kernel_rfl) (fun K hK => ?_)
          go_simp
          have S31 := Lib.hid (show Sl.Sep W _ [L4.boxR (W.heap.size + 1) 83 (U.cs_Cursor y1), L4.boxR W.heap.size 67 (U.cs_Store y0), QQ, Bag.bag zs0.rows, L4.boxR gb1 43 U.cz_Item, Bag.bag (U.rows1 zr1), L4.boxR w21.heap.size 60 U.cz_Cursor] from L4.push_box S30.out 60 #[.bool false, .bool false, .int .i64 0, .int .i64 0, .string ⟨#[]⟩, .int .i64 0, .int .i64 0, .string ⟨#[]⟩, .bool false, .bool false, .int .i64 0, .int .i64 0, .string ⟨#[]⟩] w21.heap.size rfl)
          clear S30
          obtain ⟨gb0, hg⟩ : ∃ g', g' = w21.heap.size := ⟨_, rfl⟩
          rw [← hg] at S31 ⊢
          clear hg
          generalize w21.alloc (.cells #[.bool false, .bool false, .int .i64 0, .int .i64 0, .string ⟨#[]⟩, .int .i64 0, .int .i64 0, .string ⟨#[]⟩, .bool false, .bool false, .int .i64 0, .int .i64 0, .string ⟨#[]⟩] 60) = w22 at S31 ⊢
          refine hK.out _ _ ⟨Bag.cs13 S31.out 0 rfl, Bag.cs3 S31.out 1 rfl⟩ (fun hS => ?_)
          clear hK K
          try simp only [zp0, zp1, zp2, zp3, zp4]
          have S32 := Lib.hid (show Sl.Sep W _ [L4.boxR (W.heap.size + 1) 83 (U.cs_Cursor y1), L4.boxR W.heap.size 67 (U.cs_Store y0), QQ, Bag.bag (U.rows1 zr1), L4.boxR gb0 60 U.cz_Cursor, L4.boxR gb1 43 U.cz_Item] from Bag.take S31.out [0, 1, 2, 5, 6, 4] (by rfl) (by decide))
          clear S31
          revert S32
          revert HZzr1
          revert hS
          exact hrest gb0 gb1 zr1 zs0 w22
          refine Reg.cons_op (i := 9) rfl (fun K hK => ?_) ?_
          go_simp
          have S30 := Lib.hid (show Sl.Sep W _ [L4.boxR (W.heap.size + 1) 83 (U.cs_Cursor y1), L4.boxR W.heap.size 67 (U.cs_Store y0), QQ, Bag.bag zs0.rows, L4.boxR gb1 43 U.cz_Item, L4.boxR w20.heap.size 60 U.cz_Cursor] from L4.push_box S29.out 60 #[.bool false, .bool false, .int .i64 0, .int .i64 0, .string ⟨#[]⟩, .int .i64 0, .int .i64 0, .string ⟨#[]⟩, .bool false, .bool false, .int .i64 0, .int .i64 0, .string ⟨#[]⟩] w20.heap.size rfl)
          clear S29
          obtain ⟨gb0, hg⟩ : ∃ g', g' = w20.heap.size := ⟨_, rfl⟩
          rw [← hg] at S30 ⊢
          clear hg
          generalize w20.alloc (.cells #[.bool false, .bool false, .int .i64 0, .int .i64 0, .string ⟨#[]⟩, .int .i64 0, .int .i64 0, .string ⟨#[]⟩, .bool false, .bool false, .int .i64 0, .int .i64 0, .string ⟨#[]⟩] 60) = w21 at S30 ⊢
          refine hK.out _ _ ⟨Bag.cs13 S30.out 0 rfl, Bag.cs3 S30.out 1 rfl⟩ (fun hS => ?_)
          clear hK K
          try simp only [zp0, zp1, zp2, zp3, zp4]
          refine Reg.one_op (i := 4) rfl (by kernel_rfl) (fun K hK => ?_)
          go_simp
          go_at_call 36
          refine (Cimpl.out zs0 HZzs0.out _ (Bag.bag_rd S30.out 3 rfl)).mono ?_
          rintro e w22 ⟨zr1, rfl, hcon1, ho, hb⟩
          have S31 := Lib.hid (show Sl.Sep W _ [L4.boxR (W.heap.size + 1) 83 (U.cs_Cursor y1), L4.boxR W.heap.size 67 (U.cs_Store y0), QQ, Bag.bag zs0.rows, L4.boxR gb1 43 U.cz_Item, L4.boxR gb0 60 U.cz_Cursor, Bag.bag (U.rows1 zr1)] from Bag.push_bag S30.out hb ho)
          clear S30
          clear hb ho
          have HZzr1 := Lib.hid hcon1
          clear hcon1
          go_wp2_with fail
          refine hK.out _ _ ⟨Bag.cs13 S31.out 0 rfl, Bag.cs3 S31.out 1 rfl⟩ (fun hS => ?_)
          clear hK K
          try simp only [zp0, zp1, zp2, zp3, zp4]
          refine tk 5 rfl ?_
          try simp only [zp0, zp1, zp2, zp3, zp4]
          refine tk 6 rfl ?_
          try simp only [zp0, zp1, zp2, zp3, zp4]
          refine tk 7 rfl ?_
          try simp only [zp0, zp1, zp2, zp3, zp4]
          refine tk 8 rfl ?_
          try simp only [zp0, zp1, zp2, zp3, zp4]
          have S32 := Lib.hid (show Sl.Sep W _ [L4.boxR (W.heap.size + 1) 83 (U.cs_Cursor y1), L4.boxR W.heap.size 67 (U.cs_Store y0), QQ, Bag.bag (U.rows1 zr1), L4.boxR gb0 60 U.cz_Cursor, L4.boxR gb1 43 U.cz_Item] from Bag.take S31.out [0, 1, 2, 6, 5, 4] (by rfl) (by decide))
          clear S31
          revert S32
          revert HZzr1
          revert hS
          exact hrest gb0 gb1 zr1 zs0 w22
          exact AllReadyH.nil
          refine Reg.cons_op (i := 9) rfl (fun K hK => ?_) ?_
          go_simp
          have S29 := Lib.hid (show Sl.Sep W _ [L4.boxR (W.heap.size + 1) 83 (U.cs_Cursor y1), L4.boxR W.heap.size 67 (U.cs_Store y0), QQ, Bag.bag zs0.rows, L4.boxR gb1 43 U.cz_Item, L4.boxR w19.heap.size 60 U.cz_Cursor] from L4.push_box S28.out 60 #[.bool false, .bool false, .int .i64 0, .int .i64 0, .string ⟨#[]⟩, .int .i64 0, .int .i64 0, .string ⟨#[]⟩, .bool false, .bool false, .int .i64 0, .int .i64 0, .string ⟨#[]⟩] w19.heap.size rfl)
          clear S28
          obtain ⟨gb0, hg⟩ : ∃ g', g' = w19.heap.size := ⟨_, rfl⟩
          rw [← hg] at S29 ⊢
          clear hg
          generalize w19.alloc (.cells #[.bool false, .bool false, .int .i64 0, .int .i64 0, .string ⟨#[]⟩, .int .i64 0, .int .i64 0, .string ⟨#[]⟩, .bool false, .bool false, .int .i64 0, .int .i64 0, .string ⟨#[]⟩] 60) = w20 at S29 ⊢
          refine hK.out _ _ ⟨Bag.cs13 S29.out 0 rfl, Bag.cs3 S29.out 1 rfl⟩ (fun hS => ?_)
          clear hK K
          try simp only [zp0, zp1, zp2, zp3, zp4]
          refine Reg.one_op (i := 3) rfl (by kernel_rfl) (fun K hK => ?_)
          go_simp
          go_at_call 51
          refine (HTO1.out w20 S29.out.old).mono ?_
          rintro e w21 ⟨rfl, hb⟩
          have S30 := Lib.hid (S29.out.keep hb)
          clear S29
          clear hb
          go_wp2_with fail
          refine hK.out _ _ ⟨Bag.cs13 S30.out 0 rfl, Bag.cs3 S30.out 1 rfl⟩ (fun hS => ?_)
          clear hK K
          try simp only [zp0, zp1, zp2, zp3, zp4]
          refine Reg.one_op (i := 4) rfl (by kernel_rfl) (fun K hK => ?_)
          go_simp
          go_at_call 36
          refine (Cimpl.out zs0 HZzs0.out _ (Bag.bag_rd S30.out 3 rfl)).mono ?_
          rintro e w22 ⟨zr1, rfl, hcon1, ho, hb⟩
          have S31 := Lib.hid (show Sl.Sep W _ [L4.boxR (W.heap.size + 1) 83 (U.cs_Cursor y1), L4.boxR W.heap.size 67 (U.cs_Store y0), QQ, Bag.bag zs0.rows, L4.boxR gb1 43 U.cz_Item, L4.boxR gb0 60 U.cz_Cursor, Bag.bag (U.rows1 zr1)] from Bag.push_bag S30.out hb ho)
          clear S30
          clear hb ho
          have HZzr1 := Lib.hid hcon1
          clear hcon1
          go_wp2_with fail
          refine hK.out _ _ ⟨Bag.cs13 S31.out 0 rfl, Bag.cs3 S31.out 1 rfl⟩ (fun hS => ?_)
          clear hK K
          try simp only [zp0, zp1, zp2, zp3, zp4]
          refine tk 5 rfl ?_
          try simp only [zp0, zp1, zp2, zp3, zp4]
          refine tk 6 rfl ?_
          try simp only [zp0, zp1, zp2, zp3, zp4]
          refine tk 7 rfl ?_
          try simp only [zp0, zp1, zp2, zp3, zp4]
          refine tk 8 rfl ?_
          try simp only [zp0, zp1, zp2, zp3, zp4]
          have S32 := Lib.hid (show Sl.Sep W _ [L4.boxR (W.heap.size + 1) 83 (U.cs_Cursor y1), L4.boxR W.heap.size 67 (U.cs_Store y0), QQ, Bag.bag (U.rows1 zr1), L4.boxR gb0 60 U.cz_Cursor, L4.boxR gb1 43 U.cz_Item] from Bag.take S31.out [0, 1, 2, 6, 5, 4] (by rfl) (by decide))
          clear S31
          revert S32
          revert HZzr1
          revert hS
          exact hrest gb0 gb1 zr1 zs0 w22
          exact AllReadyH.nil
          exact AllReadyH.nil
          refine Reg.cons_op (i := 9) rfl (fun K hK => ?_) ?_
          go_simp
          have S27 := Lib.hid (show Sl.Sep W _ [L4.boxR (W.heap.size + 1) 83 (U.cs_Cursor y1), L4.boxR W.heap.size 67 (U.cs_Store y0), QQ, L4.boxR w17.heap.size 60 U.cz_Cursor] from L4.push_box S26.out 60 #[.bool false, .bool false, .int .i64 0, .int .i64 0, .string ⟨#[]⟩, .int .i64 0, .int .i64 0, .string ⟨#[]⟩, .bool false, .bool false, .int .i64 0, .int .i64 0, .string ⟨#[]⟩] w17.heap.size rfl)
          obtain ⟨gb0, hg⟩ : ∃ g', g' = w17.heap.size := ⟨_, rfl⟩
          rw [← hg] at S27 ⊢
          clear hg
          generalize w17.alloc (.cells #[.bool false, .bool false, .int .i64 0, .int .i64 0, .string ⟨#[]⟩, .int .i64 0, .int .i64 0, .string ⟨#[]⟩, .bool false, .bool false, .int .i64 0, .int .i64 0, .string ⟨#[]⟩] 60) = w18 at S27 ⊢
          refine hK.out _ _ ⟨Bag.cs13 S27.out 0 rfl, Bag.cs3 S27.out 1 rfl⟩ (fun hS => ?_)
          clear hK K
          try simp only [zp0, zp1, zp2, zp3, zp4]
          refine wpAnyH_ready (rs := [1, 10]) (by kernel_rfl) (by simp) ?_
          refine Reg.cons_op (i := 1) rfl (fun K hK => ?_) ?_
          go_simp
          go_at_call 40
          refine (HTO0.out _ S27.out.old).mono ?_
          rintro e w19 ⟨zs0, rfl, hcon, ho, hb⟩
          have S28 := Lib.hid (show Sl.Sep W _ [L4.boxR (W.heap.size + 1) 83 (U.cs_Cursor y1), L4.boxR W.heap.size 67 (U.cs_Store y0), QQ, L4.boxR gb0 60 U.cz_Cursor, Bag.bag zs0.rows] from Bag.push_bag S27.out hb ho)
          clear S27
          clear hb ho
          have HZzs0 := Lib.hid (hcon.trans HC0.out)
          clear hcon
          go_wp2_with fail
          refine hK.out _ _ ⟨Bag.cs13 S28.out 0 rfl, Bag.cs3 S28.out 1 rfl⟩ (fun hS => ?_)
          clear hK K
          try simp only [zp0, zp1, zp2, zp3, zp4]
          refine wpAnyH_ready (rs := [3, 10]) (by kernel_rfl) (by simp) ?_
          refine Reg.cons_op (i := 3) rfl (fun K hK => ?_) ?_
          go_simp
          go_at_call 51
          refine (HTO1.out w19 S28.out.old).mono ?_
          rintro e w20 ⟨rfl, hb⟩
          have S29 := Lib.hid (S28.out.keep hb)
          clear S28
          clear hb
          go_wp2_with fail
          refine hK.out _ _ ⟨Bag.cs13 S29.out 0 rfl, Bag.cs3 S29.out 1 rfl⟩ (fun hS => ?_)
          clear hK K
          try simp only [zp0, zp1, zp2, zp3, zp4]
          refine wpAnyH_ready (rs := [4, 10]) (by kernel_rfl) (by simp) ?_
          refine Reg.cons_op (i := 4) rfl (fun K hK => ?_) ?_
          go_simp
          go_at_call 36
          refine (Cimpl.out zs0 HZzs0.out _ (Bag.bag_rd S29.out 4 rfl)).mono ?_
          rintro e w21 ⟨zr1, rfl, hcon1, ho, hb⟩
          have S30 := Lib.hid (show Sl.Sep W _ [L4.boxR (W.heap.size + 1) 83 (U.cs_Cursor y1), L4.boxR W.heap.size 67 (U.cs_Store y0), QQ, L4.boxR gb0 60 U.cz_Cursor, Bag.bag zs0.rows, Bag.bag (U.rows1 zr1)] from Bag.push_bag S29.out hb ho)
          clear S29
          clear hb ho
          have HZzr1 := Lib.hid hcon1
          clear hcon1
          go_wp2_with fail
          refine hK.out _ _ ⟨Bag.cs13 S30.out 0 rfl, Bag.cs3 S30.out 1 rfl⟩ (fun hS => ?_)
          clear hK K
          try simp only [zp0, zp1, zp2, zp3, zp4]
          refine tk 5 rfl ?_
          try simp only [zp0, zp1, zp2, zp3, zp4]
          refine tk 6 rfl ?_
          try simp only [zp0, zp1, zp2, zp3, zp4]
          refine tk 7 rfl ?_
          try simp only [zp0, zp1, zp2, zp3, zp4]
          refine tk 8 rfl ?_
          try simp only [zp0, zp1, zp2, zp3, zp4]
          refine Reg.one_op (i := 10) rfl (by kernel_rfl) (fun K hK => ?_)
          go_simp
          have S31 := Lib.hid (show Sl.Sep W _ [L4.boxR (W.heap.size + 1) 83 (U.cs_Cursor y1), L4.boxR W.heap.size 67 (U.cs_Store y0), QQ, L4.boxR gb0 60 U.cz_Cursor, Bag.bag zs0.rows, Bag.bag (U.rows1 zr1), L4.boxR w21.heap.size 43 U.cz_Item] from L4.push_box S30.out 43 #[.int .i64 0, .int .i64 0, .string ⟨#[]⟩, .slice none 0 0] w21.heap.size rfl)
          clear S30
          obtain ⟨gb1, hg⟩ : ∃ g', g' = w21.heap.size := ⟨_, rfl⟩
          rw [← hg] at S31 ⊢
          clear hg
          generalize w21.alloc (.cells #[.int .i64 0, .int .i64 0, .string ⟨#[]⟩, .slice none 0 0] 43) = w22 at S31 ⊢
          refine hK.out _ _ ⟨Bag.cs13 S31.out 0 rfl, Bag.cs3 S31.out 1 rfl⟩ (fun hS => ?_)
          clear hK K
          try simp only [zp0, zp1, zp2, zp3, zp4]
          have S32 := Lib.hid (show Sl.Sep W _ [L4.boxR (W.heap.size + 1) 83 (U.cs_Cursor y1), L4.boxR W.heap.size 67 (U.cs_Store y0), QQ, Bag.bag (U.rows1 zr1), L4.boxR gb0 60 U.cz_Cursor, L4.boxR gb1 43 U.cz_Item] from Bag.take S31.out [0, 1, 2, 5, 3, 6] (by rfl) (by decide))
          clear S31
          revert S32
          revert HZzr1
          revert hS
          exact hrest gb0 gb1 zr1 zs0 w22
          refine Reg.cons_op (i := 10) rfl (fun K hK => ?_) ?_
          go_simp
          have S30 := Lib.hid (show Sl.Sep W _ [L4.boxR (W.heap.size + 1) 83 (U.cs_Cursor y1), L4.boxR W.heap.size 67 (U.cs_Store y0), QQ, L4.boxR gb0 60 U.cz_Cursor, Bag.bag zs0.rows, L4.boxR w20.heap.size 43 U.cz_Item] from L4.push_box S29.out 43 #[.int .i64 0, .int .i64 0, .string ⟨#[]⟩, .slice none 0 0] w20.heap.size rfl)
          clear S29
          obtain ⟨gb1, hg⟩ : ∃ g', g' = w20.heap.size := ⟨_, rfl⟩
          rw [← hg] at S30 ⊢
          clear hg
          generalize w20.alloc (.cells #[.int .i64 0, .int .i64 0, .string ⟨#[]⟩, .slice none 0 0] 43) = w21 at S30 ⊢
          refine hK.out _ _ ⟨Bag.cs13 S30.out 0 rfl, Bag.cs3 S30.out 1 rfl⟩ (fun hS => ?_)
          clear hK K
          try simp only [zp0, zp1, zp2, zp3, zp4]
          refine Reg.one_op (i := 4) rfl (by kernel_rfl) (fun K hK => ?_)
          go_simp
          go_at_call 36
          refine (Cimpl.out zs0 HZzs0.out _ (Bag.bag_rd S30.out 4 rfl)).mono ?_
          rintro e w22 ⟨zr1, rfl, hcon1, ho, hb⟩
          have S31 := Lib.hid (show Sl.Sep W _ [L4.boxR (W.heap.size + 1) 83 (U.cs_Cursor y1), L4.boxR W.heap.size 67 (U.cs_Store y0), QQ, L4.boxR gb0 60 U.cz_Cursor, Bag.bag zs0.rows, L4.boxR gb1 43 U.cz_Item, Bag.bag (U.rows1 zr1)] from Bag.push_bag S30.out hb ho)
          clear S30
          clear hb ho
          have HZzr1 := Lib.hid hcon1
          clear hcon1
          go_wp2_with fail
          refine hK.out _ _ ⟨Bag.cs13 S31.out 0 rfl, Bag.cs3 S31.out 1 rfl⟩ (fun hS => ?_)
          clear hK K
          try simp only [zp0, zp1, zp2, zp3, zp4]
          refine tk 5 rfl ?_
          try simp only [zp0, zp1, zp2, zp3, zp4]
          refine tk 6 rfl ?_
          try simp only [zp0, zp1, zp2, zp3, zp4]
          refine tk 7 rfl ?_
          try simp only [zp0, zp1, zp2, zp3, zp4]
          refine tk 8 rfl ?_
          try simp only [zp0, zp1, zp2, zp3, zp4]
          have S32 := Lib.hid (show Sl.Sep W _ [L4.boxR (W.heap.size + 1) 83 (U.cs_Cursor y1), L4.boxR W.heap.size 67 (U.cs_Store y0), QQ, Bag.bag (U.rows1 zr1), L4.boxR gb0 60 U.cz_Cursor, L4.boxR gb1 43 U.cz_Item] from Bag.take S31.out [0, 1, 2, 6, 3, 5] (by rfl) (by decide))
          clear S31
          revert S32
          revert HZzr1
          revert hS
          exact hrest gb0 gb1 zr1 zs0 w22
          exact AllReadyH.nil
          refine Reg.cons_op (i := 10) rfl (fun K hK => ?_) ?_
          go_simp
          have S29 := Lib.hid (show Sl.Sep W _ [L4.boxR (W.heap.size + 1) 83 (U.cs_Cursor y1), L4.boxR W.heap.size 67 (U.cs_Store y0), QQ, L4.boxR gb0 60 U.cz_Cursor, Bag.bag zs0.rows, L4.boxR w19.heap.size 43 U.cz_Item] from L4.push_box S28.out 43 #[.int .i64 0, .int .i64 0, .string ⟨#[]⟩, .slice none 0 0] w19.heap.size rfl)
          clear S28
          obtain ⟨gb1, hg⟩ : ∃ g', g' = w19.heap.size := ⟨_, rfl⟩
          rw [← hg] at S29 ⊢
          clear hg
          generalize w19.alloc (.cells #[.int .i64 0, .int .i64 0, .string ⟨#[]⟩, .slice none 0 0] 43) = w20 at S29 ⊢
          refine hK.out _ _ ⟨Bag.cs13 S29.out 0 rfl, Bag.cs3 S29.out 1 rfl⟩ (fun hS => ?_)
          clear hK K
          try simp only [zp0, zp1, zp2, zp3, zp4]
          refine Reg.one_op (i := 3) rfl (by kernel_rfl) (fun K hK => ?_)
          go_simp
          go_at_call 51
          refine (HTO1.out w20 S29.out.old).mono ?_
          rintro e w21 ⟨rfl, hb⟩
          have S30 := Lib.hid (S29.out.keep hb)
          clear S29
          clear hb
          go_wp2_with fail
          refine hK.out _ _ ⟨Bag.cs13 S30.out 0 rfl, Bag.cs3 S30.out 1 rfl⟩ (fun hS => ?_)
          clear hK K
          try simp only [zp0, zp1, zp2, zp3, zp4]
          refine Reg.one_op (i := 4) rfl (by kernel_rfl) (fun K hK => ?_)
          go_simp
          go_at_call 36
          refine (Cimpl.out zs0 HZzs0.out _ (Bag.bag_rd S30.out 4 rfl)).mono ?_
          rintro e w22 ⟨zr1, rfl, hcon1, ho, hb⟩
          have S31 := Lib.hid (show Sl.Sep W _ [L4.boxR (W.heap.size + 1) 83 (U.cs_Cursor y1), L4.boxR W.heap.size 67 (U.cs_Store y0), QQ, L4.boxR gb0 60 U.cz_Cursor, Bag.bag zs0.rows, L4.boxR gb1 43 U.cz_Item, Bag.bag (U.rows1 zr1)] from Bag.push_bag S30.out hb ho)
          clear S30
          clear hb ho
          have HZzr1 := Lib.hid hcon1
          clear hcon1
          go_wp2_with fail
          refine hK.out _ _ ⟨Bag.cs13 S31.out 0 rfl, Bag.cs3 S31.out 1 rfl⟩ (fun hS => ?_)
          clear hK K
          try simp only [zp0, zp1, zp2, zp3, zp4]
          refine tk 5 rfl ?_
          try simp only [zp0, zp1, zp2, zp3, zp4]
          refine tk 6 rfl ?_
          try simp only [zp0, zp1, zp2, zp3, zp4]
          refine tk 7 rfl ?_
          try simp only [zp0, zp1, zp2, zp3, zp4]
          refine tk 8 rfl ?_
          try simp only [zp0, zp1, zp2, zp3, zp4]
          have S32 := Lib.hid (show Sl.Sep W _ [L4.boxR (W.heap.size + 1) 83 (U.cs_Cursor y1), L4.boxR W.heap.size 67 (U.cs_Store y0), QQ, Bag.bag (U.rows1 zr1), L4.boxR gb0 60 U.cz_Cursor, L4.boxR gb1 43 U.cz_Item] from Bag.take S31.out [0, 1, 2, 6, 3, 5] (by rfl) (by decide))
          clear S31
          revert S32
          revert HZzr1
          revert hS
          exact hrest gb0 gb1 zr1 zs0 w22
          exact AllReadyH.nil
          refine Reg.cons_op (i := 10) rfl (fun K hK => ?_) ?_
          go_simp
          have S28 := Lib.hid (show Sl.Sep W _ [L4.boxR (W.heap.size + 1) 83 (U.cs_Cursor y1), L4.boxR W.heap.size 67 (U.cs_Store y0), QQ, L4.boxR gb0 60 U.cz_Cursor, L4.boxR w18.heap.size 43 U.cz_Item] from L4.push_box S27.out 43 #[.int .i64 0, .int .i64 0, .string ⟨#[]⟩, .slice none 0 0] w18.heap.size rfl)
          clear S27
          obtain ⟨gb1, hg⟩ : ∃ g', g' = w18.heap.size := ⟨_, rfl⟩
          rw [← hg] at S28 ⊢
          clear hg
          generalize w18.alloc (.cells #[.int .i64 0, .int .i64 0, .string ⟨#[]⟩, .slice none 0 0] 43) = w19 at S28 ⊢
          refine hK.out _ _ ⟨Bag.cs13 S28.out 0 rfl, Bag.cs3 S28.out 1 rfl⟩ (fun hS => ?_)
          clear hK K
          try simp only [zp0, zp1, zp2, zp3, zp4]
          refine Reg.one_op (i := 1) rfl (by kernel_rfl) (fun K hK => ?_)
          go_simp
          go_at_call 40
          refine (HTO0.out _ S28.out.old).mono ?_
          rintro e w20 ⟨zs0, rfl, hcon, ho, hb⟩
          have S29 := Lib.hid (show Sl.Sep W _ [L4.boxR (W.heap.size + 1) 83 (U.cs_Cursor y1), L4.boxR W.heap.size 67 (U.cs_Store y0), QQ, L4.boxR gb0 60 U.cz_Cursor, L4.boxR gb1 43 U.cz_Item, Bag.bag zs0.rows] from Bag.push_bag S28.out hb ho)
          clear S28
          clear hb ho
          have HZzs0 := Lib.hid (hcon.trans HC0.out)
          clear hcon
          go_wp2_with fail
          refine hK.out _ _ ⟨Bag.cs13 S29.out 0 rfl, Bag.cs3 S29.out 1 rfl⟩ (fun hS => ?_)
          clear hK K
          try simp only [zp0, zp1, zp2, zp3, zp4]
          refine Reg.one_op (i := 3) rfl (by kernel_rfl) (fun K hK => ?_)
          go_simp
          go_at_call 51
          refine (HTO1.out w20 S29.out.old).mono ?_
          rintro e w21 ⟨rfl, hb⟩
          have S30 := Lib.hid (S29.out.keep hb)
          clear S29
          clear hb
          go_wp2_with fail
          refine hK.out _ _ ⟨Bag.cs13 S30.out 0 rfl, Bag.cs3 S30.out 1 rfl⟩ (fun hS => ?_)
          clear hK K
          try simp only [zp0, zp1, zp2, zp3, zp4]
          refine Reg.one_op (i := 4) rfl (by kernel_rfl) (fun K hK => ?_)
          go_simp
          go_at_call 36
          refine (Cimpl.out zs0 HZzs0.out _ (Bag.bag_rd S30.out 5 rfl)).mono ?_
          rintro e w22 ⟨zr1, rfl, hcon1, ho, hb⟩
          have S31 := Lib.hid (show Sl.Sep W _ [L4.boxR (W.heap.size + 1) 83 (U.cs_Cursor y1), L4.boxR W.heap.size 67 (U.cs_Store y0), QQ, L4.boxR gb0 60 U.cz_Cursor, L4.boxR gb1 43 U.cz_Item, Bag.bag zs0.rows, Bag.bag (U.rows1 zr1)] from Bag.push_bag S30.out hb ho)
          clear S30
          clear hb ho
          have HZzr1 := Lib.hid hcon1
          clear hcon1
          go_wp2_with fail
          refine hK.out _ _ ⟨Bag.cs13 S31.out 0 rfl, Bag.cs3 S31.out 1 rfl⟩ (fun hS => ?_)
          clear hK K
          try simp only [zp0, zp1, zp2, zp3, zp4]
          refine tk 5 rfl ?_
          try simp only [zp0, zp1, zp2, zp3, zp4]
          refine tk 6 rfl ?_
          try simp only [zp0, zp1, zp2, zp3, zp4]
          refine tk 7 rfl ?_
          try simp only [zp0, zp1, zp2, zp3, zp4]
          refine tk 8 rfl ?_
          try simp only [zp0, zp1, zp2, zp3, zp4]
          have S32 := Lib.hid (show Sl.Sep W _ [L4.boxR (W.heap.size + 1) 83 (U.cs_Cursor y1), L4.boxR W.heap.size 67 (U.cs_Store y0), QQ, Bag.bag (U.rows1 zr1), L4.boxR gb0 60 U.cz_Cursor, L4.boxR gb1 43 U.cz_Item] from Bag.take S31.out [0, 1, 2, 6, 3, 4] (by rfl) (by decide))
          clear S31
          revert S32
          revert HZzr1
          revert hS
          exact hrest gb0 gb1 zr1 zs0 w22
          exact AllReadyH.nil
          refine Reg.cons_op (i := 10) rfl (fun K hK => ?_) ?_
          go_simp
          have S27 := Lib.hid (show Sl.Sep W _ [L4.boxR (W.heap.size + 1) 83 (U.cs_Cursor y1), L4.boxR W.heap.size 67 (U.cs_Store y0), QQ, L4.boxR w17.heap.size 43 U.cz_Item] from L4.push_box S26.out 43 #[.int .i64 0, .int .i64 0, .string ⟨#[]⟩, .slice none 0 0] w17.heap.size rfl)
          obtain ⟨gb1, hg⟩ : ∃ g', g' = w17.heap.size := ⟨_, rfl⟩
          rw [← hg] at S27 ⊢
          clear hg
          generalize w17.alloc (.cells #[.int .i64 0, .int .i64 0, .string ⟨#[]⟩, .slice none 0 0] 43) = w18 at S27 ⊢
          refine hK.out _ _ ⟨Bag.cs13 S27.out 0 rfl, Bag.cs3 S27.out 1 rfl⟩ (fun hS => ?_)
          clear hK K
          try simp only [zp0, zp1, zp2, zp3, zp4]
          refine wpAnyH_ready (rs := [1, 9]) (by kernel_rfl) (by simp) ?_
          refine Reg.cons_op (i := 1) rfl (fun K hK => ?_) ?_
          go_simp
          go_at_call 40
          refine (HTO0.out _ S27.out.old).mono ?_
          rintro e w19 ⟨zs0, rfl, hcon, ho, hb⟩
          have S28 := Lib.hid (show Sl.Sep W _ [L4.boxR (W.heap.size + 1) 83 (U.cs_Cursor y1), L4.boxR W.heap.size 67 (U.cs_Store y0), QQ, L4.boxR gb1 43 U.cz_Item, Bag.bag zs0.rows] from Bag.push_bag S27.out hb ho)
          clear S27
          clear hb ho
          have HZzs0 := Lib.hid (hcon.trans HC0.out)
          clear hcon
          go_wp2_with fail
          refine hK.out _ _ ⟨Bag.cs13 S28.out 0 rfl, Bag.cs3 S28.out 1 rfl⟩ (fun hS => ?_)
          clear hK K
          try simp only [zp0, zp1, zp2, zp3, zp4]
          refine wpAnyH_ready (rs := [3, 9]) (by kernel_rfl) (by simp) ?_
          refine Reg.cons_op (i := 3) rfl (fun K hK => ?_) ?_
          go_simp
          go_at_call 51
          refine (HTO1.out w19 S28.out.old).mono ?_
          rintro e w20 ⟨rfl, hb⟩
          have S29 := Lib.hid (S28.out.keep hb)
          clear S28
          clear hb
          go_wp2_with fail
          refine hK.out _ _ ⟨Bag.cs13 S29.out 0 rfl, Bag.cs3 S29.out 1 rfl⟩ (fun hS => ?_)
          clear hK K
          try simp only [zp0, zp1, zp2, zp3, zp4]
          refine wpAnyH_ready (rs := [4, 9]) (by kernel_rfl) (by simp) ?_
          refine Reg.cons_op (i := 4) rfl (fun K hK => ?_) ?_
          go_simp
          go_at_call 36
          refine (Cimpl.out zs0 HZzs0.out _ (Bag.bag_rd S29.out 4 rfl)).mono ?_
          rintro e w21 ⟨zr1, rfl, hcon1, ho, hb⟩
          have S30 := Lib.hid (show Sl.Sep W _ [L4.boxR (W.heap.size + 1) 83 (U.cs_Cursor y1), L4.boxR W.heap.size 67 (U.cs_Store y0), QQ, L4.boxR gb1 43 U.cz_Item, Bag.bag zs0.rows, Bag.bag (U.rows1 zr1)] from Bag.push_bag S29.out hb ho)
          clear S29
          clear hb ho
          have HZzr1 := Lib.hid hcon1
          clear hcon1
          go_wp2_with fail
          refine hK.out _ _ ⟨Bag.cs13 S30.out 0 rfl, Bag.cs3 S30.out 1 rfl⟩ (fun hS => ?_)
          clear hK K
          try simp only [zp0, zp1, zp2, zp3, zp4]
          refine tk 5 rfl ?_
          try simp only [zp0, zp1, zp2, zp3, zp4]
          refine tk 6 rfl ?_
          try simp only [zp0, zp1, zp2, zp3, zp4]
          refine tk 7 rfl ?_
          try simp only [zp0, zp1, zp2, zp3, zp4]
          refine tk 8 rfl ?_
          try simp only [zp0, zp1, zp2, zp3, zp4]
          refine Reg.one_op (i := 9) rfl (by kernel_rfl) (fun K hK => ?_)
          go_simp
          have S31 := Lib.hid (show Sl.Sep W _ [L4.boxR (W.heap.size + 1) 83 (U.cs_Cursor y1), L4.boxR W.heap.size 67 (U.cs_Store y0), QQ, L4.boxR gb1 43 U.cz_Item, Bag.bag zs0.rows, Bag.bag (U.rows1 zr1), L4.boxR w21.heap.size 60 U.cz_Cursor] from L4.push_box S30.out 60 #[.bool false, .bool false, .int .i64 0, .int .i64 0, .string ⟨#[]⟩, .int .i64 0, .int .i64 0, .string ⟨#[]⟩, .bool false, .bool false, .int .i64 0, .int .i64 0, .string ⟨#[]⟩] w21.heap.size rfl)
          clear S30
          obtain ⟨gb0, hg⟩ : ∃ g', g' = w21.heap.size := ⟨_, rfl⟩
          rw [← hg] at S31 ⊢
          clear hg
          generalize w21.alloc (.cells #[.bool false, .bool false, .int .i64 0, .int .i64 0, .string ⟨#[]⟩, .int .i64 0, .int .i64 0, .string ⟨#[]⟩, .bool false, .bool false, .int .i64 0, .int .i64 0, .string ⟨#[]⟩] 60) = w22 at S31 ⊢
          refine hK.out _ _ ⟨Bag.cs13 S31.out 0 rfl, Bag.cs3 S31.out 1 rfl⟩ (fun hS => ?_)
          clear hK K
          try simp only [zp0, zp1, zp2, zp3, zp4]
          have S32 := Lib.hid (show Sl.Sep W _ [L4.boxR (W.heap.size + 1) 83 (U.cs_Cursor y1), L4.boxR W.heap.size 67 (U.cs_Store y0), QQ, Bag.bag (U.rows1 zr1), L4.boxR gb0 60 U.cz_Cursor, L4.boxR gb1 43 U.cz_Item] from Bag.take S31.out [0, 1, 2, 5, 6, 3] (by rfl) (by decide))
          clear S31
          revert S32
          revert HZzr1
          revert hS
          exact hrest gb0 gb1 zr1 zs0 w22
          refine Reg.cons_op (i := 9) rfl (fun K hK => ?_) ?_
          go_simp
          have S30 := Lib.hid (show Sl.Sep W _ [L4.boxR (W.heap.size + 1) 83 (U.cs_Cursor y1), L4.boxR W.heap.size 67 (U.cs_Store y0), QQ, L4.boxR gb1 43 U.cz_Item, Bag.bag zs0.rows, L4.boxR w20.heap.size 60 U.cz_Cursor] from L4.push_box S29.out 60 #[.bool false, .bool false, .int .i64 0, .int .i64 0, .string ⟨#[]⟩, .int .i64 0, .int .i64 0, .string ⟨#[]⟩, .bool false, .bool false, .int .i64 0, .int .i64 0, .string ⟨#[]⟩] w20.heap.size rfl)
          clear S29
          obtain ⟨gb0, hg⟩ : ∃ g', g' = w20.heap.size := ⟨_, rfl⟩
          rw [← hg] at S30 ⊢
          clear hg
          generalize w20.alloc (.cells #[.bool false, .bool false, .int .i64 0, .int .i64 0, .string ⟨#[]⟩, .int .i64 0, .int .i64 0, .string ⟨#[]⟩, .bool false, .bool false, .int .i64 0, .int .i64 0, .string ⟨#[]⟩] 60) = w21 at S30 ⊢
          refine hK.out _ _ ⟨Bag.cs13 S30.out 0 rfl, Bag.cs3 S30.out 1 rfl⟩ (fun hS => ?_)
          clear hK K
          try simp only [zp0, zp1, zp2, zp3, zp4]
          refine Reg.one_op (i := 4) rfl (by kernel_rfl) (fun K hK => ?_)
          go_simp
          go_at_call 36
          refine (Cimpl.out zs0 HZzs0.out _ (Bag.bag_rd S30.out 4 rfl)).mono ?_
          rintro e w22 ⟨zr1, rfl, hcon1, ho, hb⟩
          have S31 := Lib.hid (show Sl.Sep W _ [L4.boxR (W.heap.size + 1) 83 (U.cs_Cursor y1), L4.boxR W.heap.size 67 (U.cs_Store y0), QQ, L4.boxR gb1 43 U.cz_Item, Bag.bag zs0.rows, L4.boxR gb0 60 U.cz_Cursor, Bag.bag (U.rows1 zr1)] from Bag.push_bag S30.out hb ho)
          clear S30
          clear hb ho
          have HZzr1 := Lib.hid hcon1
          clear hcon1
          go_wp2_with fail
          refine hK.out _ _ ⟨Bag.cs13 S31.out 0 rfl, Bag.cs3 S31.out 1 rfl⟩ (fun hS => ?_)
          clear hK K
          try simp only [zp0, zp1, zp2, zp3, zp4]
          refine tk 5 rfl ?_
          try simp only [zp0, zp1, zp2, zp3, zp4]
          refine tk 6 rfl ?_
          try simp only [zp0, zp1, zp2, zp3, zp4]
          refine tk 7 rfl ?_
          try simp only [zp0, zp1, zp2, zp3, zp4]
          refine tk 8 rfl ?_
          try simp only [zp0, zp1, zp2, zp3, zp4]
          have S32 := Lib.hid (show Sl.Sep W _ [L4.boxR (W.heap.size + 1) 83 (U.cs_Cursor y1), L4.boxR W.heap.size 67 (U.cs_Store y0), QQ, Bag.bag (U.rows1 zr1), L4.boxR gb0 60 U.cz_Cursor, L4.boxR gb1 43 U.cz_Item] from Bag.take S31.out [0, 1, 2, 6, 5, 3] (by rfl) (by decide))
          clear S31
          revert S32
          revert HZzr1
          revert hS
          exact hrest gb0 gb1 zr1 zs0 w22
          exact AllReadyH.nil
          refine Reg.cons_op (i := 9) rfl (fun K hK => ?_) ?_
          go_simp
          have S29 := Lib.hid (show Sl.Sep W _ [L4.boxR (W.heap.size + 1) 83 (U.cs_Cursor y1), L4.boxR W.heap.size 67 (U.cs_Store y0), QQ, L4.boxR gb1 43 U.cz_Item, Bag.bag zs0.rows, L4.boxR w19.heap.size 60 U.cz_Cursor] from L4.push_box S28.out 60 #[.bool false, .bool false, .int .i64 0, .int .i64 0, .string ⟨#[]⟩, .int .i64 0, .int .i64 0, .string ⟨#[]⟩, .bool false, .bool false, .int .i64 0, .int .i64 0, .string ⟨#[]⟩] w19.heap.size rfl)
          clear S28
          obtain ⟨gb0, hg⟩ : ∃ g', g' = w19.heap.size := ⟨_, rfl⟩
          rw [← hg] at S29 ⊢
          clear hg
          generalize w19.alloc (.cells #[.bool false, .bool false, .int .i64 0, .int .i64 0, .string ⟨#[]⟩, .int .i64 0, .int .i64 0, .string ⟨#[]⟩, .bool false, .bool false, .int .i64 0, .int .i64 0, .string ⟨#[]⟩] 60) = w20 at S29 ⊢
          refine hK.out _ _ ⟨Bag.cs13 S29.out 0 rfl, Bag.cs3 S29.out 1 rfl⟩ (fun hS => ?_)
          clear hK K
          try simp only [zp0, zp1, zp2, zp3, zp4]
          refine Reg.one_op (i := 3) rfl (by kernel_rfl) (fun K hK => ?_)
          go_simp
          go_at_call 51
          refine (HTO1.out w20 S29.out.old).mono ?_
          rintro e w21 ⟨rfl, hb⟩
          have S30 := Lib.hid (S29.out.keep hb)
          clear S29
          clear hb
          go_wp2_with fail
          refine hK.out _ _ ⟨Bag.cs13 S30.out 0 rfl, Bag.cs3 S30.out 1 rfl⟩ (fun hS => ?_)
          clear hK K
          try simp only [zp0, zp1, zp2, zp3, zp4]
          refine Reg.one_op (i := 4) rfl (by kernel_rfl) (fun K hK => ?_)
          go_simp
          go_at_call 36
          refine (Cimpl.out zs0 HZzs0.out _ (Bag.bag_rd S30.out 4 rfl)).mono ?_
          rintro e w22 ⟨zr1, rfl, hcon1, ho, hb⟩
          have S31 := Lib.hid (show Sl.Sep W _ [L4.boxR (W.heap.size + 1) 83 (U.cs_Cursor y1), L4.boxR W.heap.size 67 (U.cs_Store y0), QQ, L4.boxR gb1 43 U.cz_Item, Bag.bag zs0.rows, L4.boxR gb0 60 U.cz_Cursor, Bag.bag (U.rows1 zr1)] from Bag.push_bag S30.out hb ho)
          clear S30
          clear hb ho
          have HZzr1 := Lib.hid hcon1
          clear hcon1
          go_wp2_with fail
          refine hK.out _ _ ⟨Bag.cs13 S31.out 0 rfl, Bag.cs3 S31.out 1 rfl⟩ (fun hS => ?_)
          clear hK K
          try simp only [zp0, zp1, zp2, zp3, zp4]
          refine tk 5 rfl ?_
          try simp only [zp0, zp1, zp2, zp3, zp4]
          refine tk 6 rfl ?_
          try simp only [zp0, zp1, zp2, zp3, zp4]
          refine tk 7 rfl ?_
          try simp only [zp0, zp1, zp2, zp3, zp4]
          refine tk 8 rfl ?_
          try simp only [zp0, zp1, zp2, zp3, zp4]
          have S32 := Lib.hid (show Sl.Sep W _ [L4.boxR (W.heap.size + 1) 83 (U.cs_Cursor y1), L4.boxR W.heap.size 67 (U.cs_Store y0), QQ, Bag.bag (U.rows1 zr1), L4.boxR gb0 60 U.cz_Cursor, L4.boxR gb1 43 U.cz_Item] from Bag.take S31.out [0, 1, 2, 6, 5, 3] (by rfl) (by decide))
          clear S31
          revert S32
          revert HZzr1
          revert hS
          exact hrest gb0 gb1 zr1 zs0 w22
          exact AllReadyH.nil
          refine Reg.cons_op (i := 9) rfl (fun K hK => ?_) ?_
          go_simp
          have S28 := Lib.hid (show Sl.Sep W _ [L4.boxR (W.heap.size + 1) 83 (U.cs_Cursor y1), L4.boxR W.heap.size 67 (U.cs_Store y0), QQ, L4.boxR gb1 43 U.cz_Item, L4.boxR w18.heap.size 60 U.cz_Cursor] from L4.push_box S27.out 60 #[.bool false, .bool false, .int .i64 0, .int .i64 0, .string ⟨#[]⟩, .int .i64 0, .int .i64 0, .string ⟨#[]⟩, .bool false, .bool false, .int .i64 0, .int .i64 0, .string ⟨#[]⟩] w18.heap.size rfl)
          clear S27
          obtain ⟨gb0, hg⟩ : ∃ g', g' = w18.heap.size := ⟨_, rfl⟩
          rw [← hg] at S28 ⊢
          clear hg
          generalize w18.alloc (.cells #[.bool false, .bool false, .int .i64 0, .int .i64 0, .string ⟨#[]⟩, .int .i64 0, .int .i64 0, .string ⟨#[]⟩, .bool false, .bool false, .int .i64 0, .int .i64 0, .string ⟨#[]⟩] 60) = w19 at S28 ⊢
          refine hK.out _ _ ⟨Bag.cs13 S28.out 0 rfl, Bag.cs3 S28.out 1 rfl⟩ (fun hS => ?_)
          clear hK K
          try simp only [zp0, zp1, zp2, zp3, zp4]
          refine Reg.one_op (i := 1) rfl (by kernel_rfl) (fun K hK => ?_)
          go_simp
          go_at_call 40
          refine (HTO0.out _ S28.out.old).mono ?_
          rintro e w20 ⟨zs0, rfl, hcon, ho, hb⟩
          have S29 := Lib.hid (show Sl.Sep W _ [L4.boxR (W.heap.size + 1) 83 (U.cs_Cursor y1), L4.boxR W.heap.size 67 (U.cs_Store y0), QQ, L4.boxR gb1 43 U.cz_Item, L4.boxR gb0 60 U.cz_Cursor, Bag.bag zs0.rows] from Bag.push_bag S28.out hb ho)
          clear S28
          clear hb ho
          have HZzs0 := Lib.hid (hcon.trans HC0.out)
          clear hcon
          go_wp2_with fail
          refine hK.out _ _ ⟨Bag.cs13 S29.out 0 rfl, Bag.cs3 S29.out 1 rfl⟩ (fun hS => ?_)
          clear hK K
          try simp only [zp0, zp1, zp2, zp3, zp4]
          refine Reg.one_op (i := 3) rfl (by kernel_rfl) (fun K hK => ?_)
          go_simp
          go_at_call 51
          refine (HTO1.out w20 S29.out.old).mono ?_
          rintro e w21 ⟨rfl, hb⟩
          have S30 := Lib.hid (S29.out.keep hb)
          clear S29
          clear hb
          go_wp2_with fail
          refine hK.out _ _ ⟨Bag.cs13 S30.out 0 rfl, Bag.cs3 S30.out 1 rfl⟩ (fun hS => ?_)
          clear hK K
          try simp only [zp0, zp1, zp2, zp3, zp4]
          refine Reg.one_op (i := 4) rfl (by kernel_rfl) (fun K hK => ?_)
          go_simp
          go_at_call 36
          refine (Cimpl.out zs0 HZzs0.out _ (Bag.bag_rd S30.out 5 rfl)).mono ?_
          rintro e w22 ⟨zr1, rfl, hcon1, ho, hb⟩
          have S31 := Lib.hid (show Sl.Sep W _ [L4.boxR (W.heap.size + 1) 83 (U.cs_Cursor y1), L4.boxR W.heap.size 67 (U.cs_Store y0), QQ, L4.boxR gb1 43 U.cz_Item, L4.boxR gb0 60 U.cz_Cursor, Bag.bag zs0.rows, Bag.bag (U.rows1 zr1)] from Bag.push_bag S30.out hb ho)
          clear S30
          clear hb ho
          have HZzr1 := Lib.hid hcon1
          clear hcon1
          go_wp2_with fail
          refine hK.out _ _ ⟨Bag.cs13 S31.out 0 rfl, Bag.cs3 S31.out 1 rfl⟩ (fun hS => ?_)
          clear hK K
          try simp only [zp0, zp1, zp2, zp3, zp4]
          refine tk 5 rfl ?_
          try simp only [zp0, zp1, zp2, zp3, zp4]
          refine tk 6 rfl ?_
          try simp only [zp0, zp1, zp2, zp3, zp4]
          refine tk 7 rfl ?_
          try simp only [zp0, zp1, zp2, zp3, zp4]
          refine tk 8 rfl ?_
          try simp only [zp0, zp1, zp2, zp3, zp4]
          have S32 := Lib.hid (show Sl.Sep W _ [L4.boxR (W.heap.size + 1) 83 (U.cs_Cursor y1), L4.boxR W.heap.size 67 (U.cs_Store y0), QQ, Bag.bag (U.rows1 zr1), L4.boxR gb0 60 U.cz_Cursor, L4.boxR gb1 43 U.cz_Item] from Bag.take S31.out [0, 1, 2, 6, 4, 3] (by rfl) (by decide))
          clear S31
          revert S32
          revert HZzr1
          revert hS
          exact hrest gb0 gb1 zr1 zs0 w22
          exact AllReadyH.nil
          exact AllReadyH.nil
        case pf =>
          intro gb0 gb1 zr1 zs0 w22 hS HZzr1 S32
          refine Reg.one_op (i := 11) rfl (by kernel_rfl) (fun K hK => ?_)
          have hh := Bag.cs13 S32.out 4 rfl
          have f0 := hh.1; have f1 := hh.2.1; have f2 := hh.2.2.1; have f3 := hh.2.2.2.1; have f4 := hh.2.2.2.2.1; have f5 := hh.2.2.2.2.2.1; have f6 := hh.2.2.2.2.2.2.1; have f7 := hh.2.2.2.2.2.2.2.1; have f8 := hh.2.2.2.2.2.2.2.2.1; have f9 := hh.2.2.2.2.2.2.2.2.2.1; have f10 := hh.2.2.2.2.2.2.2.2.2.2.1; have f11 := hh.2.2.2.2.2.2.2.2.2.2.2.1; have f12 := hh.2.2.2.2.2.2.2.2.2.2.2.2; clear hh
          have hh := Bag.fs13 S32.out 4 rfl
          have z0 := hh.1; have z1 := hh.2.1; have z2 := hh.2.2.1; have z3 := hh.2.2.2.1; have z4 := hh.2.2.2.2.1; have z5 := hh.2.2.2.2.2.1; have z6 := hh.2.2.2.2.2.2.1; have z7 := hh.2.2.2.2.2.2.2.1; have z8 := hh.2.2.2.2.2.2.2.2.1; have z9 := hh.2.2.2.2.2.2.2.2.2.1; have z10 := hh.2.2.2.2.2.2.2.2.2.2.1; have z11 := hh.2.2.2.2.2.2.2.2.2.2.2.1; have z12 := hh.2.2.2.2.2.2.2.2.2.2.2.2; clear hh
          go_simp
          clear f0 f1 f2 f3 f4 f5 f6 f7 f8 f9 f10 f11 f12 z0 z1 z2 z3 z4 z5 z6 z7 z8 z9 z10 z11 z12
          have S33 := Lib.hid (show Sl.Sep W _ [L4.boxR (W.heap.size + 1) 83 (U.cs_Cursor y1), L4.boxR W.heap.size 67 (U.cs_Store y0), QQ, Bag.bag (U.rows1 zr1), L4.boxR gb0 60 #[.bool r0'.r.hl, .bool r0'.r.hh, .int .i64 r0'.r.lo.kind, .int .i64 r0'.r.lo.n, .string ⟨#[]⟩, .int .i64 0, .int .i64 0, .string ⟨#[]⟩, .bool false, .bool false, .int .i64 0, .int .i64 0, .string ⟨#[]⟩], L4.boxR gb1 43 U.cz_Item] from L5.put_box5 (L5.put_box5 (L5.put_box5 (L5.put_box5 (S32.out) 4 rfl 0 (.bool r0'.r.hl)) 4 rfl 1 (.bool r0'.r.hh)) 4 rfl 2 (.int .i64 r0'.r.lo.kind)) 4 rfl 3 (.int .i64 r0'.r.lo.n))
          clear S32
          have S34 := Lib.hid (show Sl.Sep W _ [L4.boxR (W.heap.size + 1) 83 (U.cs_Cursor y1), L4.boxR W.heap.size 67 (U.cs_Store y0), QQ, Bag.bag (U.rows1 zr1), L4.boxR gb0 60 #[.bool r0'.r.hl, .bool r0'.r.hh, .int .i64 r0'.r.lo.kind, .int .i64 r0'.r.lo.n, .string r0'.r.lo.text, .int .i64 r0'.r.hi.kind, .int .i64 r0'.r.hi.n, .string r0'.r.hi.text, .bool false, .bool false, .int .i64 0, .int .i64 0, .string ⟨#[]⟩], L4.boxR gb1 43 U.cz_Item] from L5.put_box5 (L5.put_box5 (L5.put_box5 (L5.put_box5 (S33.out) 4 rfl 4 (.string r0'.r.lo.text)) 4 rfl 5 (.int .i64 r0'.r.hi.kind)) 4 rfl 6 (.int .i64 r0'.r.hi.n)) 4 rfl 7 (.string r0'.r.hi.text))
          clear S33
          have S35 := Lib.hid (show Sl.Sep W _ [L4.boxR (W.heap.size + 1) 83 (U.cs_Cursor y1), L4.boxR W.heap.size 67 (U.cs_Store y0), QQ, Bag.bag (U.rows1 zr1), L4.boxR gb0 60 #[.bool r0'.r.hl, .bool r0'.r.hh, .int .i64 r0'.r.lo.kind, .int .i64 r0'.r.lo.n, .string r0'.r.lo.text, .int .i64 r0'.r.hi.kind, .int .i64 r0'.r.hi.n, .string r0'.r.hi.text, .bool r0'.back, .bool r0'.st, .int .i64 r0'.k.kind, .int .i64 r0'.k.n, .string ⟨#[]⟩], L4.boxR gb1 43 U.cz_Item] from L5.put_box5 (L5.put_box5 (L5.put_box5 (L5.put_box5 (S34.out) 4 rfl 8 (.bool r0'.back)) 4 rfl 9 (.bool r0'.st)) 4 rfl 10 (.int .i64 r0'.k.kind)) 4 rfl 11 (.int .i64 r0'.k.n))
          clear S34
          have S36 := Lib.hid (show Sl.Sep W _ [L4.boxR (W.heap.size + 1) 83 (U.cs_Cursor y1), L4.boxR W.heap.size 67 (U.cs_Store y0), QQ, Bag.bag (U.rows1 zr1), L4.boxR gb0 60 (U.cs_Cursor r0'), L4.boxR gb1 43 U.cz_Item] from L5.put_box5 (S35.out) 4 rfl 12 (.string r0'.k.text))
          clear S35
          refine hK.out _ _ ⟨Bag.cs13 S36.out 0 rfl, Bag.cs3 S36.out 1 rfl⟩ (fun hS => ?_)
          clear hK K
          try simp only [zp0, zp1, zp2, zp3, zp4]
          refine Reg.one_op (i := 12) rfl (by kernel_rfl) (fun K hK => ?_)
          have hh := Bag.cs4 S36.out 5 rfl
          have f0 := hh.1; have f1 := hh.2.1; have f2 := hh.2.2.1; have f3 := hh.2.2.2; clear hh
          have hh := Bag.fs4 S36.out 5 rfl
          have z0 := hh.1; have z1 := hh.2.1; have z2 := hh.2.2.1; have z3 := hh.2.2.2; clear hh
          go_simp
          clear f0 f1 f2 f3 z0 z1 z2 z3
          have S37 := Lib.hid (show Sl.Sep W _ [L4.boxR (W.heap.size + 1) 83 (U.cs_Cursor y1), L4.boxR W.heap.size 67 (U.cs_Store y0), QQ, Bag.bag (U.rows1 zr1), L4.boxR gb0 60 (U.cs_Cursor r0'), L4.boxR gb1 43 (U.cs_Item zr1)] from L5.put_box5 (L5.put_box5 (L5.put_box5 (L5.put_box5 (S36.out) 5 rfl 0 (.int .i64 zr1.k.kind)) 5 rfl 1 (.int .i64 zr1.k.n)) 5 rfl 2 (.string zr1.k.text)) 5 rfl 3 (.slice zr1.a zr1.l.length zr1.c))
          clear S36
          refine hK.out _ _ ⟨Bag.cs13 S37.out 0 rfl, Bag.cs3 S37.out 1 rfl⟩ (fun hS => ?_)
          clear hK K
          try simp only [zp0, zp1, zp2, zp3, zp4]
          refine tk 13 rfl ?_
          try simp only [zp0, zp1, zp2, zp3, zp4]
          refine wpAnyH_done (by kernel_rfl) ?_ _
          go_wp2_with fail
          go_meet
          case rel =>
            exact ⟨gb0, gb1, zr1, rfl, rfl, rfl, And.intro HZzr1.out (S37.out)⟩
      case rest =>
        obtain ⟨g5a', g5b', z5r1', rfl, rfl, rfl, hq⟩ := hcut
        have HZz5r1' := Lib.hid hq.out.1
        obtain ⟨w17, hww, hSS⟩ : ∃ u, u = _ ∧ Sl.Sep W u [L4.boxR (W.heap.size + 1) 83 (U.cs_Cursor y1), L4.boxR W.heap.size 67 (U.cs_Store y0), QQ, Bag.bag (U.rows1 z5r1'), L4.boxR g5a' 60 (U.cs_Cursor r0'), L4.boxR g5b' 43 (U.cs_Item z5r1')] := ⟨_, rfl, hq.out.2⟩
        subst hww
        have S26 := Lib.hid hSS
        clear hSS hq S25 HTO0 HTO1
        have S27 := Lib.hid (show Sl.Sep W _ [L4.boxR (W.heap.size + 1) 83 (U.cs_Cursor y1), L4.boxR W.heap.size 67 (U.cs_Store y0), Bag.bag (U.rows1 z5r1'), L4.boxR g5a' 60 (U.cs_Cursor r0'), L4.boxR g5b' 43 (U.cs_Item z5r1'), QQ] from Bag.take S26.out [0, 1, 3, 4, 5, 2] (by rfl) (by decide))
        clear S26
        have S28 := Lib.hid (show Sl.Sep W _ [L4.boxR (W.heap.size + 1) 83 (U.cs_Cursor y1), L4.boxR W.heap.size 67 (U.cs_Store y0), Bag.bag (U.rows1 z5r1'), L4.boxR g5a' 60 (U.cs_Cursor r0'), L4.boxR g5b' 43 (U.cs_Item z5r1'), Bag.bag ((L6.LS.marked 1 z2').rows), L4.boxR g1 26 (U.cs_Store z2'), Bag.bag (U.rows1 (U.markedI 1 z3r1')), L4.boxR g3a' 60 (U.cs_Cursor r0'), L4.boxR g3b' 43 (U.cs_Item z3r1'), Bag.bag (U.rows1 z1r1'), L4.boxR g1a' 60 (U.cs_Cursor r0'), L4.boxR g1b' 43 (U.cs_Item z1r1')] from (by have h := S27.out; rw [HQQ.out] at h; exact Run.unpackR (us := [L4.boxR (W.heap.size + 1) 83 (U.cs_Cursor y1), L4.boxR W.heap.size 67 (U.cs_Store y0), Bag.bag (U.rows1 z5r1'), L4.boxR g5a' 60 (U.cs_Cursor r0'), L4.boxR g5b' 43 (U.cs_Item z5r1')]) (vs := [Bag.bag ((L6.LS.marked 1 z2').rows), L4.boxR g1 26 (U.cs_Store z2'), Bag.bag (U.rows1 (U.markedI 1 z3r1')), L4.boxR g3a' 60 (U.cs_Cursor r0'), L4.boxR g3b' 43 (U.cs_Item z3r1'), Bag.bag (U.rows1 z1r1'), L4.boxR g1a' 60 (U.cs_Cursor r0'), L4.boxR g1b' 43 (U.cs_Item z1r1')]) h))
        clear S27
        clear HQQ QQ
        have hh := Bag.cs13 S28.out 3 rfl
        have f0 := hh.1; have f1 := hh.2.1; have f2 := hh.2.2.1; have f3 := hh.2.2.2.1; have f4 := hh.2.2.2.2.1; have f5 := hh.2.2.2.2.2.1; have f6 := hh.2.2.2.2.2.2.1; have f7 := hh.2.2.2.2.2.2.2.1; have f8 := hh.2.2.2.2.2.2.2.2.1; have f9 := hh.2.2.2.2.2.2.2.2.2.1; have f10 := hh.2.2.2.2.2.2.2.2.2.2.1; have f11 := hh.2.2.2.2.2.2.2.2.2.2.2.1; have f12 := hh.2.2.2.2.2.2.2.2.2.2.2.2; clear hh
        have hh := Bag.cs13 S28.out 11 rfl
        have f13 := hh.1; have f14 := hh.2.1; have f15 := hh.2.2.1; have f16 := hh.2.2.2.1; have f17 := hh.2.2.2.2.1; have f18 := hh.2.2.2.2.2.1; have f19 := hh.2.2.2.2.2.2.1; have f20 := hh.2.2.2.2.2.2.2.1; have f21 := hh.2.2.2.2.2.2.2.2.1; have f22 := hh.2.2.2.2.2.2.2.2.2.1; have f23 := hh.2.2.2.2.2.2.2.2.2.2.1; have f24 := hh.2.2.2.2.2.2.2.2.2.2.2.1; have f25 := hh.2.2.2.2.2.2.2.2.2.2.2.2; clear hh
        go_wp2_with fail
        go_at_call 52
        have HC := U.eq_Cursor r0' w17
        try dsimp only [L6.LS.v, L6.LS.cells, L4.K.v, L4.R.v, L7.Cu.v, U.LR.v, U.LX.v, U.vI] at HC
        refine HC.mono ?_
        clear HC
        rintro e w18 ⟨rfl, hb⟩
        clear f0 f1 f2 f3 f4 f5 f6 f7 f8 f9 f10 f11 f12 f13 f14 f15 f16 f17 f18 f19 f20 f21 f22 f23 f24 f25
        have S29 := Lib.hid (S28.out.keep hb)
        clear S28
        clear hb
        have hh := Bag.cs4 S29.out 4 rfl
        have f0 := hh.1; have f1 := hh.2.1; have f2 := hh.2.2.1; have f3 := hh.2.2.2; clear hh
        have hh := Bag.cs4 S29.out 12 rfl
        have f4 := hh.1; have f5 := hh.2.1; have f6 := hh.2.2.1; have f7 := hh.2.2.2; clear hh
        go_wp2_with fail
        go_at_call 53
        have HC := U.eq_Item z5r1' z1r1' (HZz5r1'.out.trans HZz1r1'.out.symm) (by rw [HZz5r1'.out]; exact HFR1.out) _ (Bag.bag_rd S29.out 2 rfl) (Bag.bag_rd S29.out 10 rfl)
        try dsimp only [L6.LS.v, L6.LS.cells, L4.K.v, L4.R.v, L7.Cu.v, U.LR.v, U.LX.v, U.vI] at HC
        refine HC.mono ?_
        clear HC
        rintro e w19 ⟨rfl, hb⟩
        clear f0 f1 f2 f3 f4 f5 f6 f7
        have S30 := Lib.hid (S29.out.keep hb)
        clear S29
        clear hb
        have hh := Bag.cs4 S30.out 9 rfl
        have f0 := hh.1; have f1 := hh.2.1; have f2 := hh.2.2.1; have f3 := hh.2.2.2; clear hh
        go_wp2_with fail
        go_at_call 55
        have HC := U.held_Item z3r1' 1 ((by rw [HZz3r1'.out]; exact HFR1.out) : L6.FitI _).len (by omega) (by omega) _ (Bag.bag_rd S30.out 7 rfl)
        try dsimp only [L6.LS.v, L6.LS.cells, L4.K.v, L4.R.v, L7.Cu.v, U.LR.v, U.LX.v, U.vI] at HC
        rw [HEz3r1'.out] at HC
        refine HC.mono ?_
        clear HC
        rintro e w20 ⟨rfl, hb⟩
        clear f0 f1 f2 f3
        have S31 := Lib.hid (S30.out.keep hb)
        clear S30
        clear hb
        go_wp2_with fail
        go_ret
        exact ⟨rfl, S31.out.old⟩

set_option maxRecDepth 100000 in
theorem lifted (os : Os) (started : os.Started) (H : Type) (enc : TypeId × Value → H) :
    ReturnsInHanded {} Try.checked os 10 .any (Rows.fnExactCursorNextSpec.pre6 enc Try.prog Try.f10 Rows.fnExactCursorNextRow.domain false) (Rows.fnExactCursorNextSpec.post enc Try.prog Try.f10 false true false false) := by
  refine returnsInHanded_of_change_sized (C := Try.checked) own started (by kernel_rfl) Try.func10
    (ChangeSpec.witness6 (enc := enc) (C := Try.checked) false ⟨#[], #[.agg #[.string ⟨#[]⟩, .slice none 0 0, .int .i64 0], .agg #[.bool false, .bool false, .int .i64 0, .int .i64 0, .string ⟨#[]⟩, .int .i64 0, .int .i64 0, .string ⟨#[]⟩, .bool false, .bool false, .int .i64 0, .int .i64 0, .string ⟨#[]⟩]], []⟩ 8 (by kernel_rfl) (by kernel_rfl) (by kernel_rfl) (by kernel_rfl)) ?_
  intro W base args ds gs before hval0 hW _ hsz0 _
  have hval : ∀ (j : Nat) t v, Try.f10.params[j]? = some t → args[j]? = some v → Value.okWide Try.prog W .any base t v := hval0
  have hW' := hW
  obtain ⟨p, q, hA0, hV, rfl, _, _⟩ := hW
  have hA : DataW.TrodAll enc Try.prog W 0 (fun _ => true) true Try.f10.params.toList args.toList ds p := hA0
  obtain ⟨rfl, rfl⟩ := trodVars_none hV
  have hlt : ∀ x ∈ p, x.block < W.heap.size := fun x hx => hW'.lt x (by simpa using hx)
  simp only [List.append_nil] at hW'
  have hw := walk H enc W base args ds p hval hA hlt hsz0
  have hA1 := hA
  clear hA0 hval0 hsz0 hval hlt
  rw [Try.params10] at hA
  obtain ⟨v0, vs0, d0, ds0, p0, q0, e0, rfl, rfl, h0, hr0⟩ := trodAll_cons hA
  obtain ⟨v1, vs1, d1, ds1, p1, q1, e1, rfl, rfl, h1, hr1⟩ := trodAll_cons hr0
  obtain ⟨e2, rfl, rfl⟩ := trodAll_nil hr1
  refine hw.mono fun e W' ⟨he, hb⟩ => ?_
  subst he
  exact ⟨_, rfl, Frame.law_post (tb := 4) rfl hW' hA1 rfl rfl rfl laidOut (by kernel_rfl) (by kernel_rfl) Try.underlying4 hb⟩

theorem holds : Rows.FnExactCursorNextSaid :=
  OpenClaim.holds_of_wide 10 Try.f10 rfl rfl rfl rfl rfl rfl rfl ⟨rfl, rfl, rfl, rfl, rfl⟩ rfl rfl rfl rfl rfl (by kernel_rfl) Try.func10 (by kernel_rfl)
    (of_decide_eq_true (by kernel_rfl)) (by unfold Func.isWrapper; first | (rw [if_pos (by decide +kernel)]; kernel_rfl) | (rw [if_neg (by decide +kernel)]; exact ⟨rfl, rfl⟩))
    (fun os started H enc _ => lifted os started H enc)

#print axioms holds
end Go.Proofs.Ytmnedjhfibmcnaa.lawFnExactCursorNext
