import Derived.Test.YtojcdmgcbgpdmaaFnExactDeleteItemsP3
import Derived.Test.YtojcdmgcbgpdmaaClosed
import Derived.JoinedOf
import Derived.SizedLaws
import Derived.LaidLaws
import Derived.ShutString
import Derived.Stop.LaidErr
import Derived.Lib.LaidTab
import Derived.Deep.RegionHeld3
import Derived.Deep.DeepCutAuto
set_option linter.unusedSimpArgs false
namespace Go.Proofs.Ytojcdmgcbgpdmaa.lawFnExactDeleteItems
open Go.ChangeShapes Go.WideShapes Go.ChangeAt Go.RowKit
open Go.ChangeMaps (open_string shut_string)
theorem own : ownKnob Try.prog.godebug = none := by kernel_rfl
theorem laidOut : laidOutB Try.prog = true := by kernel_rfl
open Mem Sl Bag
open Go.Proofs.Ytojcdmgcbgpdmaa.L5 (cellsF)
set_option maxRecDepth 100000 in
set_option maxHeartbeats 8000000 in
theorem walk (H : Type) (enc : TypeId × Value → H) (W : World) (base : Nat) (args : Array Value) (ds : List (DataW H)) (p : List MemPlace)
  (hval : ∀ (j : Nat) t v, Try.f8.params[j]? = some t → args[j]? = some v → Value.okWide Try.prog W .any base t v)
  (hA : DataW.TrodAll enc Try.prog W 0 (fun _ => true) true Try.f8.params.toList args.toList ds p)
  (hlt : ∀ x ∈ p, x.block < W.heap.size)
  (hsz : (DataW.weightsEach Try.prog (Try.f8.params.toList ++ Rows.fnExactDeleteItemsSpec.plain.varTypes Try.prog) (ds ++ [])).all (· ≤ reachBytes) = true) :
  Calls Try.prog 8 args W fun e w' => e = .returned (.bool true) ∧ Below W.heap.size W w' := by
 rw [Try.params8] at hA hval hsz
 obtain ⟨v0, vs0, d0, ds0, p0, q0, e0, rfl, rfl, h0, g0⟩ := trodAll_cons hA
 obtain ⟨v1, vs1, d1, ds1, p1, q1, e1, rfl, rfl, h1, g1⟩ := trodAll_cons g0
 obtain ⟨ez, rfl, rfl⟩ := trodAll_nil g1
 subst ez
 subst e1
 obtain rfl : args = #[v0, v1] := Array.toList_inj.1 e0
 clear e0
 obtain ⟨y0, rfl, hR0, hW0⟩ := L6.open_store (hval 0 57 v0 rfl rfl) h0 (fun x hx => hlt x (by simp [hx]))
 obtain ⟨r1, rfl, hT1, hU1, -, -, -, -⟩ := L4.open_range (hval 1 74 v1 rfl rfl) h1
 clear hval hA hlt hsz h0 h1
 have HSZ0 := Lib.hid (fun q h0 h1 w' (h : Below W.heap.size W w') => L6.szStore_any y0 q hW0 h0 h1 w' ((hR0.below h).more h.size))
 have HRY0 := Lib.hid (fun w' (h : Below W.heap.size W w') => ((hR0.below h).more h.size : RowsRd w' w'.heap.size y0.rows))
 have HWA0 := Lib.hid hW0.auto
 clear hR0 hW0
 dsimp only [L6.LS.v, L6.LS.cells] at HSZ0
 have HSN1 := Lib.hid (fun q h0 h1 w' => L4.szKeyRange_any r1 q hT1 hU1 h0 h1 w')
 clear hT1 hU1
 dsimp only [L4.R.v] at HSN1
 dsimp only [L6.LS.v, L6.LS.cells, L4.K.v, L4.R.v]
 have S1 := Lib.hid (show Sl.Sep W _ [_, _] from L4.push_box (L4.push_box (Sl.Sep.start W) 57 #[.string y0.name, .slice y0.a y0.xs.length y0.c, .int .i64 y0.auto] (W.heap.size) (by simp)) 74 #[.bool r1.hl, .bool r1.hh, .int .i64 r1.lo.kind, .int .i64 r1.lo.n, .string r1.lo.text, .int .i64 r1.hi.kind, .int .i64 r1.hi.n, .string r1.hi.text] (W.heap.size + 1) (by simp))
 obtain ⟨wa, hwa⟩ : ∃ u, u = ((W.alloc (.cells #[.string y0.name, .slice y0.a y0.xs.length y0.c, .int .i64 y0.auto] 57)).alloc (.cells #[.bool r1.hl, .bool r1.hh, .int .i64 r1.lo.kind, .int .i64 r1.lo.n, .string r1.lo.text, .int .i64 r1.hi.kind, .int .i64 r1.hi.n, .string r1.hi.text] 74)) := ⟨_, rfl⟩
 rw [← hwa] at S1
 go_enter Try.func8, Try.ntmps8
 go_upto_region 1 with fail
 rw [← hwa]
 clear hwa
 have f0 : World.cell? _ ⟨W.heap.size, 0, none⟩ = some (.string y0.name) := Bag.cell_at S1.out 0 rfl 0 rfl
 have f1 : World.cell? _ ⟨W.heap.size, 1, none⟩ = some (.slice y0.a y0.xs.length y0.c) := Bag.cell_at S1.out 0 rfl 1 rfl
 have f2 : World.cell? _ ⟨W.heap.size, 2, none⟩ = some (.int .i64 y0.auto) := Bag.cell_at S1.out 0 rfl 2 rfl
 go_wp2_with fail
 go_at_call 34
 have HC := HSZ0.out 1048576 (by omega) (by omega) _ S1.out.old
 try dsimp only [L6.LS.v, L6.LS.cells, L4.K.v, L4.R.v] at HC
 refine HC.mono ?_
 clear HC
 rintro e w1 ⟨u0, rfl, ro, hb⟩
 clear f0 f1 f2
 have S2 := Lib.hid (show Sl.Sep W _ [_, _] from S1.out.keep hb)
 clear S1
 clear hb
 have HRO0 := Lib.hid ro
 have X0 : -1 ≤ u0 ∧ u0 ≤ 1048576 := ⟨ro.1, ro.2.1⟩
 clear ro
 by_cases neg0 : u0 < 0
 ·
  skip
  go_wp2_with fail
  go_ret
  exact ⟨rfl, S2.out.old⟩
 have HF0 := Lib.hid (HRO0.out.2.2 (by omega))
 obtain ⟨u1, hu⟩ : ∃ u, L4.R.left u0 r1 = u := ⟨_, rfl⟩
 have X1 := L4.rleft_range u0 r1 (by omega)
 have HU1 := Lib.hid (fun h : ¬ u1 < 0 => L4.rleft_small (n := u0) (r := r1) (by rw [hu]; exact h))
 rw [hu] at X1
 have f0 : World.cell? _ ⟨W.heap.size + 1, 0, none⟩ = some (.bool r1.hl) := Bag.cell_at S2.out 1 rfl 0 rfl
 have f1 : World.cell? _ ⟨W.heap.size + 1, 1, none⟩ = some (.bool r1.hh) := Bag.cell_at S2.out 1 rfl 1 rfl
 have f2 : World.cell? _ ⟨W.heap.size + 1, 2, none⟩ = some (.int .i64 r1.lo.kind) := Bag.cell_at S2.out 1 rfl 2 rfl
 have f3 : World.cell? _ ⟨W.heap.size + 1, 3, none⟩ = some (.int .i64 r1.lo.n) := Bag.cell_at S2.out 1 rfl 3 rfl
 have f4 : World.cell? _ ⟨W.heap.size + 1, 4, none⟩ = some (.string r1.lo.text) := Bag.cell_at S2.out 1 rfl 4 rfl
 have f5 : World.cell? _ ⟨W.heap.size + 1, 5, none⟩ = some (.int .i64 r1.hi.kind) := Bag.cell_at S2.out 1 rfl 5 rfl
 have f6 : World.cell? _ ⟨W.heap.size + 1, 6, none⟩ = some (.int .i64 r1.hi.n) := Bag.cell_at S2.out 1 rfl 6 rfl
 have f7 : World.cell? _ ⟨W.heap.size + 1, 7, none⟩ = some (.string r1.hi.text) := Bag.cell_at S2.out 1 rfl 7 rfl
 go_wp2_with fail
 go_at_call 47
 have HC := HSN1.out u0 (by omega) (by omega) w1
 try dsimp only [L6.LS.v, L6.LS.cells, L4.K.v, L4.R.v] at HC
 rw [hu] at HC
 refine HC.mono ?_
 clear HC
 rintro e w2 ⟨rfl, hb⟩
 clear f0 f1 f2 f3 f4 f5 f6 f7
 have S3 := Lib.hid (show Sl.Sep W _ [_, _] from S2.out.keep hb)
 clear S2
 clear hb
 clear hu
 by_cases neg1 : u1 < 0
 ·
  skip
  go_wp2_with fail
  go_ret
  exact ⟨rfl, S3.out.old⟩
 have HT1 := Lib.hid (show r1.lo.text.size ≤ 281474976710656 ∧ r1.hi.text.size ≤ 281474976710656 from by have := HU1.out (by omega); omega)
 obtain ⟨C0, hC0⟩ : ∃ C, y0.con = C := ⟨_, rfl⟩
 rw [hC0] at HF0
 have HC0 := Lib.hid hC0
 clear hC0
 obtain ⟨r0', hr0'⟩ : ∃ r : L6.S6, L6.delS C0 r1 = r := ⟨_, rfl⟩
 obtain ⟨r1', hr1'⟩ : ∃ r : Int, L6.delN C0 r1 = r := ⟨_, rfl⟩
 have Cspec : ∀ (z0 : L6.LS), z0.con = C0 → ∀ w' : World, RowsRd w' w'.heap.size z0.rows → Calls Try.prog 48 #[.agg #[.string z0.name, .slice z0.a z0.xs.length z0.c, .int .i64 z0.auto], .agg #[.bool r1.hl, .bool r1.hh, .int .i64 r1.lo.kind, .int .i64 r1.lo.n, .string r1.lo.text, .int .i64 r1.hi.kind, .int .i64 r1.hi.n, .string r1.hi.text]] w' fun e w'' => ∃ z : L6.LS, e = .returned (.tuple #[.agg #[.string z.name, .slice z.a z.xs.length z.c, .int .i64 z.auto], .int .i64 r1']) ∧ z.con = r0' ∧ BagOwn w'' w'.heap.size z.rows ∧ Below w'.heap.size w' w'' := by
  intro z0 hz0 w' hr0
  have hf0 : L6.FitS z0.con := by rw [hz0]; exact HF0.out
  have h := L6.specDeleteItems_any z0 r1 hf0 HT1.out.1 HT1.out.2 w' hr0
  rw [hz0, hr0', hr1'] at h
  exact h
 replace Cspec := Lib.hid Cspec
 have Cimpl : ∀ (z0 : L6.LS), z0.con = C0 → ∀ w' : World, RowsRd w' w'.heap.size z0.rows → Calls Try.prog 27 #[.agg #[.string z0.name, .slice z0.a z0.xs.length z0.c, .int .i64 z0.auto], .agg #[.bool r1.hl, .bool r1.hh, .int .i64 r1.lo.kind, .int .i64 r1.lo.n, .string r1.lo.text, .int .i64 r1.hi.kind, .int .i64 r1.hi.n, .string r1.hi.text]] w' fun e w'' => ∃ z : L6.LS, e = .returned (.tuple #[.agg #[.string z.name, .slice z.a z.xs.length z.c, .int .i64 z.auto], .int .i64 r1']) ∧ z.con = r0' ∧ BagOwn w'' w'.heap.size z.rows ∧ Below w'.heap.size w' w'' := by
  intro z0 hz0 w' hr0
  have hf0 : L6.FitS z0.con := by rw [hz0]; exact HF0.out
  have h := L6.deleteItems_any z0 r1 hf0 HT1.out.1 HT1.out.2 w' hr0
  rw [hz0, hr0', hr1'] at h
  exact h
 replace Cimpl := Lib.hid Cimpl
 have HFR := Lib.hid (show L6.FitS r0' from by rw [← hr0']; exact L6.FitS_del HF0.out)
 clear hr0' hr1'
 have S4 := Lib.hid (show Sl.Sep W _ [_, _] from Bag.take S3.out [0, 1] (by rfl) (by decide))
 clear S3
 go_upto_region 8 with fail
 have HTO0 := Lib.hid (fun w' (h : Below W.heap.size W w') => L6.toStore_any y0 (by rw [HC0.out]; exact HF0.out) w' (HRY0.out w' h))
 try dsimp only [L6.LS.v, L6.LS.cells, L4.K.v, L4.R.v] at HTO0
 have HTO1 := Lib.hid (fun w' (h : Below W.heap.size W w') => L4.toKeyRange_any r1 w')
 try dsimp only [L6.LS.v, L6.LS.cells, L4.K.v, L4.R.v] at HTO1
 go_cut [6, 7] (fun pz0 qs0 wx => ∃ (g1a' : Nat) (z1' : L6.LS), pz0 = .pointer (some ⟨g1a', 0, none⟩) ∧ qs0 = .int .i64 r1' ∧ Hid (z1'.con = r0' ∧ Sl.Sep W wx [L4.boxR W.heap.size 57 #[.string y0.name, .slice y0.a y0.xs.length y0.c, .int .i64 y0.auto], L4.boxR (W.heap.size + 1) 74 #[.bool r1.hl, .bool r1.hh, .int .i64 r1.lo.kind, .int .i64 r1.lo.n, .string r1.lo.text, .int .i64 r1.hi.kind, .int .i64 r1.hi.n, .string r1.hi.text], Bag.bag z1'.rows, L4.boxR g1a' 26 #[.string z1'.name, .slice z1'.a z1'.xs.length z1'.c, .int .i64 z1'.auto]]))
 case first =>
  refine wp_region_held_drew (S := (fun w' => w'.cell? ⟨W.heap.size, 0, none⟩ = some (.string y0.name) ∧ w'.cell? ⟨W.heap.size, 1, none⟩ = some (.slice y0.a y0.xs.length y0.c) ∧ w'.cell? ⟨W.heap.size, 2, none⟩ = some (.int .i64 y0.auto) ∧ w'.cell? ⟨W.heap.size + 1, 0, none⟩ = some (.bool r1.hl) ∧ w'.cell? ⟨W.heap.size + 1, 1, none⟩ = some (.bool r1.hh) ∧ w'.cell? ⟨W.heap.size + 1, 2, none⟩ = some (.int .i64 r1.lo.kind) ∧ w'.cell? ⟨W.heap.size + 1, 3, none⟩ = some (.int .i64 r1.lo.n) ∧ w'.cell? ⟨W.heap.size + 1, 4, none⟩ = some (.string r1.lo.text) ∧ w'.cell? ⟨W.heap.size + 1, 5, none⟩ = some (.int .i64 r1.hi.kind) ∧ w'.cell? ⟨W.heap.size + 1, 6, none⟩ = some (.int .i64 r1.hi.n) ∧ w'.cell? ⟨W.heap.size + 1, 7, none⟩ = some (.string r1.hi.text))) (by kernel_rfl) ⟨Bag.cell_at S4.out 0 rfl 0 rfl, Bag.cell_at S4.out 0 rfl 1 rfl, Bag.cell_at S4.out 0 rfl 2 rfl, Bag.cell_at S4.out 1 rfl 0 rfl, Bag.cell_at S4.out 1 rfl 1 rfl, Bag.cell_at S4.out 1 rfl 2 rfl, Bag.cell_at S4.out 1 rfl 3 rfl, Bag.cell_at S4.out 1 rfl 4 rfl, Bag.cell_at S4.out 1 rfl 5 rfl, Bag.cell_at S4.out 1 rfl 6 rfl, Bag.cell_at S4.out 1 rfl 7 rfl⟩ (fun hS => ?_)
  have S5 := Lib.hid (Bag.drew1 S4.out)
  clear S4
  generalize World.drew _ = w3 at hS S5 ⊢
  refine tk 0 rfl ?_
  try simp only [zp0, zp1, zp2, zp3, zp4]
  refine tk 2 rfl ?_
  try simp only [zp0, zp1, zp2, zp3, zp4]
  refine wpAnyH_ready (rs := [1, 8]) (by kernel_rfl) (by simp) ?_
  refine Reg.cons_op (i := 1) rfl (fun K hK => ?_) ?_
  go_simp
  go_at_call 37
  refine (HTO0.out _ S5.out.old).mono ?_
  rintro e w4 ⟨zs0, rfl, hcon, ho, hb⟩
  have S6 := Lib.hid (show Sl.Sep W _ [_, _, Bag.bag zs0.rows] from Bag.push_bag S5.out hb ho)
  clear S5
  clear hb ho
  have HZzs0 := Lib.hid (hcon.trans HC0.out)
  clear hcon
  go_wp2_with fail
  refine hK.out _ _ ⟨Bag.cell_at S6.out 0 rfl 0 rfl, Bag.cell_at S6.out 0 rfl 1 rfl, Bag.cell_at S6.out 0 rfl 2 rfl, Bag.cell_at S6.out 1 rfl 0 rfl, Bag.cell_at S6.out 1 rfl 1 rfl, Bag.cell_at S6.out 1 rfl 2 rfl, Bag.cell_at S6.out 1 rfl 3 rfl, Bag.cell_at S6.out 1 rfl 4 rfl, Bag.cell_at S6.out 1 rfl 5 rfl, Bag.cell_at S6.out 1 rfl 6 rfl, Bag.cell_at S6.out 1 rfl 7 rfl⟩ (fun hS => ?_)
  clear hK K
  try simp only [zp0, zp1, zp2, zp3, zp4]
  refine wpAnyH_ready (rs := [3, 8]) (by kernel_rfl) (by simp) ?_
  refine Reg.cons_op (i := 3) rfl (fun K hK => ?_) ?_
  go_simp
  go_at_call 49
  refine (HTO1.out w4 S6.out.old).mono ?_
  rintro e w5 ⟨rfl, hb⟩
  have S7 := Lib.hid (show Sl.Sep W _ [_, _, _] from S6.out.keep hb)
  clear S6
  clear hb
  go_wp2_with fail
  refine hK.out _ _ ⟨Bag.cell_at S7.out 0 rfl 0 rfl, Bag.cell_at S7.out 0 rfl 1 rfl, Bag.cell_at S7.out 0 rfl 2 rfl, Bag.cell_at S7.out 1 rfl 0 rfl, Bag.cell_at S7.out 1 rfl 1 rfl, Bag.cell_at S7.out 1 rfl 2 rfl, Bag.cell_at S7.out 1 rfl 3 rfl, Bag.cell_at S7.out 1 rfl 4 rfl, Bag.cell_at S7.out 1 rfl 5 rfl, Bag.cell_at S7.out 1 rfl 6 rfl, Bag.cell_at S7.out 1 rfl 7 rfl⟩ (fun hS => ?_)
  clear hK K
  try simp only [zp0, zp1, zp2, zp3, zp4]
  refine wpAnyH_ready (rs := [4, 8]) (by kernel_rfl) (by simp) ?_
  refine Reg.cons_op (i := 4) rfl (fun K hK => ?_) ?_
  go_simp
  go_at_call 48
  refine (Cspec.out zs0 HZzs0.out _ (Bag.bag_rd S7.out 2 rfl)).mono ?_
  rintro e w6 ⟨zr, rfl, hcon, ho, hb⟩
  have S8 := Lib.hid (show Sl.Sep W _ [_, _, _, Bag.bag zr.rows] from Bag.push_bag S7.out hb ho)
  clear S7
  clear hb ho
  have HZzr := Lib.hid hcon
  clear hcon
  go_wp2_with fail
  refine hK.out _ _ ⟨Bag.cell_at S8.out 0 rfl 0 rfl, Bag.cell_at S8.out 0 rfl 1 rfl, Bag.cell_at S8.out 0 rfl 2 rfl, Bag.cell_at S8.out 1 rfl 0 rfl, Bag.cell_at S8.out 1 rfl 1 rfl, Bag.cell_at S8.out 1 rfl 2 rfl, Bag.cell_at S8.out 1 rfl 3 rfl, Bag.cell_at S8.out 1 rfl 4 rfl, Bag.cell_at S8.out 1 rfl 5 rfl, Bag.cell_at S8.out 1 rfl 6 rfl, Bag.cell_at S8.out 1 rfl 7 rfl⟩ (fun hS => ?_)
  clear hK K
  try simp only [zp0, zp1, zp2, zp3, zp4]
  refine tk 5 rfl ?_
  try simp only [zp0, zp1, zp2, zp3, zp4]
  refine tk 6 rfl ?_
  try simp only [zp0, zp1, zp2, zp3, zp4]
  refine tk 7 rfl ?_
  try simp only [zp0, zp1, zp2, zp3, zp4]
  refine Reg.one_op (i := 8) rfl (by kernel_rfl) (fun K hK => ?_)
  go_simp
  have S9 := Lib.hid (show Sl.Sep W _ [_, _, _, _, _] from L4.push_box S8.out 26 #[.string ⟨#[]⟩, .slice none 0 0, .int .i64 0] w6.heap.size rfl)
  clear S8
  obtain ⟨gb0, hg⟩ : ∃ g', g' = w6.heap.size := ⟨_, rfl⟩
  rw [← hg] at S9 ⊢
  clear hg
  generalize w6.alloc (.cells #[.string ⟨#[]⟩, .slice none 0 0, .int .i64 0] 26) = w7 at S9 ⊢
  refine hK.out _ _ ⟨Bag.cell_at S9.out 0 rfl 0 rfl, Bag.cell_at S9.out 0 rfl 1 rfl, Bag.cell_at S9.out 0 rfl 2 rfl, Bag.cell_at S9.out 1 rfl 0 rfl, Bag.cell_at S9.out 1 rfl 1 rfl, Bag.cell_at S9.out 1 rfl 2 rfl, Bag.cell_at S9.out 1 rfl 3 rfl, Bag.cell_at S9.out 1 rfl 4 rfl, Bag.cell_at S9.out 1 rfl 5 rfl, Bag.cell_at S9.out 1 rfl 6 rfl, Bag.cell_at S9.out 1 rfl 7 rfl⟩ (fun hS => ?_)
  clear hK K
  try simp only [zp0, zp1, zp2, zp3, zp4]
  have S10 := Lib.hid (show Sl.Sep W _ [_, _, _, L4.boxR gb0 26 #[.string ⟨#[]⟩, .slice none 0 0, .int .i64 0]] from Bag.take S9.out [0, 1, 3, 4] (by rfl) (by decide))
  clear S9
  rotate_left
  refine Reg.cons_op (i := 8) rfl (fun K hK => ?_) ?_
  go_simp
  have S8 := Lib.hid (show Sl.Sep W _ [_, _, _, _] from L4.push_box S7.out 26 #[.string ⟨#[]⟩, .slice none 0 0, .int .i64 0] w5.heap.size rfl)
  clear S7
  obtain ⟨gb0, hg⟩ : ∃ g', g' = w5.heap.size := ⟨_, rfl⟩
  rw [← hg] at S8 ⊢
  clear hg
  generalize w5.alloc (.cells #[.string ⟨#[]⟩, .slice none 0 0, .int .i64 0] 26) = w6 at S8 ⊢
  refine hK.out _ _ ⟨Bag.cell_at S8.out 0 rfl 0 rfl, Bag.cell_at S8.out 0 rfl 1 rfl, Bag.cell_at S8.out 0 rfl 2 rfl, Bag.cell_at S8.out 1 rfl 0 rfl, Bag.cell_at S8.out 1 rfl 1 rfl, Bag.cell_at S8.out 1 rfl 2 rfl, Bag.cell_at S8.out 1 rfl 3 rfl, Bag.cell_at S8.out 1 rfl 4 rfl, Bag.cell_at S8.out 1 rfl 5 rfl, Bag.cell_at S8.out 1 rfl 6 rfl, Bag.cell_at S8.out 1 rfl 7 rfl⟩ (fun hS => ?_)
  clear hK K
  try simp only [zp0, zp1, zp2, zp3, zp4]
  refine Reg.one_op (i := 4) rfl (by kernel_rfl) (fun K hK => ?_)
  go_simp
  go_at_call 48
  refine (Cspec.out zs0 HZzs0.out _ (Bag.bag_rd S8.out 2 rfl)).mono ?_
  rintro e w7 ⟨zr, rfl, hcon, ho, hb⟩
  have S9 := Lib.hid (show Sl.Sep W _ [_, _, _, L4.boxR gb0 26 #[.string ⟨#[]⟩, .slice none 0 0, .int .i64 0], Bag.bag zr.rows] from Bag.push_bag S8.out hb ho)
  clear S8
  clear hb ho
  have HZzr := Lib.hid hcon
  clear hcon
  go_wp2_with fail
  refine hK.out _ _ ⟨Bag.cell_at S9.out 0 rfl 0 rfl, Bag.cell_at S9.out 0 rfl 1 rfl, Bag.cell_at S9.out 0 rfl 2 rfl, Bag.cell_at S9.out 1 rfl 0 rfl, Bag.cell_at S9.out 1 rfl 1 rfl, Bag.cell_at S9.out 1 rfl 2 rfl, Bag.cell_at S9.out 1 rfl 3 rfl, Bag.cell_at S9.out 1 rfl 4 rfl, Bag.cell_at S9.out 1 rfl 5 rfl, Bag.cell_at S9.out 1 rfl 6 rfl, Bag.cell_at S9.out 1 rfl 7 rfl⟩ (fun hS => ?_)
  clear hK K
  try simp only [zp0, zp1, zp2, zp3, zp4]
  refine tk 5 rfl ?_
  try simp only [zp0, zp1, zp2, zp3, zp4]
  refine tk 6 rfl ?_
  try simp only [zp0, zp1, zp2, zp3, zp4]
  refine tk 7 rfl ?_
  try simp only [zp0, zp1, zp2, zp3, zp4]
  have S10 := Lib.hid (show Sl.Sep W _ [_, _, _, _] from Bag.take S9.out [0, 1, 4, 3] (by rfl) (by decide))
  clear S9
  rotate_left
  exact AllReadyH.nil
  refine Reg.cons_op (i := 8) rfl (fun K hK => ?_) ?_
  go_simp
  have S7 := Lib.hid (show Sl.Sep W _ [_, _, _, _] from L4.push_box S6.out 26 #[.string ⟨#[]⟩, .slice none 0 0, .int .i64 0] w4.heap.size rfl)
  clear S6
  obtain ⟨gb0, hg⟩ : ∃ g', g' = w4.heap.size := ⟨_, rfl⟩
  rw [← hg] at S7 ⊢
  clear hg
  generalize w4.alloc (.cells #[.string ⟨#[]⟩, .slice none 0 0, .int .i64 0] 26) = w5 at S7 ⊢
  refine hK.out _ _ ⟨Bag.cell_at S7.out 0 rfl 0 rfl, Bag.cell_at S7.out 0 rfl 1 rfl, Bag.cell_at S7.out 0 rfl 2 rfl, Bag.cell_at S7.out 1 rfl 0 rfl, Bag.cell_at S7.out 1 rfl 1 rfl, Bag.cell_at S7.out 1 rfl 2 rfl, Bag.cell_at S7.out 1 rfl 3 rfl, Bag.cell_at S7.out 1 rfl 4 rfl, Bag.cell_at S7.out 1 rfl 5 rfl, Bag.cell_at S7.out 1 rfl 6 rfl, Bag.cell_at S7.out 1 rfl 7 rfl⟩ (fun hS => ?_)
  clear hK K
  try simp only [zp0, zp1, zp2, zp3, zp4]
  refine Reg.one_op (i := 3) rfl (by kernel_rfl) (fun K hK => ?_)
  go_simp
  go_at_call 49
  refine (HTO1.out w5 S7.out.old).mono ?_
  rintro e w6 ⟨rfl, hb⟩
  have S8 := Lib.hid (show Sl.Sep W _ [_, _, _, L4.boxR gb0 26 #[.string ⟨#[]⟩, .slice none 0 0, .int .i64 0]] from S7.out.keep hb)
  clear S7
  clear hb
  go_wp2_with fail
  refine hK.out _ _ ⟨Bag.cell_at S8.out 0 rfl 0 rfl, Bag.cell_at S8.out 0 rfl 1 rfl, Bag.cell_at S8.out 0 rfl 2 rfl, Bag.cell_at S8.out 1 rfl 0 rfl, Bag.cell_at S8.out 1 rfl 1 rfl, Bag.cell_at S8.out 1 rfl 2 rfl, Bag.cell_at S8.out 1 rfl 3 rfl, Bag.cell_at S8.out 1 rfl 4 rfl, Bag.cell_at S8.out 1 rfl 5 rfl, Bag.cell_at S8.out 1 rfl 6 rfl, Bag.cell_at S8.out 1 rfl 7 rfl⟩ (fun hS => ?_)
  clear hK K
  try simp only [zp0, zp1, zp2, zp3, zp4]
  refine Reg.one_op (i := 4) rfl (by kernel_rfl) (fun K hK => ?_)
  go_simp
  go_at_call 48
  refine (Cspec.out zs0 HZzs0.out _ (Bag.bag_rd S8.out 2 rfl)).mono ?_
  rintro e w7 ⟨zr, rfl, hcon, ho, hb⟩
  have S9 := Lib.hid (show Sl.Sep W _ [_, _, _, _, Bag.bag zr.rows] from Bag.push_bag S8.out hb ho)
  clear S8
  clear hb ho
  have HZzr := Lib.hid hcon
  clear hcon
  go_wp2_with fail
  refine hK.out _ _ ⟨Bag.cell_at S9.out 0 rfl 0 rfl, Bag.cell_at S9.out 0 rfl 1 rfl, Bag.cell_at S9.out 0 rfl 2 rfl, Bag.cell_at S9.out 1 rfl 0 rfl, Bag.cell_at S9.out 1 rfl 1 rfl, Bag.cell_at S9.out 1 rfl 2 rfl, Bag.cell_at S9.out 1 rfl 3 rfl, Bag.cell_at S9.out 1 rfl 4 rfl, Bag.cell_at S9.out 1 rfl 5 rfl, Bag.cell_at S9.out 1 rfl 6 rfl, Bag.cell_at S9.out 1 rfl 7 rfl⟩ (fun hS => ?_)
  clear hK K
  try simp only [zp0, zp1, zp2, zp3, zp4]
  refine tk 5 rfl ?_
  try simp only [zp0, zp1, zp2, zp3, zp4]
  refine tk 6 rfl ?_
  try simp only [zp0, zp1, zp2, zp3, zp4]
  refine tk 7 rfl ?_
  try simp only [zp0, zp1, zp2, zp3, zp4]
  have S10 := Lib.hid (show Sl.Sep W _ [_, _, _, _] from Bag.take S9.out [0, 1, 4, 3] (by rfl) (by decide))
  clear S9
  rotate_left
  exact AllReadyH.nil
  refine Reg.cons_op (i := 8) rfl (fun K hK => ?_) ?_
  go_simp
  have S6 := Lib.hid (show Sl.Sep W _ [_, _, _] from L4.push_box S5.out 26 #[.string ⟨#[]⟩, .slice none 0 0, .int .i64 0] w3.heap.size rfl)
  clear S5
  obtain ⟨gb0, hg⟩ : ∃ g', g' = w3.heap.size := ⟨_, rfl⟩
  rw [← hg] at S6 ⊢
  clear hg
  generalize w3.alloc (.cells #[.string ⟨#[]⟩, .slice none 0 0, .int .i64 0] 26) = w4 at S6 ⊢
  refine hK.out _ _ ⟨Bag.cell_at S6.out 0 rfl 0 rfl, Bag.cell_at S6.out 0 rfl 1 rfl, Bag.cell_at S6.out 0 rfl 2 rfl, Bag.cell_at S6.out 1 rfl 0 rfl, Bag.cell_at S6.out 1 rfl 1 rfl, Bag.cell_at S6.out 1 rfl 2 rfl, Bag.cell_at S6.out 1 rfl 3 rfl, Bag.cell_at S6.out 1 rfl 4 rfl, Bag.cell_at S6.out 1 rfl 5 rfl, Bag.cell_at S6.out 1 rfl 6 rfl, Bag.cell_at S6.out 1 rfl 7 rfl⟩ (fun hS => ?_)
  clear hK K
  try simp only [zp0, zp1, zp2, zp3, zp4]
  refine Reg.one_op (i := 1) rfl (by kernel_rfl) (fun K hK => ?_)
  go_simp
  go_at_call 37
  refine (HTO0.out _ S6.out.old).mono ?_
  rintro e w5 ⟨zs0, rfl, hcon, ho, hb⟩
  have S7 := Lib.hid (show Sl.Sep W _ [_, _, L4.boxR gb0 26 #[.string ⟨#[]⟩, .slice none 0 0, .int .i64 0], Bag.bag zs0.rows] from Bag.push_bag S6.out hb ho)
  clear S6
  clear hb ho
  have HZzs0 := Lib.hid (hcon.trans HC0.out)
  clear hcon
  go_wp2_with fail
  refine hK.out _ _ ⟨Bag.cell_at S7.out 0 rfl 0 rfl, Bag.cell_at S7.out 0 rfl 1 rfl, Bag.cell_at S7.out 0 rfl 2 rfl, Bag.cell_at S7.out 1 rfl 0 rfl, Bag.cell_at S7.out 1 rfl 1 rfl, Bag.cell_at S7.out 1 rfl 2 rfl, Bag.cell_at S7.out 1 rfl 3 rfl, Bag.cell_at S7.out 1 rfl 4 rfl, Bag.cell_at S7.out 1 rfl 5 rfl, Bag.cell_at S7.out 1 rfl 6 rfl, Bag.cell_at S7.out 1 rfl 7 rfl⟩ (fun hS => ?_)
  clear hK K
  try simp only [zp0, zp1, zp2, zp3, zp4]
  refine Reg.one_op (i := 3) rfl (by kernel_rfl) (fun K hK => ?_)
  go_simp
  go_at_call 49
  refine (HTO1.out w5 S7.out.old).mono ?_
  rintro e w6 ⟨rfl, hb⟩
  have S8 := Lib.hid (show Sl.Sep W _ [_, _, _, _] from S7.out.keep hb)
  clear S7
  clear hb
  go_wp2_with fail
  refine hK.out _ _ ⟨Bag.cell_at S8.out 0 rfl 0 rfl, Bag.cell_at S8.out 0 rfl 1 rfl, Bag.cell_at S8.out 0 rfl 2 rfl, Bag.cell_at S8.out 1 rfl 0 rfl, Bag.cell_at S8.out 1 rfl 1 rfl, Bag.cell_at S8.out 1 rfl 2 rfl, Bag.cell_at S8.out 1 rfl 3 rfl, Bag.cell_at S8.out 1 rfl 4 rfl, Bag.cell_at S8.out 1 rfl 5 rfl, Bag.cell_at S8.out 1 rfl 6 rfl, Bag.cell_at S8.out 1 rfl 7 rfl⟩ (fun hS => ?_)
  clear hK K
  try simp only [zp0, zp1, zp2, zp3, zp4]
  refine Reg.one_op (i := 4) rfl (by kernel_rfl) (fun K hK => ?_)
  go_simp
  go_at_call 48
  refine (Cspec.out zs0 HZzs0.out _ (Bag.bag_rd S8.out 3 rfl)).mono ?_
  rintro e w7 ⟨zr, rfl, hcon, ho, hb⟩
  have S9 := Lib.hid (show Sl.Sep W _ [_, _, _, _, Bag.bag zr.rows] from Bag.push_bag S8.out hb ho)
  clear S8
  clear hb ho
  have HZzr := Lib.hid hcon
  clear hcon
  go_wp2_with fail
  refine hK.out _ _ ⟨Bag.cell_at S9.out 0 rfl 0 rfl, Bag.cell_at S9.out 0 rfl 1 rfl, Bag.cell_at S9.out 0 rfl 2 rfl, Bag.cell_at S9.out 1 rfl 0 rfl, Bag.cell_at S9.out 1 rfl 1 rfl, Bag.cell_at S9.out 1 rfl 2 rfl, Bag.cell_at S9.out 1 rfl 3 rfl, Bag.cell_at S9.out 1 rfl 4 rfl, Bag.cell_at S9.out 1 rfl 5 rfl, Bag.cell_at S9.out 1 rfl 6 rfl, Bag.cell_at S9.out 1 rfl 7 rfl⟩ (fun hS => ?_)
  clear hK K
  try simp only [zp0, zp1, zp2, zp3, zp4]
  refine tk 5 rfl ?_
  try simp only [zp0, zp1, zp2, zp3, zp4]
  refine tk 6 rfl ?_
  try simp only [zp0, zp1, zp2, zp3, zp4]
  refine tk 7 rfl ?_
  try simp only [zp0, zp1, zp2, zp3, zp4]
  have S10 := Lib.hid (show Sl.Sep W _ [_, _, _, _] from Bag.take S9.out [0, 1, 4, 2] (by rfl) (by decide))
  clear S9
  rotate_left
  exact AllReadyH.nil
  all_goals
   refine Reg.one_op (i := 9) rfl (by kernel_rfl) (fun K hK => ?_)
   have f0 : World.cell? _ ⟨gb0, 0, none⟩ = some (.string ⟨#[]⟩) := Bag.cell_at S10.out 3 rfl 0 rfl
   have f1 : World.cell? _ ⟨gb0, 1, none⟩ = some (.slice none 0 0) := Bag.cell_at S10.out 3 rfl 1 rfl
   have f2 : World.cell? _ ⟨gb0, 2, none⟩ = some (.int .i64 0) := Bag.cell_at S10.out 3 rfl 2 rfl
   have z0 := Bag.free_at S10.out 3 rfl 0
   have z1 := Bag.free_at S10.out 3 rfl 1
   have z2 := Bag.free_at S10.out 3 rfl 2
   go_simp
   clear f0 f1 f2 z0 z1 z2
   have S11 := Lib.hid (show Sl.Sep W _ [_, _, _, L4.boxR gb0 26 #[.string zr.name, .slice zr.a zr.xs.length zr.c, .int .i64 zr.auto]] from L5.put_box5 (L5.put_box5 (L5.put_box5 (S10.out) 3 rfl 0 (.string zr.name)) 3 rfl 1 (.slice zr.a zr.xs.length zr.c)) 3 rfl 2 (.int .i64 zr.auto))
   clear S10
   refine hK.out _ _ ⟨Bag.cell_at S11.out 0 rfl 0 rfl, Bag.cell_at S11.out 0 rfl 1 rfl, Bag.cell_at S11.out 0 rfl 2 rfl, Bag.cell_at S11.out 1 rfl 0 rfl, Bag.cell_at S11.out 1 rfl 1 rfl, Bag.cell_at S11.out 1 rfl 2 rfl, Bag.cell_at S11.out 1 rfl 3 rfl, Bag.cell_at S11.out 1 rfl 4 rfl, Bag.cell_at S11.out 1 rfl 5 rfl, Bag.cell_at S11.out 1 rfl 6 rfl, Bag.cell_at S11.out 1 rfl 7 rfl⟩ (fun hS => ?_)
   clear hK K
   try simp only [zp0, zp1, zp2, zp3, zp4]
   refine tk 10 rfl ?_
   try simp only [zp0, zp1, zp2, zp3, zp4]
   refine wpAnyH_done (by kernel_rfl) ?_ _
   go_wp2_with fail
   go_meet
   case rel =>
    exact ⟨gb0, zr, rfl, rfl, And.intro HZzr.out S11.out⟩
 case rest =>
  obtain ⟨g1a', z1', rfl, rfl, hq⟩ := hcut
  have HZz1' := Lib.hid hq.out.1
  have S5 := Lib.hid hq.out.2
  clear hq S4 HTO0 HTO1
  have f0 : World.cell? _ ⟨W.heap.size, 0, none⟩ = some (.string y0.name) := Bag.cell_at S5.out 0 rfl 0 rfl
  have f1 : World.cell? _ ⟨W.heap.size, 1, none⟩ = some (.slice y0.a y0.xs.length y0.c) := Bag.cell_at S5.out 0 rfl 1 rfl
  have f2 : World.cell? _ ⟨W.heap.size, 2, none⟩ = some (.int .i64 y0.auto) := Bag.cell_at S5.out 0 rfl 2 rfl
  go_wp2_with fail
  go_at_call 37
  have HC := L6.toStore_any y0 (by rw [HC0.out]; exact HF0.out) _ (HRY0.out _ S5.out.old)
  try dsimp only [L6.LS.v, L6.LS.cells, L4.K.v, L4.R.v] at HC
  refine HC.mono ?_
  clear HC
  rintro e w3 ⟨z2', rfl, hcon, ho, hb⟩
  clear f0 f1 f2
  have S6 := Lib.hid (show Sl.Sep W _ [_, _, Bag.bag z1'.rows, L4.boxR g1a' 26 #[.string z1'.name, .slice z1'.a z1'.xs.length z1'.c, .int .i64 z1'.auto], Bag.bag z2'.rows] from Bag.push_bag S5.out hb ho)
  clear S5
  clear hb ho
  have HZz2' := Lib.hid (hcon.trans HC0.out)
  clear hcon
  try dsimp only [L6.LS.v, L6.LS.cells]
  go_upto_region 10 with fail
  have S7 := Lib.hid (show Sl.Sep W _ [_, _, _, _, _, _] from L4.push_box S6.out 26 #[.string z2'.name, .slice z2'.a z2'.xs.length z2'.c, .int .i64 z2'.auto] w3.heap.size rfl)
  clear S6
  obtain ⟨g1, hg⟩ : ∃ g', g' = w3.heap.size := ⟨_, rfl⟩
  rw [← hg] at S7 ⊢
  clear hg
  generalize w3.alloc (.cells #[.string z2'.name, .slice z2'.a z2'.xs.length z2'.c, .int .i64 z2'.auto] 26) = w4 at S7 ⊢
  have S8 := Lib.hid (show Sl.Sep W _ [_, _, L4.boxR g1 26 #[.string z2'.name, .slice z2'.a z2'.xs.length z2'.c, .int .i64 z2'.auto], _, _, _] from Bag.take S7.out [1, 4, 5, 0, 2, 3] (by rfl) (by decide))
  clear S7
  have S9 := Lib.hid (show Sl.Sep W _ [L4.boxR (W.heap.size + 1) 74 #[.bool r1.hl, .bool r1.hh, .int .i64 r1.lo.kind, .int .i64 r1.lo.n, .string r1.lo.text, .int .i64 r1.hi.kind, .int .i64 r1.hi.n, .string r1.hi.text], Bag.bag z2'.rows, L4.boxR g1 26 #[.string z2'.name, .slice z2'.a z2'.xs.length z2'.c, .int .i64 z2'.auto], Run.allR [L4.boxR W.heap.size 57 #[.string y0.name, .slice y0.a y0.xs.length y0.c, .int .i64 y0.auto], Bag.bag z1'.rows, L4.boxR g1a' 26 #[.string z1'.name, .slice z1'.a z1'.xs.length z1'.c, .int .i64 z1'.auto]]] from Run.packR (us := [L4.boxR (W.heap.size + 1) 74 #[.bool r1.hl, .bool r1.hh, .int .i64 r1.lo.kind, .int .i64 r1.lo.n, .string r1.lo.text, .int .i64 r1.hi.kind, .int .i64 r1.hi.n, .string r1.hi.text], Bag.bag z2'.rows, L4.boxR g1 26 #[.string z2'.name, .slice z2'.a z2'.xs.length z2'.c, .int .i64 z2'.auto]]) (vs := [L4.boxR W.heap.size 57 #[.string y0.name, .slice y0.a y0.xs.length y0.c, .int .i64 y0.auto], Bag.bag z1'.rows, L4.boxR g1a' 26 #[.string z1'.name, .slice z1'.a z1'.xs.length z1'.c, .int .i64 z1'.auto]]) S8.out)
  clear S8
  obtain ⟨QQ, hQQ⟩ : ∃ Q, Q = Run.allR [L4.boxR W.heap.size 57 #[.string y0.name, .slice y0.a y0.xs.length y0.c, .int .i64 y0.auto], Bag.bag z1'.rows, L4.boxR g1a' 26 #[.string z1'.name, .slice z1'.a z1'.xs.length z1'.c, .int .i64 z1'.auto]] := ⟨_, rfl⟩
  rw [← hQQ] at S9
  have HQQ := Lib.hid hQQ
  clear hQQ
  go_upto_region 10 with fail
  have HTO0 := Lib.hid (fun w' (h : Below W.heap.size W w') => L4.toKeyRange_any r1 w')
  try dsimp only [L6.LS.v, L6.LS.cells, L4.K.v, L4.R.v] at HTO0
  go_cut [9, 10] (fun pz0 qs0 wx => ∃ (g3a' : Nat) (z3' : L6.LS), pz0 = .pointer (some ⟨g3a', 0, none⟩) ∧ qs0 = .int .i64 r1' ∧ Hid (z3'.con = r0' ∧ Sl.Sep W wx [L4.boxR (W.heap.size + 1) 74 #[.bool r1.hl, .bool r1.hh, .int .i64 r1.lo.kind, .int .i64 r1.lo.n, .string r1.lo.text, .int .i64 r1.hi.kind, .int .i64 r1.hi.n, .string r1.hi.text], Bag.bag z2'.rows, L4.boxR g1 26 #[.string z2'.name, .slice z2'.a z2'.xs.length z2'.c, .int .i64 z2'.auto], QQ, Bag.bag z3'.rows, L4.boxR g3a' 26 #[.string z3'.name, .slice z3'.a z3'.xs.length z3'.c, .int .i64 z3'.auto]]))
  case first =>
   refine wp_region_held_drew (S := (fun w' => w'.cell? ⟨W.heap.size + 1, 0, none⟩ = some (.bool r1.hl) ∧ w'.cell? ⟨W.heap.size + 1, 1, none⟩ = some (.bool r1.hh) ∧ w'.cell? ⟨W.heap.size + 1, 2, none⟩ = some (.int .i64 r1.lo.kind) ∧ w'.cell? ⟨W.heap.size + 1, 3, none⟩ = some (.int .i64 r1.lo.n) ∧ w'.cell? ⟨W.heap.size + 1, 4, none⟩ = some (.string r1.lo.text) ∧ w'.cell? ⟨W.heap.size + 1, 5, none⟩ = some (.int .i64 r1.hi.kind) ∧ w'.cell? ⟨W.heap.size + 1, 6, none⟩ = some (.int .i64 r1.hi.n) ∧ w'.cell? ⟨W.heap.size + 1, 7, none⟩ = some (.string r1.hi.text) ∧ w'.cell? ⟨g1, 0, none⟩ = some (.string z2'.name) ∧ w'.cell? ⟨g1, 1, none⟩ = some (.slice z2'.a z2'.xs.length z2'.c) ∧ w'.cell? ⟨g1, 2, none⟩ = some (.int .i64 z2'.auto))) (by kernel_rfl) ⟨Bag.cell_at S9.out 0 rfl 0 rfl, Bag.cell_at S9.out 0 rfl 1 rfl, Bag.cell_at S9.out 0 rfl 2 rfl, Bag.cell_at S9.out 0 rfl 3 rfl, Bag.cell_at S9.out 0 rfl 4 rfl, Bag.cell_at S9.out 0 rfl 5 rfl, Bag.cell_at S9.out 0 rfl 6 rfl, Bag.cell_at S9.out 0 rfl 7 rfl, Bag.cell_at S9.out 2 rfl 0 rfl, Bag.cell_at S9.out 2 rfl 1 rfl, Bag.cell_at S9.out 2 rfl 2 rfl⟩ (fun hS => ?_)
   have S10 := Lib.hid (Bag.drew1 S9.out)
   clear S9
   generalize World.drew _ = w5 at hS S10 ⊢
   refine tk 0 rfl ?_
   try simp only [zp0, zp1, zp2, zp3, zp4]
   refine tk 1 rfl ?_
   try simp only [zp0, zp1, zp2, zp3, zp4]
   refine wpAnyH_ready (rs := [2, 7]) (by kernel_rfl) (by simp) ?_
   refine Reg.cons_op (i := 2) rfl (fun K hK => ?_) ?_
   go_simp
   go_at_call 49
   refine (HTO0.out w5 S10.out.old).mono ?_
   rintro e w6 ⟨rfl, hb⟩
   have S11 := Lib.hid (show Sl.Sep W _ [_, _, _, QQ] from S10.out.keep hb)
   clear S10
   clear hb
   go_wp2_with fail
   refine hK.out _ _ ⟨Bag.cell_at S11.out 0 rfl 0 rfl, Bag.cell_at S11.out 0 rfl 1 rfl, Bag.cell_at S11.out 0 rfl 2 rfl, Bag.cell_at S11.out 0 rfl 3 rfl, Bag.cell_at S11.out 0 rfl 4 rfl, Bag.cell_at S11.out 0 rfl 5 rfl, Bag.cell_at S11.out 0 rfl 6 rfl, Bag.cell_at S11.out 0 rfl 7 rfl, Bag.cell_at S11.out 2 rfl 0 rfl, Bag.cell_at S11.out 2 rfl 1 rfl, Bag.cell_at S11.out 2 rfl 2 rfl⟩ (fun hS => ?_)
   clear hK K
   try simp only [zp0, zp1, zp2, zp3, zp4]
   refine wpAnyH_ready (rs := [3, 7]) (by kernel_rfl) (by simp) ?_
   refine Reg.cons_op (i := 3) rfl (fun K hK => ?_) ?_
   go_simp
   go_at_call 27
   refine (Cimpl.out z2' HZz2'.out _ (Bag.bag_rd S11.out 1 rfl)).mono ?_
   rintro e w7 ⟨zr, rfl, hcon, ho, hb⟩
   have S12 := Lib.hid (show Sl.Sep W _ [_, _, _, QQ, Bag.bag zr.rows] from Bag.push_bag S11.out hb ho)
   clear S11
   clear hb ho
   have HZzr := Lib.hid hcon
   clear hcon
   go_wp2_with fail
   refine hK.out _ _ ⟨Bag.cell_at S12.out 0 rfl 0 rfl, Bag.cell_at S12.out 0 rfl 1 rfl, Bag.cell_at S12.out 0 rfl 2 rfl, Bag.cell_at S12.out 0 rfl 3 rfl, Bag.cell_at S12.out 0 rfl 4 rfl, Bag.cell_at S12.out 0 rfl 5 rfl, Bag.cell_at S12.out 0 rfl 6 rfl, Bag.cell_at S12.out 0 rfl 7 rfl, Bag.cell_at S12.out 2 rfl 0 rfl, Bag.cell_at S12.out 2 rfl 1 rfl, Bag.cell_at S12.out 2 rfl 2 rfl⟩ (fun hS => ?_)
   clear hK K
   try simp only [zp0, zp1, zp2, zp3, zp4]
   refine tk 4 rfl ?_
   try simp only [zp0, zp1, zp2, zp3, zp4]
   refine tk 5 rfl ?_
   try simp only [zp0, zp1, zp2, zp3, zp4]
   refine tk 6 rfl ?_
   try simp only [zp0, zp1, zp2, zp3, zp4]
   refine Reg.one_op (i := 7) rfl (by kernel_rfl) (fun K hK => ?_)
   go_simp
   have S13 := Lib.hid (show Sl.Sep W _ [_, _, _, _, _, _] from L4.push_box S12.out 26 #[.string ⟨#[]⟩, .slice none 0 0, .int .i64 0] w7.heap.size rfl)
   clear S12
   obtain ⟨gb0, hg⟩ : ∃ g', g' = w7.heap.size := ⟨_, rfl⟩
   rw [← hg] at S13 ⊢
   clear hg
   generalize w7.alloc (.cells #[.string ⟨#[]⟩, .slice none 0 0, .int .i64 0] 26) = w8 at S13 ⊢
   refine hK.out _ _ ⟨Bag.cell_at S13.out 0 rfl 0 rfl, Bag.cell_at S13.out 0 rfl 1 rfl, Bag.cell_at S13.out 0 rfl 2 rfl, Bag.cell_at S13.out 0 rfl 3 rfl, Bag.cell_at S13.out 0 rfl 4 rfl, Bag.cell_at S13.out 0 rfl 5 rfl, Bag.cell_at S13.out 0 rfl 6 rfl, Bag.cell_at S13.out 0 rfl 7 rfl, Bag.cell_at S13.out 2 rfl 0 rfl, Bag.cell_at S13.out 2 rfl 1 rfl, Bag.cell_at S13.out 2 rfl 2 rfl⟩ (fun hS => ?_)
   clear hK K
   try simp only [zp0, zp1, zp2, zp3, zp4]
   have S14 := Lib.hid (show Sl.Sep W _ [_, _, _, QQ, _, L4.boxR gb0 26 #[.string ⟨#[]⟩, .slice none 0 0, .int .i64 0]] from Bag.take S13.out [0, 1, 2, 3, 4, 5] (by rfl) (by decide))
   clear S13
   rotate_left
   refine Reg.cons_op (i := 7) rfl (fun K hK => ?_) ?_
   go_simp
   have S12 := Lib.hid (show Sl.Sep W _ [_, _, _, _, _] from L4.push_box S11.out 26 #[.string ⟨#[]⟩, .slice none 0 0, .int .i64 0] w6.heap.size rfl)
   clear S11
   obtain ⟨gb0, hg⟩ : ∃ g', g' = w6.heap.size := ⟨_, rfl⟩
   rw [← hg] at S12 ⊢
   clear hg
   generalize w6.alloc (.cells #[.string ⟨#[]⟩, .slice none 0 0, .int .i64 0] 26) = w7 at S12 ⊢
   refine hK.out _ _ ⟨Bag.cell_at S12.out 0 rfl 0 rfl, Bag.cell_at S12.out 0 rfl 1 rfl, Bag.cell_at S12.out 0 rfl 2 rfl, Bag.cell_at S12.out 0 rfl 3 rfl, Bag.cell_at S12.out 0 rfl 4 rfl, Bag.cell_at S12.out 0 rfl 5 rfl, Bag.cell_at S12.out 0 rfl 6 rfl, Bag.cell_at S12.out 0 rfl 7 rfl, Bag.cell_at S12.out 2 rfl 0 rfl, Bag.cell_at S12.out 2 rfl 1 rfl, Bag.cell_at S12.out 2 rfl 2 rfl⟩ (fun hS => ?_)
   clear hK K
   try simp only [zp0, zp1, zp2, zp3, zp4]
   refine Reg.one_op (i := 3) rfl (by kernel_rfl) (fun K hK => ?_)
   go_simp
   go_at_call 27
   refine (Cimpl.out z2' HZz2'.out _ (Bag.bag_rd S12.out 1 rfl)).mono ?_
   rintro e w8 ⟨zr, rfl, hcon, ho, hb⟩
   have S13 := Lib.hid (show Sl.Sep W _ [_, _, _, QQ, L4.boxR gb0 26 #[.string ⟨#[]⟩, .slice none 0 0, .int .i64 0], Bag.bag zr.rows] from Bag.push_bag S12.out hb ho)
   clear S12
   clear hb ho
   have HZzr := Lib.hid hcon
   clear hcon
   go_wp2_with fail
   refine hK.out _ _ ⟨Bag.cell_at S13.out 0 rfl 0 rfl, Bag.cell_at S13.out 0 rfl 1 rfl, Bag.cell_at S13.out 0 rfl 2 rfl, Bag.cell_at S13.out 0 rfl 3 rfl, Bag.cell_at S13.out 0 rfl 4 rfl, Bag.cell_at S13.out 0 rfl 5 rfl, Bag.cell_at S13.out 0 rfl 6 rfl, Bag.cell_at S13.out 0 rfl 7 rfl, Bag.cell_at S13.out 2 rfl 0 rfl, Bag.cell_at S13.out 2 rfl 1 rfl, Bag.cell_at S13.out 2 rfl 2 rfl⟩ (fun hS => ?_)
   clear hK K
   try simp only [zp0, zp1, zp2, zp3, zp4]
   refine tk 4 rfl ?_
   try simp only [zp0, zp1, zp2, zp3, zp4]
   refine tk 5 rfl ?_
   try simp only [zp0, zp1, zp2, zp3, zp4]
   refine tk 6 rfl ?_
   try simp only [zp0, zp1, zp2, zp3, zp4]
   have S14 := Lib.hid (show Sl.Sep W _ [_, _, _, QQ, _, _] from Bag.take S13.out [0, 1, 2, 3, 5, 4] (by rfl) (by decide))
   clear S13
   rotate_left
   exact AllReadyH.nil
   refine Reg.cons_op (i := 7) rfl (fun K hK => ?_) ?_
   go_simp
   have S11 := Lib.hid (show Sl.Sep W _ [_, _, _, _, _] from L4.push_box S10.out 26 #[.string ⟨#[]⟩, .slice none 0 0, .int .i64 0] w5.heap.size rfl)
   clear S10
   obtain ⟨gb0, hg⟩ : ∃ g', g' = w5.heap.size := ⟨_, rfl⟩
   rw [← hg] at S11 ⊢
   clear hg
   generalize w5.alloc (.cells #[.string ⟨#[]⟩, .slice none 0 0, .int .i64 0] 26) = w6 at S11 ⊢
   refine hK.out _ _ ⟨Bag.cell_at S11.out 0 rfl 0 rfl, Bag.cell_at S11.out 0 rfl 1 rfl, Bag.cell_at S11.out 0 rfl 2 rfl, Bag.cell_at S11.out 0 rfl 3 rfl, Bag.cell_at S11.out 0 rfl 4 rfl, Bag.cell_at S11.out 0 rfl 5 rfl, Bag.cell_at S11.out 0 rfl 6 rfl, Bag.cell_at S11.out 0 rfl 7 rfl, Bag.cell_at S11.out 2 rfl 0 rfl, Bag.cell_at S11.out 2 rfl 1 rfl, Bag.cell_at S11.out 2 rfl 2 rfl⟩ (fun hS => ?_)
   clear hK K
   try simp only [zp0, zp1, zp2, zp3, zp4]
   refine Reg.one_op (i := 2) rfl (by kernel_rfl) (fun K hK => ?_)
   go_simp
   go_at_call 49
   refine (HTO0.out w6 S11.out.old).mono ?_
   rintro e w7 ⟨rfl, hb⟩
   have S12 := Lib.hid (show Sl.Sep W _ [_, _, _, QQ, L4.boxR gb0 26 #[.string ⟨#[]⟩, .slice none 0 0, .int .i64 0]] from S11.out.keep hb)
   clear S11
   clear hb
   go_wp2_with fail
   refine hK.out _ _ ⟨Bag.cell_at S12.out 0 rfl 0 rfl, Bag.cell_at S12.out 0 rfl 1 rfl, Bag.cell_at S12.out 0 rfl 2 rfl, Bag.cell_at S12.out 0 rfl 3 rfl, Bag.cell_at S12.out 0 rfl 4 rfl, Bag.cell_at S12.out 0 rfl 5 rfl, Bag.cell_at S12.out 0 rfl 6 rfl, Bag.cell_at S12.out 0 rfl 7 rfl, Bag.cell_at S12.out 2 rfl 0 rfl, Bag.cell_at S12.out 2 rfl 1 rfl, Bag.cell_at S12.out 2 rfl 2 rfl⟩ (fun hS => ?_)
   clear hK K
   try simp only [zp0, zp1, zp2, zp3, zp4]
   refine Reg.one_op (i := 3) rfl (by kernel_rfl) (fun K hK => ?_)
   go_simp
   go_at_call 27
   refine (Cimpl.out z2' HZz2'.out _ (Bag.bag_rd S12.out 1 rfl)).mono ?_
   rintro e w8 ⟨zr, rfl, hcon, ho, hb⟩
   have S13 := Lib.hid (show Sl.Sep W _ [_, _, _, QQ, _, Bag.bag zr.rows] from Bag.push_bag S12.out hb ho)
   clear S12
   clear hb ho
   have HZzr := Lib.hid hcon
   clear hcon
   go_wp2_with fail
   refine hK.out _ _ ⟨Bag.cell_at S13.out 0 rfl 0 rfl, Bag.cell_at S13.out 0 rfl 1 rfl, Bag.cell_at S13.out 0 rfl 2 rfl, Bag.cell_at S13.out 0 rfl 3 rfl, Bag.cell_at S13.out 0 rfl 4 rfl, Bag.cell_at S13.out 0 rfl 5 rfl, Bag.cell_at S13.out 0 rfl 6 rfl, Bag.cell_at S13.out 0 rfl 7 rfl, Bag.cell_at S13.out 2 rfl 0 rfl, Bag.cell_at S13.out 2 rfl 1 rfl, Bag.cell_at S13.out 2 rfl 2 rfl⟩ (fun hS => ?_)
   clear hK K
   try simp only [zp0, zp1, zp2, zp3, zp4]
   refine tk 4 rfl ?_
   try simp only [zp0, zp1, zp2, zp3, zp4]
   refine tk 5 rfl ?_
   try simp only [zp0, zp1, zp2, zp3, zp4]
   refine tk 6 rfl ?_
   try simp only [zp0, zp1, zp2, zp3, zp4]
   have S14 := Lib.hid (show Sl.Sep W _ [_, _, _, QQ, _, _] from Bag.take S13.out [0, 1, 2, 3, 5, 4] (by rfl) (by decide))
   clear S13
   rotate_left
   exact AllReadyH.nil
   all_goals
    refine Reg.one_op (i := 8) rfl (by kernel_rfl) (fun K hK => ?_)
    have f0 : World.cell? _ ⟨gb0, 0, none⟩ = some (.string ⟨#[]⟩) := Bag.cell_at S14.out 5 rfl 0 rfl
    have f1 : World.cell? _ ⟨gb0, 1, none⟩ = some (.slice none 0 0) := Bag.cell_at S14.out 5 rfl 1 rfl
    have f2 : World.cell? _ ⟨gb0, 2, none⟩ = some (.int .i64 0) := Bag.cell_at S14.out 5 rfl 2 rfl
    have z0 := Bag.free_at S14.out 5 rfl 0
    have z1 := Bag.free_at S14.out 5 rfl 1
    have z2 := Bag.free_at S14.out 5 rfl 2
    go_simp
    clear f0 f1 f2 z0 z1 z2
    have S15 := Lib.hid (show Sl.Sep W _ [_, _, _, QQ, _, L4.boxR gb0 26 #[.string zr.name, .slice zr.a zr.xs.length zr.c, .int .i64 zr.auto]] from L5.put_box5 (L5.put_box5 (L5.put_box5 (S14.out) 5 rfl 0 (.string zr.name)) 5 rfl 1 (.slice zr.a zr.xs.length zr.c)) 5 rfl 2 (.int .i64 zr.auto))
    clear S14
    refine hK.out _ _ ⟨Bag.cell_at S15.out 0 rfl 0 rfl, Bag.cell_at S15.out 0 rfl 1 rfl, Bag.cell_at S15.out 0 rfl 2 rfl, Bag.cell_at S15.out 0 rfl 3 rfl, Bag.cell_at S15.out 0 rfl 4 rfl, Bag.cell_at S15.out 0 rfl 5 rfl, Bag.cell_at S15.out 0 rfl 6 rfl, Bag.cell_at S15.out 0 rfl 7 rfl, Bag.cell_at S15.out 2 rfl 0 rfl, Bag.cell_at S15.out 2 rfl 1 rfl, Bag.cell_at S15.out 2 rfl 2 rfl⟩ (fun hS => ?_)
    clear hK K
    try simp only [zp0, zp1, zp2, zp3, zp4]
    refine tk 9 rfl ?_
    try simp only [zp0, zp1, zp2, zp3, zp4]
    refine wpAnyH_done (by kernel_rfl) ?_ _
    go_wp2_with fail
    go_meet
    case rel =>
     exact ⟨gb0, zr, rfl, rfl, And.intro HZzr.out S15.out⟩
  case rest =>
   obtain ⟨g3a', z3', rfl, rfl, hq⟩ := hcut
   have HZz3' := Lib.hid hq.out.1
   have S10 := Lib.hid hq.out.2
   clear hq S9 HTO0
   have S11 := Lib.hid (show Sl.Sep W _ [L4.boxR (W.heap.size + 1) 74 #[.bool r1.hl, .bool r1.hh, .int .i64 r1.lo.kind, .int .i64 r1.lo.n, .string r1.lo.text, .int .i64 r1.hi.kind, .int .i64 r1.hi.n, .string r1.hi.text], Bag.bag z2'.rows, L4.boxR g1 26 #[.string z2'.name, .slice z2'.a z2'.xs.length z2'.c, .int .i64 z2'.auto], Bag.bag z3'.rows, L4.boxR g3a' 26 #[.string z3'.name, .slice z3'.a z3'.xs.length z3'.c, .int .i64 z3'.auto], QQ] from Bag.take S10.out [0, 1, 2, 4, 5, 3] (by rfl) (by decide))
   clear S10
   have S12 := Lib.hid (show Sl.Sep W _ [L4.boxR (W.heap.size + 1) 74 #[.bool r1.hl, .bool r1.hh, .int .i64 r1.lo.kind, .int .i64 r1.lo.n, .string r1.lo.text, .int .i64 r1.hi.kind, .int .i64 r1.hi.n, .string r1.hi.text], Bag.bag z2'.rows, L4.boxR g1 26 #[.string z2'.name, .slice z2'.a z2'.xs.length z2'.c, .int .i64 z2'.auto], Bag.bag z3'.rows, L4.boxR g3a' 26 #[.string z3'.name, .slice z3'.a z3'.xs.length z3'.c, .int .i64 z3'.auto], L4.boxR W.heap.size 57 #[.string y0.name, .slice y0.a y0.xs.length y0.c, .int .i64 y0.auto], Bag.bag z1'.rows, L4.boxR g1a' 26 #[.string z1'.name, .slice z1'.a z1'.xs.length z1'.c, .int .i64 z1'.auto]] from (by have h := S11.out; rw [HQQ.out] at h; exact Run.unpackR (us := [L4.boxR (W.heap.size + 1) 74 #[.bool r1.hl, .bool r1.hh, .int .i64 r1.lo.kind, .int .i64 r1.lo.n, .string r1.lo.text, .int .i64 r1.hi.kind, .int .i64 r1.hi.n, .string r1.hi.text], Bag.bag z2'.rows, L4.boxR g1 26 #[.string z2'.name, .slice z2'.a z2'.xs.length z2'.c, .int .i64 z2'.auto], Bag.bag z3'.rows, L4.boxR g3a' 26 #[.string z3'.name, .slice z3'.a z3'.xs.length z3'.c, .int .i64 z3'.auto]]) (vs := [L4.boxR W.heap.size 57 #[.string y0.name, .slice y0.a y0.xs.length y0.c, .int .i64 y0.auto], Bag.bag z1'.rows, L4.boxR g1a' 26 #[.string z1'.name, .slice z1'.a z1'.xs.length z1'.c, .int .i64 z1'.auto]]) h))
   clear S11
   clear HQQ QQ
   have f0 : World.cell? _ ⟨g3a', 0, none⟩ = some (.string z3'.name) := Bag.cell_at S12.out 4 rfl 0 rfl
   have f1 : World.cell? _ ⟨g3a', 1, none⟩ = some (.slice z3'.a z3'.xs.length z3'.c) := Bag.cell_at S12.out 4 rfl 1 rfl
   have f2 : World.cell? _ ⟨g3a', 2, none⟩ = some (.int .i64 z3'.auto) := Bag.cell_at S12.out 4 rfl 2 rfl
   have f3 : World.cell? _ ⟨g1a', 0, none⟩ = some (.string z1'.name) := Bag.cell_at S12.out 7 rfl 0 rfl
   have f4 : World.cell? _ ⟨g1a', 1, none⟩ = some (.slice z1'.a z1'.xs.length z1'.c) := Bag.cell_at S12.out 7 rfl 1 rfl
   have f5 : World.cell? _ ⟨g1a', 2, none⟩ = some (.int .i64 z1'.auto) := Bag.cell_at S12.out 7 rfl 2 rfl
   go_wp2_with fail
   go_at_call 40
   have HC := L6.eqStore_any z3' z1' (HZz3'.out.trans HZz1'.out.symm) (by rw [HZz3'.out]; exact HFR.out) _ (Bag.bag_rd S12.out 3 rfl) (Bag.bag_rd S12.out 6 rfl)
   try dsimp only [L6.LS.v, L6.LS.cells, L4.K.v, L4.R.v] at HC
   refine HC.mono ?_
   clear HC
   rintro e w5 ⟨rfl, hb⟩
   clear f0 f1 f2 f3 f4 f5
   have S13 := Lib.hid (show Sl.Sep W _ [_, _, _, _, _, _, _, _] from S12.out.keep hb)
   clear S12
   clear hb
   go_upto_region 13 with fail
   refine wp_region_held_drew (S := (fun w' => w'.cell? ⟨g1, 0, none⟩ = some (.string z2'.name) ∧ w'.cell? ⟨g1, 1, none⟩ = some (.slice z2'.a z2'.xs.length z2'.c) ∧ w'.cell? ⟨g1, 2, none⟩ = some (.int .i64 z2'.auto) ∧ w'.cell? ⟨W.heap.size, 0, none⟩ = some (.string y0.name) ∧ w'.cell? ⟨W.heap.size, 1, none⟩ = some (.slice y0.a y0.xs.length y0.c) ∧ w'.cell? ⟨W.heap.size, 2, none⟩ = some (.int .i64 y0.auto))) (by kernel_rfl) ⟨Bag.cell_at S13.out 2 rfl 0 rfl, Bag.cell_at S13.out 2 rfl 1 rfl, Bag.cell_at S13.out 2 rfl 2 rfl, Bag.cell_at S13.out 5 rfl 0 rfl, Bag.cell_at S13.out 5 rfl 1 rfl, Bag.cell_at S13.out 5 rfl 2 rfl⟩ (fun hS => ?_)
   have S14 := Lib.hid (Bag.drew1 S13.out)
   clear S13
   generalize World.drew _ = w6 at hS S14 ⊢
   refine tk 0 rfl ?_
   try simp only [zp0, zp1, zp2, zp3, zp4]
   refine tk 1 rfl ?_
   try simp only [zp0, zp1, zp2, zp3, zp4]
   refine Reg.one_op (i := 2) rfl (by kernel_rfl) (fun K hK => ?_)
   go_simp
   go_at_call 37
   have HC := L6.toStore_any y0 (by rw [HC0.out]; exact HF0.out) _ (HRY0.out _ S14.out.old)
   try dsimp only [L6.LS.v, L6.LS.cells, L4.K.v, L4.R.v] at HC
   refine HC.mono ?_
   clear HC
   rintro e w7 ⟨z4', rfl, hcon, ho, hb⟩
   have S15 := Lib.hid (show Sl.Sep W _ [_, _, _, _, _, _, _, _, Bag.bag z4'.rows] from Bag.push_bag S14.out hb ho)
   clear S14
   clear hb ho
   have HZz4' := Lib.hid (hcon.trans HC0.out)
   clear hcon
   try dsimp only [L6.LS.v, L6.LS.cells]
   go_wp2_with fail
   refine hK.out _ _ ⟨Bag.cell_at S15.out 2 rfl 0 rfl, Bag.cell_at S15.out 2 rfl 1 rfl, Bag.cell_at S15.out 2 rfl 2 rfl, Bag.cell_at S15.out 5 rfl 0 rfl, Bag.cell_at S15.out 5 rfl 1 rfl, Bag.cell_at S15.out 5 rfl 2 rfl⟩ (fun hS => ?_)
   clear hK K
   try simp only [zp0, zp1, zp2, zp3, zp4]
   refine Reg.one_op (i := 3) rfl (by kernel_rfl) (fun K hK => ?_)
   go_simp
   go_at_call 40
   have HC := L6.eqStore_any z2' z4' (HZz2'.out.trans HZz4'.out.symm) (by rw [HZz2'.out]; exact HF0.out) _ (Bag.bag_rd S15.out 1 rfl) (Bag.bag_rd S15.out 8 rfl)
   try dsimp only [L6.LS.v, L6.LS.cells, L4.K.v, L4.R.v] at HC
   refine HC.mono ?_
   clear HC
   rintro e w8 ⟨rfl, hb⟩
   have S16 := Lib.hid (show Sl.Sep W _ [_, _, _, _, _, _, _, _, _] from S15.out.keep hb)
   clear S15
   clear hb
   go_wp2_with fail
   refine hK.out _ _ ⟨Bag.cell_at S16.out 2 rfl 0 rfl, Bag.cell_at S16.out 2 rfl 1 rfl, Bag.cell_at S16.out 2 rfl 2 rfl, Bag.cell_at S16.out 5 rfl 0 rfl, Bag.cell_at S16.out 5 rfl 1 rfl, Bag.cell_at S16.out 5 rfl 2 rfl⟩ (fun hS => ?_)
   clear hK K
   try simp only [zp0, zp1, zp2, zp3, zp4]
   refine tk 4 rfl ?_
   try simp only [zp0, zp1, zp2, zp3, zp4]
   refine wpAnyH_done (by kernel_rfl) ?_ _
   have f0 : World.cell? _ ⟨W.heap.size + 1, 0, none⟩ = some (.bool r1.hl) := Bag.cell_at S16.out 0 rfl 0 rfl
   have f1 : World.cell? _ ⟨W.heap.size + 1, 1, none⟩ = some (.bool r1.hh) := Bag.cell_at S16.out 0 rfl 1 rfl
   have f2 : World.cell? _ ⟨W.heap.size + 1, 2, none⟩ = some (.int .i64 r1.lo.kind) := Bag.cell_at S16.out 0 rfl 2 rfl
   have f3 : World.cell? _ ⟨W.heap.size + 1, 3, none⟩ = some (.int .i64 r1.lo.n) := Bag.cell_at S16.out 0 rfl 3 rfl
   have f4 : World.cell? _ ⟨W.heap.size + 1, 4, none⟩ = some (.string r1.lo.text) := Bag.cell_at S16.out 0 rfl 4 rfl
   have f5 : World.cell? _ ⟨W.heap.size + 1, 5, none⟩ = some (.int .i64 r1.hi.kind) := Bag.cell_at S16.out 0 rfl 5 rfl
   have f6 : World.cell? _ ⟨W.heap.size + 1, 6, none⟩ = some (.int .i64 r1.hi.n) := Bag.cell_at S16.out 0 rfl 6 rfl
   have f7 : World.cell? _ ⟨W.heap.size + 1, 7, none⟩ = some (.string r1.hi.text) := Bag.cell_at S16.out 0 rfl 7 rfl
   have f8 : World.cell? _ ⟨g1, 0, none⟩ = some (.string z2'.name) := Bag.cell_at S16.out 2 rfl 0 rfl
   have f9 : World.cell? _ ⟨g1, 1, none⟩ = some (.slice z2'.a z2'.xs.length z2'.c) := Bag.cell_at S16.out 2 rfl 1 rfl
   have f10 : World.cell? _ ⟨g1, 2, none⟩ = some (.int .i64 z2'.auto) := Bag.cell_at S16.out 2 rfl 2 rfl
   have f11 : World.cell? _ ⟨g3a', 0, none⟩ = some (.string z3'.name) := Bag.cell_at S16.out 4 rfl 0 rfl
   have f12 : World.cell? _ ⟨g3a', 1, none⟩ = some (.slice z3'.a z3'.xs.length z3'.c) := Bag.cell_at S16.out 4 rfl 1 rfl
   have f13 : World.cell? _ ⟨g3a', 2, none⟩ = some (.int .i64 z3'.auto) := Bag.cell_at S16.out 4 rfl 2 rfl
   have f14 : World.cell? _ ⟨W.heap.size, 0, none⟩ = some (.string y0.name) := Bag.cell_at S16.out 5 rfl 0 rfl
   have f15 : World.cell? _ ⟨W.heap.size, 1, none⟩ = some (.slice y0.a y0.xs.length y0.c) := Bag.cell_at S16.out 5 rfl 1 rfl
   have f16 : World.cell? _ ⟨W.heap.size, 2, none⟩ = some (.int .i64 y0.auto) := Bag.cell_at S16.out 5 rfl 2 rfl
   have f17 : World.cell? _ ⟨g1a', 0, none⟩ = some (.string z1'.name) := Bag.cell_at S16.out 7 rfl 0 rfl
   have f18 : World.cell? _ ⟨g1a', 1, none⟩ = some (.slice z1'.a z1'.xs.length z1'.c) := Bag.cell_at S16.out 7 rfl 1 rfl
   have f19 : World.cell? _ ⟨g1a', 2, none⟩ = some (.int .i64 z1'.auto) := Bag.cell_at S16.out 7 rfl 2 rfl
   have S17 := Lib.hid (show Sl.Sep W _ [_, _, _, _, _, _, _, _] from Bag.take S16.out [0, 1, 2, 3, 4, 5, 6, 7] (by rfl) (by decide))
   clear S16
   have HLNz2' := Lib.hid (show ∀ x ∈ z2'.xs, x.l.length ≤ 1048576 from (fun x hx => (show L6.FitS z2'.con from (by rw [HZz2'.out]; exact HF0.out)).items x.con (List.mem_map.2 ⟨x, hx, rfl⟩) |>.len))
   have HNLz2' := Lib.hid (show z2'.xs.length ≤ 1048576 from by have h := (show L6.FitS z2'.con from (by rw [HZz2'.out]; exact HF0.out)).len; simpa [L6.LS.con] using h)
   obtain ⟨Ez2', hE⟩ : ∃ E, L6.endI 1 z2'.xs = E := ⟨_, rfl⟩
   have hEb := (L6.endI_range z2'.xs 1 HLNz2'.out)
   rw [hE] at hEb
   have hEb0 : 1 ≤ Ez2' := hEb.1
   have hEb1 : Ez2' ≤ 4398046511104 := by have := HNLz2'.out; omega
   have HEz2' := Lib.hid hE
   clear hE hEb
   clear f0 f1 f2 f3 f4 f5 f6 f7 f8 f9 f10 f11 f12 f13 f14 f15 f16 f17 f18 f19
   have f0 : World.cell? _ ⟨g1, 0, none⟩ = some (.string z2'.name) := Bag.cell_at S17.out 2 rfl 0 rfl
   have f1 : World.cell? _ ⟨g1, 1, none⟩ = some (.slice z2'.a z2'.xs.length z2'.c) := Bag.cell_at S17.out 2 rfl 1 rfl
   have f2 : World.cell? _ ⟨g1, 2, none⟩ = some (.int .i64 z2'.auto) := Bag.cell_at S17.out 2 rfl 2 rfl
   go_wp2_with fail
   go_at_call 42
   have HC := L6.markStore_any S17.out 1 (y := z2') rfl 1 (by rw [HZz2'.out]; exact HF0.out) (by omega) (by omega)
   try dsimp only [L6.LS.v, L6.LS.cells, L4.K.v, L4.R.v] at HC
   rw [HEz2'.out] at HC
   refine HC.mono ?_
   clear HC
   rintro e w9 ⟨rfl, hS⟩
   clear f0 f1 f2
   have S18 := Lib.hid (show Sl.Sep W _ [_, Bag.bag ((L6.LS.marked 1 z2').rows), _, _, _, _, _, _] from hS)
   clear S17
   clear hS
   have f0 : World.cell? _ ⟨g3a', 0, none⟩ = some (.string z3'.name) := Bag.cell_at S18.out 4 rfl 0 rfl
   have f1 : World.cell? _ ⟨g3a', 1, none⟩ = some (.slice z3'.a z3'.xs.length z3'.c) := Bag.cell_at S18.out 4 rfl 1 rfl
   have f2 : World.cell? _ ⟨g3a', 2, none⟩ = some (.int .i64 z3'.auto) := Bag.cell_at S18.out 4 rfl 2 rfl
   have f3 : World.cell? _ ⟨g1a', 0, none⟩ = some (.string z1'.name) := Bag.cell_at S18.out 7 rfl 0 rfl
   have f4 : World.cell? _ ⟨g1a', 1, none⟩ = some (.slice z1'.a z1'.xs.length z1'.c) := Bag.cell_at S18.out 7 rfl 1 rfl
   have f5 : World.cell? _ ⟨g1a', 2, none⟩ = some (.int .i64 z1'.auto) := Bag.cell_at S18.out 7 rfl 2 rfl
   go_wp2_with fail
   go_at_call 40
   have HC := L6.eqStore_any z3' z1' (HZz3'.out.trans HZz1'.out.symm) (by rw [HZz3'.out]; exact HFR.out) _ (Bag.bag_rd S18.out 3 rfl) (Bag.bag_rd S18.out 6 rfl)
   try dsimp only [L6.LS.v, L6.LS.cells, L4.K.v, L4.R.v] at HC
   refine HC.mono ?_
   clear HC
   rintro e w10 ⟨rfl, hb⟩
   clear f0 f1 f2 f3 f4 f5
   have S19 := Lib.hid (show Sl.Sep W _ [_, _, _, _, _, _, _, _] from S18.out.keep hb)
   clear S18
   clear hb
   have HLNz3' := Lib.hid (show ∀ x ∈ z3'.xs, x.l.length ≤ 1048576 from (fun x hx => (show L6.FitS z3'.con from (by rw [HZz3'.out]; exact HFR.out)).items x.con (List.mem_map.2 ⟨x, hx, rfl⟩) |>.len))
   have HNLz3' := Lib.hid (show z3'.xs.length ≤ 1048576 from by have h := (show L6.FitS z3'.con from (by rw [HZz3'.out]; exact HFR.out)).len; simpa [L6.LS.con] using h)
   obtain ⟨Ez3', hE⟩ : ∃ E, L6.endI 1 z3'.xs = E := ⟨_, rfl⟩
   have hEb := (L6.endI_range z3'.xs 1 HLNz3'.out)
   rw [hE] at hEb
   have hEb0 : 1 ≤ Ez3' := hEb.1
   have hEb1 : Ez3' ≤ 4398046511104 := by have := HNLz3'.out; omega
   have HEz3' := Lib.hid hE
   clear hE hEb
   have f0 : World.cell? _ ⟨g3a', 0, none⟩ = some (.string z3'.name) := Bag.cell_at S19.out 4 rfl 0 rfl
   have f1 : World.cell? _ ⟨g3a', 1, none⟩ = some (.slice z3'.a z3'.xs.length z3'.c) := Bag.cell_at S19.out 4 rfl 1 rfl
   have f2 : World.cell? _ ⟨g3a', 2, none⟩ = some (.int .i64 z3'.auto) := Bag.cell_at S19.out 4 rfl 2 rfl
   go_wp2_with fail
   go_at_call 42
   have HC := L6.markStore_any S19.out 3 (y := z3') rfl 1 (by rw [HZz3'.out]; exact HFR.out) (by omega) (by omega)
   try dsimp only [L6.LS.v, L6.LS.cells, L4.K.v, L4.R.v] at HC
   rw [HEz3'.out] at HC
   refine HC.mono ?_
   clear HC
   rintro e w11 ⟨rfl, hS⟩
   clear f0 f1 f2
   have S20 := Lib.hid (show Sl.Sep W _ [_, _, _, Bag.bag ((L6.LS.marked 1 z3').rows), _, _, _, _] from hS)
   clear S19
   clear hS
   have f0 : World.cell? _ ⟨g3a', 0, none⟩ = some (.string z3'.name) := Bag.cell_at S20.out 4 rfl 0 rfl
   have f1 : World.cell? _ ⟨g3a', 1, none⟩ = some (.slice z3'.a z3'.xs.length z3'.c) := Bag.cell_at S20.out 4 rfl 1 rfl
   have f2 : World.cell? _ ⟨g3a', 2, none⟩ = some (.int .i64 z3'.auto) := Bag.cell_at S20.out 4 rfl 2 rfl
   go_wp2_with fail
   go_at_call 44
   have HC := L6.heldStore_any z3' 1 (by rw [HZz3'.out]; exact HFR.out) (by omega) (by omega) _ (Bag.bag_rd S20.out 3 rfl)
   try dsimp only [L6.LS.v, L6.LS.cells, L4.K.v, L4.R.v] at HC
   rw [HEz3'.out] at HC
   refine HC.mono ?_
   clear HC
   rintro e w12 ⟨rfl, hb⟩
   clear f0 f1 f2
   have S21 := Lib.hid (show Sl.Sep W _ [_, _, _, _, _, _, _, _] from S20.out.keep hb)
   clear S20
   clear hb
   have S22 := Lib.hid (show Sl.Sep W _ [_, _, _, _, _, _, _, _] from Bag.take S21.out [0, 5, 1, 2, 3, 4, 6, 7] (by rfl) (by decide))
   clear S21
   have S23 := Lib.hid (show Sl.Sep W _ [L4.boxR (W.heap.size + 1) 74 #[.bool r1.hl, .bool r1.hh, .int .i64 r1.lo.kind, .int .i64 r1.lo.n, .string r1.lo.text, .int .i64 r1.hi.kind, .int .i64 r1.hi.n, .string r1.hi.text], L4.boxR W.heap.size 57 #[.string y0.name, .slice y0.a y0.xs.length y0.c, .int .i64 y0.auto], Run.allR [Bag.bag ((L6.LS.marked 1 z2').rows), L4.boxR g1 26 #[.string z2'.name, .slice z2'.a z2'.xs.length z2'.c, .int .i64 z2'.auto], Bag.bag ((L6.LS.marked 1 z3').rows), L4.boxR g3a' 26 #[.string z3'.name, .slice z3'.a z3'.xs.length z3'.c, .int .i64 z3'.auto], Bag.bag z1'.rows, L4.boxR g1a' 26 #[.string z1'.name, .slice z1'.a z1'.xs.length z1'.c, .int .i64 z1'.auto]]] from Run.packR (us := [L4.boxR (W.heap.size + 1) 74 #[.bool r1.hl, .bool r1.hh, .int .i64 r1.lo.kind, .int .i64 r1.lo.n, .string r1.lo.text, .int .i64 r1.hi.kind, .int .i64 r1.hi.n, .string r1.hi.text], L4.boxR W.heap.size 57 #[.string y0.name, .slice y0.a y0.xs.length y0.c, .int .i64 y0.auto]]) (vs := [Bag.bag ((L6.LS.marked 1 z2').rows), L4.boxR g1 26 #[.string z2'.name, .slice z2'.a z2'.xs.length z2'.c, .int .i64 z2'.auto], Bag.bag ((L6.LS.marked 1 z3').rows), L4.boxR g3a' 26 #[.string z3'.name, .slice z3'.a z3'.xs.length z3'.c, .int .i64 z3'.auto], Bag.bag z1'.rows, L4.boxR g1a' 26 #[.string z1'.name, .slice z1'.a z1'.xs.length z1'.c, .int .i64 z1'.auto]]) S22.out)
   clear S22
   obtain ⟨QQ, hQQ⟩ : ∃ Q, Q = Run.allR [Bag.bag ((L6.LS.marked 1 z2').rows), L4.boxR g1 26 #[.string z2'.name, .slice z2'.a z2'.xs.length z2'.c, .int .i64 z2'.auto], Bag.bag ((L6.LS.marked 1 z3').rows), L4.boxR g3a' 26 #[.string z3'.name, .slice z3'.a z3'.xs.length z3'.c, .int .i64 z3'.auto], Bag.bag z1'.rows, L4.boxR g1a' 26 #[.string z1'.name, .slice z1'.a z1'.xs.length z1'.c, .int .i64 z1'.auto]] := ⟨_, rfl⟩
   rw [← hQQ] at S23
   have HQQ := Lib.hid hQQ
   clear hQQ
   go_upto_region 27 with fail
   have HTO0 := Lib.hid (fun w' (h : Below W.heap.size W w') => L6.toStore_any y0 (by rw [HC0.out]; exact HF0.out) w' (HRY0.out w' h))
   try dsimp only [L6.LS.v, L6.LS.cells, L4.K.v, L4.R.v] at HTO0
   have HTO1 := Lib.hid (fun w' (h : Below W.heap.size W w') => L4.toKeyRange_any r1 w')
   try dsimp only [L6.LS.v, L6.LS.cells, L4.K.v, L4.R.v] at HTO1
   go_cut [14, 15] (fun pz0 qs0 wx => ∃ (g5a' : Nat) (z5' : L6.LS), pz0 = .pointer (some ⟨g5a', 0, none⟩) ∧ qs0 = .int .i64 r1' ∧ Hid (z5'.con = r0' ∧ Sl.Sep W wx [L4.boxR (W.heap.size + 1) 74 #[.bool r1.hl, .bool r1.hh, .int .i64 r1.lo.kind, .int .i64 r1.lo.n, .string r1.lo.text, .int .i64 r1.hi.kind, .int .i64 r1.hi.n, .string r1.hi.text], L4.boxR W.heap.size 57 #[.string y0.name, .slice y0.a y0.xs.length y0.c, .int .i64 y0.auto], QQ, Bag.bag z5'.rows, L4.boxR g5a' 26 #[.string z5'.name, .slice z5'.a z5'.xs.length z5'.c, .int .i64 z5'.auto]]))
   case first =>
    refine wp_region_held_drew (S := (fun w' => w'.cell? ⟨W.heap.size + 1, 0, none⟩ = some (.bool r1.hl) ∧ w'.cell? ⟨W.heap.size + 1, 1, none⟩ = some (.bool r1.hh) ∧ w'.cell? ⟨W.heap.size + 1, 2, none⟩ = some (.int .i64 r1.lo.kind) ∧ w'.cell? ⟨W.heap.size + 1, 3, none⟩ = some (.int .i64 r1.lo.n) ∧ w'.cell? ⟨W.heap.size + 1, 4, none⟩ = some (.string r1.lo.text) ∧ w'.cell? ⟨W.heap.size + 1, 5, none⟩ = some (.int .i64 r1.hi.kind) ∧ w'.cell? ⟨W.heap.size + 1, 6, none⟩ = some (.int .i64 r1.hi.n) ∧ w'.cell? ⟨W.heap.size + 1, 7, none⟩ = some (.string r1.hi.text) ∧ w'.cell? ⟨W.heap.size, 0, none⟩ = some (.string y0.name) ∧ w'.cell? ⟨W.heap.size, 1, none⟩ = some (.slice y0.a y0.xs.length y0.c) ∧ w'.cell? ⟨W.heap.size, 2, none⟩ = some (.int .i64 y0.auto))) (by kernel_rfl) ⟨Bag.cell_at S23.out 0 rfl 0 rfl, Bag.cell_at S23.out 0 rfl 1 rfl, Bag.cell_at S23.out 0 rfl 2 rfl, Bag.cell_at S23.out 0 rfl 3 rfl, Bag.cell_at S23.out 0 rfl 4 rfl, Bag.cell_at S23.out 0 rfl 5 rfl, Bag.cell_at S23.out 0 rfl 6 rfl, Bag.cell_at S23.out 0 rfl 7 rfl, Bag.cell_at S23.out 1 rfl 0 rfl, Bag.cell_at S23.out 1 rfl 1 rfl, Bag.cell_at S23.out 1 rfl 2 rfl⟩ (fun hS => ?_)
    have S24 := Lib.hid (Bag.drew1 S23.out)
    clear S23
    generalize World.drew _ = w13 at hS S24 ⊢
    refine tk 0 rfl ?_
    try simp only [zp0, zp1, zp2, zp3, zp4]
    refine tk 2 rfl ?_
    try simp only [zp0, zp1, zp2, zp3, zp4]
    refine wpAnyH_ready (rs := [1, 8]) (by kernel_rfl) (by simp) ?_
    refine Reg.cons_op (i := 1) rfl (fun K hK => ?_) ?_
    go_simp
    go_at_call 37
    refine (HTO0.out _ S24.out.old).mono ?_
    rintro e w14 ⟨zs0, rfl, hcon, ho, hb⟩
    have S25 := Lib.hid (show Sl.Sep W _ [_, _, QQ, Bag.bag zs0.rows] from Bag.push_bag S24.out hb ho)
    clear S24
    clear hb ho
    have HZzs0 := Lib.hid (hcon.trans HC0.out)
    clear hcon
    go_wp2_with fail
    refine hK.out _ _ ⟨Bag.cell_at S25.out 0 rfl 0 rfl, Bag.cell_at S25.out 0 rfl 1 rfl, Bag.cell_at S25.out 0 rfl 2 rfl, Bag.cell_at S25.out 0 rfl 3 rfl, Bag.cell_at S25.out 0 rfl 4 rfl, Bag.cell_at S25.out 0 rfl 5 rfl, Bag.cell_at S25.out 0 rfl 6 rfl, Bag.cell_at S25.out 0 rfl 7 rfl, Bag.cell_at S25.out 1 rfl 0 rfl, Bag.cell_at S25.out 1 rfl 1 rfl, Bag.cell_at S25.out 1 rfl 2 rfl⟩ (fun hS => ?_)
    clear hK K
    try simp only [zp0, zp1, zp2, zp3, zp4]
    refine wpAnyH_ready (rs := [3, 8]) (by kernel_rfl) (by simp) ?_
    refine Reg.cons_op (i := 3) rfl (fun K hK => ?_) ?_
    go_simp
    go_at_call 49
    refine (HTO1.out w14 S25.out.old).mono ?_
    rintro e w15 ⟨rfl, hb⟩
    have S26 := Lib.hid (show Sl.Sep W _ [_, _, QQ, _] from S25.out.keep hb)
    clear S25
    clear hb
    go_wp2_with fail
    refine hK.out _ _ ⟨Bag.cell_at S26.out 0 rfl 0 rfl, Bag.cell_at S26.out 0 rfl 1 rfl, Bag.cell_at S26.out 0 rfl 2 rfl, Bag.cell_at S26.out 0 rfl 3 rfl, Bag.cell_at S26.out 0 rfl 4 rfl, Bag.cell_at S26.out 0 rfl 5 rfl, Bag.cell_at S26.out 0 rfl 6 rfl, Bag.cell_at S26.out 0 rfl 7 rfl, Bag.cell_at S26.out 1 rfl 0 rfl, Bag.cell_at S26.out 1 rfl 1 rfl, Bag.cell_at S26.out 1 rfl 2 rfl⟩ (fun hS => ?_)
    clear hK K
    try simp only [zp0, zp1, zp2, zp3, zp4]
    refine wpAnyH_ready (rs := [4, 8]) (by kernel_rfl) (by simp) ?_
    refine Reg.cons_op (i := 4) rfl (fun K hK => ?_) ?_
    go_simp
    go_at_call 27
    refine (Cimpl.out zs0 HZzs0.out _ (Bag.bag_rd S26.out 3 rfl)).mono ?_
    rintro e w16 ⟨zr, rfl, hcon, ho, hb⟩
    have S27 := Lib.hid (show Sl.Sep W _ [_, _, QQ, _, Bag.bag zr.rows] from Bag.push_bag S26.out hb ho)
    clear S26
    clear hb ho
    have HZzr := Lib.hid hcon
    clear hcon
    go_wp2_with fail
    refine hK.out _ _ ⟨Bag.cell_at S27.out 0 rfl 0 rfl, Bag.cell_at S27.out 0 rfl 1 rfl, Bag.cell_at S27.out 0 rfl 2 rfl, Bag.cell_at S27.out 0 rfl 3 rfl, Bag.cell_at S27.out 0 rfl 4 rfl, Bag.cell_at S27.out 0 rfl 5 rfl, Bag.cell_at S27.out 0 rfl 6 rfl, Bag.cell_at S27.out 0 rfl 7 rfl, Bag.cell_at S27.out 1 rfl 0 rfl, Bag.cell_at S27.out 1 rfl 1 rfl, Bag.cell_at S27.out 1 rfl 2 rfl⟩ (fun hS => ?_)
    clear hK K
    try simp only [zp0, zp1, zp2, zp3, zp4]
    refine tk 5 rfl ?_
    try simp only [zp0, zp1, zp2, zp3, zp4]
    refine tk 6 rfl ?_
    try simp only [zp0, zp1, zp2, zp3, zp4]
    refine tk 7 rfl ?_
    try simp only [zp0, zp1, zp2, zp3, zp4]
    refine Reg.one_op (i := 8) rfl (by kernel_rfl) (fun K hK => ?_)
    go_simp
    have S28 := Lib.hid (show Sl.Sep W _ [_, _, _, _, _, _] from L4.push_box S27.out 26 #[.string ⟨#[]⟩, .slice none 0 0, .int .i64 0] w16.heap.size rfl)
    clear S27
    obtain ⟨gb0, hg⟩ : ∃ g', g' = w16.heap.size := ⟨_, rfl⟩
    rw [← hg] at S28 ⊢
    clear hg
    generalize w16.alloc (.cells #[.string ⟨#[]⟩, .slice none 0 0, .int .i64 0] 26) = w17 at S28 ⊢
    refine hK.out _ _ ⟨Bag.cell_at S28.out 0 rfl 0 rfl, Bag.cell_at S28.out 0 rfl 1 rfl, Bag.cell_at S28.out 0 rfl 2 rfl, Bag.cell_at S28.out 0 rfl 3 rfl, Bag.cell_at S28.out 0 rfl 4 rfl, Bag.cell_at S28.out 0 rfl 5 rfl, Bag.cell_at S28.out 0 rfl 6 rfl, Bag.cell_at S28.out 0 rfl 7 rfl, Bag.cell_at S28.out 1 rfl 0 rfl, Bag.cell_at S28.out 1 rfl 1 rfl, Bag.cell_at S28.out 1 rfl 2 rfl⟩ (fun hS => ?_)
    clear hK K
    try simp only [zp0, zp1, zp2, zp3, zp4]
    have S29 := Lib.hid (show Sl.Sep W _ [_, _, QQ, _, L4.boxR gb0 26 #[.string ⟨#[]⟩, .slice none 0 0, .int .i64 0]] from Bag.take S28.out [0, 1, 2, 4, 5] (by rfl) (by decide))
    clear S28
    rotate_left
    refine Reg.cons_op (i := 8) rfl (fun K hK => ?_) ?_
    go_simp
    have S27 := Lib.hid (show Sl.Sep W _ [_, _, _, _, _] from L4.push_box S26.out 26 #[.string ⟨#[]⟩, .slice none 0 0, .int .i64 0] w15.heap.size rfl)
    clear S26
    obtain ⟨gb0, hg⟩ : ∃ g', g' = w15.heap.size := ⟨_, rfl⟩
    rw [← hg] at S27 ⊢
    clear hg
    generalize w15.alloc (.cells #[.string ⟨#[]⟩, .slice none 0 0, .int .i64 0] 26) = w16 at S27 ⊢
    refine hK.out _ _ ⟨Bag.cell_at S27.out 0 rfl 0 rfl, Bag.cell_at S27.out 0 rfl 1 rfl, Bag.cell_at S27.out 0 rfl 2 rfl, Bag.cell_at S27.out 0 rfl 3 rfl, Bag.cell_at S27.out 0 rfl 4 rfl, Bag.cell_at S27.out 0 rfl 5 rfl, Bag.cell_at S27.out 0 rfl 6 rfl, Bag.cell_at S27.out 0 rfl 7 rfl, Bag.cell_at S27.out 1 rfl 0 rfl, Bag.cell_at S27.out 1 rfl 1 rfl, Bag.cell_at S27.out 1 rfl 2 rfl⟩ (fun hS => ?_)
    clear hK K
    try simp only [zp0, zp1, zp2, zp3, zp4]
    refine Reg.one_op (i := 4) rfl (by kernel_rfl) (fun K hK => ?_)
    go_simp
    go_at_call 27
    refine (Cimpl.out zs0 HZzs0.out _ (Bag.bag_rd S27.out 3 rfl)).mono ?_
    rintro e w17 ⟨zr, rfl, hcon, ho, hb⟩
    have S28 := Lib.hid (show Sl.Sep W _ [_, _, QQ, _, L4.boxR gb0 26 #[.string ⟨#[]⟩, .slice none 0 0, .int .i64 0], Bag.bag zr.rows] from Bag.push_bag S27.out hb ho)
    clear S27
    clear hb ho
    have HZzr := Lib.hid hcon
    clear hcon
    go_wp2_with fail
    refine hK.out _ _ ⟨Bag.cell_at S28.out 0 rfl 0 rfl, Bag.cell_at S28.out 0 rfl 1 rfl, Bag.cell_at S28.out 0 rfl 2 rfl, Bag.cell_at S28.out 0 rfl 3 rfl, Bag.cell_at S28.out 0 rfl 4 rfl, Bag.cell_at S28.out 0 rfl 5 rfl, Bag.cell_at S28.out 0 rfl 6 rfl, Bag.cell_at S28.out 0 rfl 7 rfl, Bag.cell_at S28.out 1 rfl 0 rfl, Bag.cell_at S28.out 1 rfl 1 rfl, Bag.cell_at S28.out 1 rfl 2 rfl⟩ (fun hS => ?_)
    clear hK K
    try simp only [zp0, zp1, zp2, zp3, zp4]
    refine tk 5 rfl ?_
    try simp only [zp0, zp1, zp2, zp3, zp4]
    refine tk 6 rfl ?_
    try simp only [zp0, zp1, zp2, zp3, zp4]
    refine tk 7 rfl ?_
    try simp only [zp0, zp1, zp2, zp3, zp4]
    have S29 := Lib.hid (show Sl.Sep W _ [_, _, QQ, _, _] from Bag.take S28.out [0, 1, 2, 5, 4] (by rfl) (by decide))
    clear S28
    rotate_left
    exact AllReadyH.nil
    refine Reg.cons_op (i := 8) rfl (fun K hK => ?_) ?_
    go_simp
    have S26 := Lib.hid (show Sl.Sep W _ [_, _, _, _, _] from L4.push_box S25.out 26 #[.string ⟨#[]⟩, .slice none 0 0, .int .i64 0] w14.heap.size rfl)
    clear S25
    obtain ⟨gb0, hg⟩ : ∃ g', g' = w14.heap.size := ⟨_, rfl⟩
    rw [← hg] at S26 ⊢
    clear hg
    generalize w14.alloc (.cells #[.string ⟨#[]⟩, .slice none 0 0, .int .i64 0] 26) = w15 at S26 ⊢
    refine hK.out _ _ ⟨Bag.cell_at S26.out 0 rfl 0 rfl, Bag.cell_at S26.out 0 rfl 1 rfl, Bag.cell_at S26.out 0 rfl 2 rfl, Bag.cell_at S26.out 0 rfl 3 rfl, Bag.cell_at S26.out 0 rfl 4 rfl, Bag.cell_at S26.out 0 rfl 5 rfl, Bag.cell_at S26.out 0 rfl 6 rfl, Bag.cell_at S26.out 0 rfl 7 rfl, Bag.cell_at S26.out 1 rfl 0 rfl, Bag.cell_at S26.out 1 rfl 1 rfl, Bag.cell_at S26.out 1 rfl 2 rfl⟩ (fun hS => ?_)
    clear hK K
    try simp only [zp0, zp1, zp2, zp3, zp4]
    refine Reg.one_op (i := 3) rfl (by kernel_rfl) (fun K hK => ?_)
    go_simp
    go_at_call 49
    refine (HTO1.out w15 S26.out.old).mono ?_
    rintro e w16 ⟨rfl, hb⟩
    have S27 := Lib.hid (show Sl.Sep W _ [_, _, QQ, _, L4.boxR gb0 26 #[.string ⟨#[]⟩, .slice none 0 0, .int .i64 0]] from S26.out.keep hb)
    clear S26
    clear hb
    go_wp2_with fail
    refine hK.out _ _ ⟨Bag.cell_at S27.out 0 rfl 0 rfl, Bag.cell_at S27.out 0 rfl 1 rfl, Bag.cell_at S27.out 0 rfl 2 rfl, Bag.cell_at S27.out 0 rfl 3 rfl, Bag.cell_at S27.out 0 rfl 4 rfl, Bag.cell_at S27.out 0 rfl 5 rfl, Bag.cell_at S27.out 0 rfl 6 rfl, Bag.cell_at S27.out 0 rfl 7 rfl, Bag.cell_at S27.out 1 rfl 0 rfl, Bag.cell_at S27.out 1 rfl 1 rfl, Bag.cell_at S27.out 1 rfl 2 rfl⟩ (fun hS => ?_)
    clear hK K
    try simp only [zp0, zp1, zp2, zp3, zp4]
    refine Reg.one_op (i := 4) rfl (by kernel_rfl) (fun K hK => ?_)
    go_simp
    go_at_call 27
    refine (Cimpl.out zs0 HZzs0.out _ (Bag.bag_rd S27.out 3 rfl)).mono ?_
    rintro e w17 ⟨zr, rfl, hcon, ho, hb⟩
    have S28 := Lib.hid (show Sl.Sep W _ [_, _, QQ, _, _, Bag.bag zr.rows] from Bag.push_bag S27.out hb ho)
    clear S27
    clear hb ho
    have HZzr := Lib.hid hcon
    clear hcon
    go_wp2_with fail
    refine hK.out _ _ ⟨Bag.cell_at S28.out 0 rfl 0 rfl, Bag.cell_at S28.out 0 rfl 1 rfl, Bag.cell_at S28.out 0 rfl 2 rfl, Bag.cell_at S28.out 0 rfl 3 rfl, Bag.cell_at S28.out 0 rfl 4 rfl, Bag.cell_at S28.out 0 rfl 5 rfl, Bag.cell_at S28.out 0 rfl 6 rfl, Bag.cell_at S28.out 0 rfl 7 rfl, Bag.cell_at S28.out 1 rfl 0 rfl, Bag.cell_at S28.out 1 rfl 1 rfl, Bag.cell_at S28.out 1 rfl 2 rfl⟩ (fun hS => ?_)
    clear hK K
    try simp only [zp0, zp1, zp2, zp3, zp4]
    refine tk 5 rfl ?_
    try simp only [zp0, zp1, zp2, zp3, zp4]
    refine tk 6 rfl ?_
    try simp only [zp0, zp1, zp2, zp3, zp4]
    refine tk 7 rfl ?_
    try simp only [zp0, zp1, zp2, zp3, zp4]
    have S29 := Lib.hid (show Sl.Sep W _ [_, _, QQ, _, _] from Bag.take S28.out [0, 1, 2, 5, 4] (by rfl) (by decide))
    clear S28
    rotate_left
    exact AllReadyH.nil
    refine Reg.cons_op (i := 8) rfl (fun K hK => ?_) ?_
    go_simp
    have S25 := Lib.hid (show Sl.Sep W _ [_, _, _, _] from L4.push_box S24.out 26 #[.string ⟨#[]⟩, .slice none 0 0, .int .i64 0] w13.heap.size rfl)
    clear S24
    obtain ⟨gb0, hg⟩ : ∃ g', g' = w13.heap.size := ⟨_, rfl⟩
    rw [← hg] at S25 ⊢
    clear hg
    generalize w13.alloc (.cells #[.string ⟨#[]⟩, .slice none 0 0, .int .i64 0] 26) = w14 at S25 ⊢
    refine hK.out _ _ ⟨Bag.cell_at S25.out 0 rfl 0 rfl, Bag.cell_at S25.out 0 rfl 1 rfl, Bag.cell_at S25.out 0 rfl 2 rfl, Bag.cell_at S25.out 0 rfl 3 rfl, Bag.cell_at S25.out 0 rfl 4 rfl, Bag.cell_at S25.out 0 rfl 5 rfl, Bag.cell_at S25.out 0 rfl 6 rfl, Bag.cell_at S25.out 0 rfl 7 rfl, Bag.cell_at S25.out 1 rfl 0 rfl, Bag.cell_at S25.out 1 rfl 1 rfl, Bag.cell_at S25.out 1 rfl 2 rfl⟩ (fun hS => ?_)
    clear hK K
    try simp only [zp0, zp1, zp2, zp3, zp4]
    refine Reg.one_op (i := 1) rfl (by kernel_rfl) (fun K hK => ?_)
    go_simp
    go_at_call 37
    refine (HTO0.out _ S25.out.old).mono ?_
    rintro e w15 ⟨zs0, rfl, hcon, ho, hb⟩
    have S26 := Lib.hid (show Sl.Sep W _ [_, _, QQ, L4.boxR gb0 26 #[.string ⟨#[]⟩, .slice none 0 0, .int .i64 0], Bag.bag zs0.rows] from Bag.push_bag S25.out hb ho)
    clear S25
    clear hb ho
    have HZzs0 := Lib.hid (hcon.trans HC0.out)
    clear hcon
    go_wp2_with fail
    refine hK.out _ _ ⟨Bag.cell_at S26.out 0 rfl 0 rfl, Bag.cell_at S26.out 0 rfl 1 rfl, Bag.cell_at S26.out 0 rfl 2 rfl, Bag.cell_at S26.out 0 rfl 3 rfl, Bag.cell_at S26.out 0 rfl 4 rfl, Bag.cell_at S26.out 0 rfl 5 rfl, Bag.cell_at S26.out 0 rfl 6 rfl, Bag.cell_at S26.out 0 rfl 7 rfl, Bag.cell_at S26.out 1 rfl 0 rfl, Bag.cell_at S26.out 1 rfl 1 rfl, Bag.cell_at S26.out 1 rfl 2 rfl⟩ (fun hS => ?_)
    clear hK K
    try simp only [zp0, zp1, zp2, zp3, zp4]
    refine Reg.one_op (i := 3) rfl (by kernel_rfl) (fun K hK => ?_)
    go_simp
    go_at_call 49
    refine (HTO1.out w15 S26.out.old).mono ?_
    rintro e w16 ⟨rfl, hb⟩
    have S27 := Lib.hid (show Sl.Sep W _ [_, _, QQ, _, _] from S26.out.keep hb)
    clear S26
    clear hb
    go_wp2_with fail
    refine hK.out _ _ ⟨Bag.cell_at S27.out 0 rfl 0 rfl, Bag.cell_at S27.out 0 rfl 1 rfl, Bag.cell_at S27.out 0 rfl 2 rfl, Bag.cell_at S27.out 0 rfl 3 rfl, Bag.cell_at S27.out 0 rfl 4 rfl, Bag.cell_at S27.out 0 rfl 5 rfl, Bag.cell_at S27.out 0 rfl 6 rfl, Bag.cell_at S27.out 0 rfl 7 rfl, Bag.cell_at S27.out 1 rfl 0 rfl, Bag.cell_at S27.out 1 rfl 1 rfl, Bag.cell_at S27.out 1 rfl 2 rfl⟩ (fun hS => ?_)
    clear hK K
    try simp only [zp0, zp1, zp2, zp3, zp4]
    refine Reg.one_op (i := 4) rfl (by kernel_rfl) (fun K hK => ?_)
    go_simp
    go_at_call 27
    refine (Cimpl.out zs0 HZzs0.out _ (Bag.bag_rd S27.out 4 rfl)).mono ?_
    rintro e w17 ⟨zr, rfl, hcon, ho, hb⟩
    have S28 := Lib.hid (show Sl.Sep W _ [_, _, QQ, _, _, Bag.bag zr.rows] from Bag.push_bag S27.out hb ho)
    clear S27
    clear hb ho
    have HZzr := Lib.hid hcon
    clear hcon
    go_wp2_with fail
    refine hK.out _ _ ⟨Bag.cell_at S28.out 0 rfl 0 rfl, Bag.cell_at S28.out 0 rfl 1 rfl, Bag.cell_at S28.out 0 rfl 2 rfl, Bag.cell_at S28.out 0 rfl 3 rfl, Bag.cell_at S28.out 0 rfl 4 rfl, Bag.cell_at S28.out 0 rfl 5 rfl, Bag.cell_at S28.out 0 rfl 6 rfl, Bag.cell_at S28.out 0 rfl 7 rfl, Bag.cell_at S28.out 1 rfl 0 rfl, Bag.cell_at S28.out 1 rfl 1 rfl, Bag.cell_at S28.out 1 rfl 2 rfl⟩ (fun hS => ?_)
    clear hK K
    try simp only [zp0, zp1, zp2, zp3, zp4]
    refine tk 5 rfl ?_
    try simp only [zp0, zp1, zp2, zp3, zp4]
    refine tk 6 rfl ?_
    try simp only [zp0, zp1, zp2, zp3, zp4]
    refine tk 7 rfl ?_
    try simp only [zp0, zp1, zp2, zp3, zp4]
    have S29 := Lib.hid (show Sl.Sep W _ [_, _, QQ, _, _] from Bag.take S28.out [0, 1, 2, 5, 3] (by rfl) (by decide))
    clear S28
    rotate_left
    exact AllReadyH.nil
    all_goals
     refine Reg.one_op (i := 9) rfl (by kernel_rfl) (fun K hK => ?_)
     have f0 : World.cell? _ ⟨gb0, 0, none⟩ = some (.string ⟨#[]⟩) := Bag.cell_at S29.out 4 rfl 0 rfl
     have f1 : World.cell? _ ⟨gb0, 1, none⟩ = some (.slice none 0 0) := Bag.cell_at S29.out 4 rfl 1 rfl
     have f2 : World.cell? _ ⟨gb0, 2, none⟩ = some (.int .i64 0) := Bag.cell_at S29.out 4 rfl 2 rfl
     have z0 := Bag.free_at S29.out 4 rfl 0
     have z1 := Bag.free_at S29.out 4 rfl 1
     have z2 := Bag.free_at S29.out 4 rfl 2
     go_simp
     clear f0 f1 f2 z0 z1 z2
     have S30 := Lib.hid (show Sl.Sep W _ [_, _, QQ, _, L4.boxR gb0 26 #[.string zr.name, .slice zr.a zr.xs.length zr.c, .int .i64 zr.auto]] from L5.put_box5 (L5.put_box5 (L5.put_box5 (S29.out) 4 rfl 0 (.string zr.name)) 4 rfl 1 (.slice zr.a zr.xs.length zr.c)) 4 rfl 2 (.int .i64 zr.auto))
     clear S29
     refine hK.out _ _ ⟨Bag.cell_at S30.out 0 rfl 0 rfl, Bag.cell_at S30.out 0 rfl 1 rfl, Bag.cell_at S30.out 0 rfl 2 rfl, Bag.cell_at S30.out 0 rfl 3 rfl, Bag.cell_at S30.out 0 rfl 4 rfl, Bag.cell_at S30.out 0 rfl 5 rfl, Bag.cell_at S30.out 0 rfl 6 rfl, Bag.cell_at S30.out 0 rfl 7 rfl, Bag.cell_at S30.out 1 rfl 0 rfl, Bag.cell_at S30.out 1 rfl 1 rfl, Bag.cell_at S30.out 1 rfl 2 rfl⟩ (fun hS => ?_)
     clear hK K
     try simp only [zp0, zp1, zp2, zp3, zp4]
     refine tk 10 rfl ?_
     try simp only [zp0, zp1, zp2, zp3, zp4]
     refine wpAnyH_done (by kernel_rfl) ?_ _
     go_wp2_with fail
     go_meet
     case rel =>
      exact ⟨gb0, zr, rfl, rfl, And.intro HZzr.out S30.out⟩
   case rest =>
    obtain ⟨g5a', z5', rfl, rfl, hq⟩ := hcut
    have HZz5' := Lib.hid hq.out.1
    have S24 := Lib.hid hq.out.2
    clear hq S23 HTO0 HTO1
    have S25 := Lib.hid (show Sl.Sep W _ [L4.boxR (W.heap.size + 1) 74 #[.bool r1.hl, .bool r1.hh, .int .i64 r1.lo.kind, .int .i64 r1.lo.n, .string r1.lo.text, .int .i64 r1.hi.kind, .int .i64 r1.hi.n, .string r1.hi.text], L4.boxR W.heap.size 57 #[.string y0.name, .slice y0.a y0.xs.length y0.c, .int .i64 y0.auto], Bag.bag z5'.rows, L4.boxR g5a' 26 #[.string z5'.name, .slice z5'.a z5'.xs.length z5'.c, .int .i64 z5'.auto], QQ] from Bag.take S24.out [0, 1, 3, 4, 2] (by rfl) (by decide))
    clear S24
    have S26 := Lib.hid (show Sl.Sep W _ [L4.boxR (W.heap.size + 1) 74 #[.bool r1.hl, .bool r1.hh, .int .i64 r1.lo.kind, .int .i64 r1.lo.n, .string r1.lo.text, .int .i64 r1.hi.kind, .int .i64 r1.hi.n, .string r1.hi.text], L4.boxR W.heap.size 57 #[.string y0.name, .slice y0.a y0.xs.length y0.c, .int .i64 y0.auto], Bag.bag z5'.rows, L4.boxR g5a' 26 #[.string z5'.name, .slice z5'.a z5'.xs.length z5'.c, .int .i64 z5'.auto], Bag.bag ((L6.LS.marked 1 z2').rows), L4.boxR g1 26 #[.string z2'.name, .slice z2'.a z2'.xs.length z2'.c, .int .i64 z2'.auto], Bag.bag ((L6.LS.marked 1 z3').rows), L4.boxR g3a' 26 #[.string z3'.name, .slice z3'.a z3'.xs.length z3'.c, .int .i64 z3'.auto], Bag.bag z1'.rows, L4.boxR g1a' 26 #[.string z1'.name, .slice z1'.a z1'.xs.length z1'.c, .int .i64 z1'.auto]] from (by have h := S25.out; rw [HQQ.out] at h; exact Run.unpackR (us := [L4.boxR (W.heap.size + 1) 74 #[.bool r1.hl, .bool r1.hh, .int .i64 r1.lo.kind, .int .i64 r1.lo.n, .string r1.lo.text, .int .i64 r1.hi.kind, .int .i64 r1.hi.n, .string r1.hi.text], L4.boxR W.heap.size 57 #[.string y0.name, .slice y0.a y0.xs.length y0.c, .int .i64 y0.auto], Bag.bag z5'.rows, L4.boxR g5a' 26 #[.string z5'.name, .slice z5'.a z5'.xs.length z5'.c, .int .i64 z5'.auto]]) (vs := [Bag.bag ((L6.LS.marked 1 z2').rows), L4.boxR g1 26 #[.string z2'.name, .slice z2'.a z2'.xs.length z2'.c, .int .i64 z2'.auto], Bag.bag ((L6.LS.marked 1 z3').rows), L4.boxR g3a' 26 #[.string z3'.name, .slice z3'.a z3'.xs.length z3'.c, .int .i64 z3'.auto], Bag.bag z1'.rows, L4.boxR g1a' 26 #[.string z1'.name, .slice z1'.a z1'.xs.length z1'.c, .int .i64 z1'.auto]]) h))
    clear S25
    clear HQQ QQ
    have f0 : World.cell? _ ⟨g5a', 0, none⟩ = some (.string z5'.name) := Bag.cell_at S26.out 3 rfl 0 rfl
    have f1 : World.cell? _ ⟨g5a', 1, none⟩ = some (.slice z5'.a z5'.xs.length z5'.c) := Bag.cell_at S26.out 3 rfl 1 rfl
    have f2 : World.cell? _ ⟨g5a', 2, none⟩ = some (.int .i64 z5'.auto) := Bag.cell_at S26.out 3 rfl 2 rfl
    have f3 : World.cell? _ ⟨g1a', 0, none⟩ = some (.string z1'.name) := Bag.cell_at S26.out 9 rfl 0 rfl
    have f4 : World.cell? _ ⟨g1a', 1, none⟩ = some (.slice z1'.a z1'.xs.length z1'.c) := Bag.cell_at S26.out 9 rfl 1 rfl
    have f5 : World.cell? _ ⟨g1a', 2, none⟩ = some (.int .i64 z1'.auto) := Bag.cell_at S26.out 9 rfl 2 rfl
    go_wp2_with fail
    go_at_call 40
    have HC := L6.eqStore_any z5' z1' (HZz5'.out.trans HZz1'.out.symm) (by rw [HZz5'.out]; exact HFR.out) _ (Bag.bag_rd S26.out 2 rfl) (Bag.bag_rd S26.out 8 rfl)
    try dsimp only [L6.LS.v, L6.LS.cells, L4.K.v, L4.R.v] at HC
    refine HC.mono ?_
    clear HC
    rintro e w13 ⟨rfl, hb⟩
    clear f0 f1 f2 f3 f4 f5
    have S27 := Lib.hid (show Sl.Sep W _ [_, _, _, _, _, _, _, _, _, _] from S26.out.keep hb)
    clear S26
    clear hb
    have f0 : World.cell? _ ⟨g3a', 0, none⟩ = some (.string z3'.name) := Bag.cell_at S27.out 7 rfl 0 rfl
    have f1 : World.cell? _ ⟨g3a', 1, none⟩ = some (.slice z3'.a z3'.xs.length z3'.c) := Bag.cell_at S27.out 7 rfl 1 rfl
    have f2 : World.cell? _ ⟨g3a', 2, none⟩ = some (.int .i64 z3'.auto) := Bag.cell_at S27.out 7 rfl 2 rfl
    go_wp2_with fail
    go_at_call 44
    have HC := L6.heldStore_any z3' 1 (by rw [HZz3'.out]; exact HFR.out) (by omega) (by omega) _ (Bag.bag_rd S27.out 6 rfl)
    try dsimp only [L6.LS.v, L6.LS.cells, L4.K.v, L4.R.v] at HC
    rw [HEz3'.out] at HC
    refine HC.mono ?_
    clear HC
    rintro e w14 ⟨rfl, hb⟩
    clear f0 f1 f2
    have S28 := Lib.hid (show Sl.Sep W _ [_, _, _, _, _, _, _, _, _, _] from S27.out.keep hb)
    clear S27
    clear hb
    go_wp2_with fail
    go_ret
    exact ⟨rfl, S28.out.old⟩

set_option maxRecDepth 100000 in
theorem lifted (os : Os) (started : os.Started) (H : Type) (enc : TypeId × Value → H) :
  ReturnsInHanded {} Try.checked os 8 .any (Rows.fnExactDeleteItemsSpec.pre6 enc Try.prog Try.f8 Rows.fnExactDeleteItemsRow.domain false) (Rows.fnExactDeleteItemsSpec.post enc Try.prog Try.f8 false true false false) := by
 refine returnsInHanded_of_change_sized (C := Try.checked) own started (by kernel_rfl) Try.func8
  (ChangeSpec.witness6 (enc := enc) (C := Try.checked) false ⟨#[], #[.agg #[.string ⟨#[]⟩, .slice none 0 0, .int .i64 0], .agg #[.bool false, .bool false, .int .i64 0, .int .i64 0, .string ⟨#[]⟩, .int .i64 0, .int .i64 0, .string ⟨#[]⟩]], []⟩ 8 (by kernel_rfl) (by kernel_rfl) (by kernel_rfl) (by kernel_rfl)) ?_
 intro W base args ds gs before hval0 hW _ hsz0 _
 have hval : ∀ (j : Nat) t v, Try.f8.params[j]? = some t → args[j]? = some v → Value.okWide Try.prog W .any base t v := hval0
 have hW' := hW
 obtain ⟨p, q, hA0, hV, rfl, _, _⟩ := hW
 have hA : DataW.TrodAll enc Try.prog W 0 (fun _ => true) true Try.f8.params.toList args.toList ds p := hA0
 obtain ⟨rfl, rfl⟩ := trodVars_none hV
 have hlt : ∀ x ∈ p, x.block < W.heap.size := fun x hx => hW'.lt x (by simpa using hx)
 simp only [List.append_nil] at hW'
 have hw := walk H enc W base args ds p hval hA hlt hsz0
 have hA1 := hA
 clear hA0 hval0 hsz0 hval hlt
 rw [Try.params8] at hA
 obtain ⟨v0, vs0, d0, ds0, p0, q0, e0, rfl, rfl, h0, hr0⟩ := trodAll_cons hA
 obtain ⟨v1, vs1, d1, ds1, p1, q1, e1, rfl, rfl, h1, hr1⟩ := trodAll_cons hr0
 obtain ⟨e2, rfl, rfl⟩ := trodAll_nil hr1
 refine hw.mono fun e W' ⟨he, hb⟩ => ?_
 subst he
 exact ⟨_, rfl, Frame.law_post (tb := 4) rfl hW' hA1 rfl rfl rfl laidOut (by kernel_rfl) (by kernel_rfl) Try.underlying4 hb⟩

theorem closedFacts : joinedFacts Try.pinned.checked.prog 8 Try.f8 Rows.fnExactDeleteItemsSpec Rows.fnExactDeleteItemsRow = true := by
 have h1 : Try.pinned.checked.prog.mayEnter = true := Closed.mayIn
 have h2 : (Rows.fnExactDeleteItemsRow.lifted == Try.pinned.checked.prog.liftsFinal) = true := by
  rw [show Try.pinned.checked.prog.liftsFinal = false from Closed.liftsNone]; rfl
 have h3 : (Try.pinned.checked.prog.make == some Rows.fnExactDeleteItemsRow.make) = true := by
  rw [show Try.pinned.checked.prog.make = some .cut from Closed.makeIs]; rfl
 unfold joinedFacts
 rw [h1, h2, h3]
 change _ = true
 kernel_rfl
theorem holds : Rows.FnExactDeleteItemsSaid :=
 OpenClaim.holds_of_wide 8 Try.f8 rfl rfl rfl rfl rfl rfl rfl ⟨rfl, rfl, rfl, rfl, rfl⟩ rfl rfl rfl rfl rfl (by kernel_rfl) Try.func8 closedFacts
  (of_decide_eq_true (by kernel_rfl)) (by unfold Func.isWrapper; first | (rw [if_pos (by decide +kernel)]; kernel_rfl) | (rw [if_neg (by decide +kernel)]; exact ⟨rfl, rfl⟩))
  (fun os started H enc _ => lifted os started H enc)

#print axioms holds
end Go.Proofs.Ytojcdmgcbgpdmaa.lawFnExactDeleteItems
