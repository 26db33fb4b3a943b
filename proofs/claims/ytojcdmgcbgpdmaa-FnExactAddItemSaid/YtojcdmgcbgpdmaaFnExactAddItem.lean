import Derived.Test.YtojcdmgcbgpdmaaFnExactAddItemP3
import Derived.Test.YtojcdmgcbgpdmaaClosed
import Derived.JoinedOf
import Derived.SizedLaws
import Derived.LaidLaws
import Derived.ShutString
import Derived.Stop.LaidErr
import Derived.Lib.LaidTab
import Derived.Deep.RegionHeld3
import Derived.Deep.DeepCutAuto
set_option linter.unusedSimpArgs false
namespace Go.Proofs.Ytojcdmgcbgpdmaa.lawFnExactAddItem
open Go.ChangeShapes Go.WideShapes Go.ChangeAt Go.RowKit
open Go.ChangeMaps (open_string shut_string)
theorem own : ownKnob Try.prog.godebug = none := by kernel_rfl
theorem laidOut : laidOutB Try.prog = true := by kernel_rfl
open Mem Sl Bag
open Go.Proofs.Ytojcdmgcbgpdmaa.L5 (cellsF)
set_option maxRecDepth 100000 in
set_option maxHeartbeats 8000000 in
theorem walk (H : Type) (enc : TypeId × Value → H) (W : World) (base : Nat) (args : Array Value) (ds : List (DataW H)) (p : List MemPlace)
  (hval : ∀ (j : Nat) t v, Try.f6.params[j]? = some t → args[j]? = some v → Value.okWide Try.prog W .any base t v)
  (hA : DataW.TrodAll enc Try.prog W 0 (fun _ => true) true Try.f6.params.toList args.toList ds p)
  (hlt : ∀ x ∈ p, x.block < W.heap.size)
  (hsz : (DataW.weightsEach Try.prog (Try.f6.params.toList ++ Rows.fnExactAddItemSpec.plain.varTypes Try.prog) (ds ++ [])).all (· ≤ reachBytes) = true) :
  Calls Try.prog 6 args W fun e w' => e = .returned (.bool true) ∧ Below W.heap.size W w' := by
 rw [Try.params6] at hA hval hsz
 obtain ⟨v0, vs0, d0, ds0, p0, q0, e0, rfl, rfl, h0, g0⟩ := trodAll_cons hA
 obtain ⟨v1, vs1, d1, ds1, p1, q1, e1, rfl, rfl, h1, g1⟩ := trodAll_cons g0
 obtain ⟨v2, vs2, d2, ds2, p2, q2, e2, rfl, rfl, h2, g2⟩ := trodAll_cons g1
 obtain ⟨ez, rfl, rfl⟩ := trodAll_nil g2
 subst ez
 subst e2
 subst e1
 obtain rfl : args = #[v0, v1, v2] := Array.toList_inj.1 e0
 clear e0
 obtain ⟨y0, rfl, hR0, hW0⟩ := L6.open_store (hval 0 57 v0 rfl rfl) h0 (fun x hx => hlt x (by simp [hx]))
 obtain ⟨k1, rfl, hT1, -, -⟩ := L4.open_key (hval 1 58 v1 rfl rfl) h1
 obtain ⟨a2, l2, c2, rfl, hR2, hW2, hM2⟩ := L5.open_record (hval 2 61 v2 rfl rfl) h2 (fun x hx => hlt x (by simp [hx]))
 clear hval hA hlt hsz h0 h1 h2
 have HSZ0 := Lib.hid (fun q h0 h1 w' (h : Below W.heap.size W w') => L6.szStore_any y0 q hW0 h0 h1 w' ((hR0.below h).more h.size))
 have HRY0 := Lib.hid (fun w' (h : Below W.heap.size W w') => ((hR0.below h).more h.size : RowsRd w' w'.heap.size y0.rows))
 have HWA0 := Lib.hid hW0.auto
 clear hR0 hW0
 dsimp only [L6.LS.v, L6.LS.cells] at HSZ0
 have HSK1 := Lib.hid (fun q h0 h1 w' => L4.szKey_any k1 q hT1 h0 h1 w')
 clear hT1
 dsimp only [L4.K.v] at HSK1
 have HSR2 := Lib.hid (fun (q : Int) (h0 : -1 ≤ q) (h1 : q ≤ 1048576) w' (h : Below W.heap.size W w') => L5.szRecord_any a2 c2 l2 q hW2 hM2 h0 h1 w' ((hR2.below h).more h.size))
 have HRR2 := Lib.hid (fun w' (h : Below W.heap.size W w') => ((hR2.below h).more h.size))
 clear hR2 hW2 hM2
 dsimp only [L6.LS.v, L6.LS.cells, L4.K.v, L4.R.v]
 have S1 := Lib.hid (show Sl.Sep W _ [_, _, _] from L4.push_box (L4.push_box (L4.push_box (Sl.Sep.start W) 57 #[.string y0.name, .slice y0.a y0.xs.length y0.c, .int .i64 y0.auto] (W.heap.size) (by simp)) 58 #[.int .i64 k1.kind, .int .i64 k1.n, .string k1.text] (W.heap.size + 1) (by simp)) 61 #[.slice a2 l2.length c2] (W.heap.size + 1 + 1) (by simp))
 obtain ⟨wa, hwa⟩ : ∃ u, u = (((W.alloc (.cells #[.string y0.name, .slice y0.a y0.xs.length y0.c, .int .i64 y0.auto] 57)).alloc (.cells #[.int .i64 k1.kind, .int .i64 k1.n, .string k1.text] 58)).alloc (.cells #[.slice a2 l2.length c2] 61)) := ⟨_, rfl⟩
 rw [← hwa] at S1
 go_enter Try.func6, Try.ntmps6
 go_upto_region 1 with fail
 rw [← hwa]
 clear hwa
 have f0 : World.cell? _ ⟨W.heap.size, 0, none⟩ = some (.string y0.name) := Bag.cell_at S1.out 0 rfl 0 rfl
 have f1 : World.cell? _ ⟨W.heap.size, 1, none⟩ = some (.slice y0.a y0.xs.length y0.c) := Bag.cell_at S1.out 0 rfl 1 rfl
 have f2 : World.cell? _ ⟨W.heap.size, 2, none⟩ = some (.int .i64 y0.auto) := Bag.cell_at S1.out 0 rfl 2 rfl
 go_wp2_with fail
 go_at_call 34
 have HC := HSZ0.out 1048576 (by omega) (by omega) _ S1.out.old
 try dsimp only [L6.LS.v, L6.LS.cells, L4.K.v, L4.R.v] at HC
 refine HC.mono ?_
 clear HC
 rintro e w1 ⟨u0, rfl, ro, hb⟩
 clear f0 f1 f2
 have S2 := Lib.hid (show Sl.Sep W _ [_, _, _] from S1.out.keep hb)
 clear S1
 clear hb
 have HRO0 := Lib.hid ro
 have X0 : -1 ≤ u0 ∧ u0 ≤ 1048576 := ⟨ro.1, ro.2.1⟩
 clear ro
 by_cases neg0 : u0 < 0
 ·
  skip
  go_wp2_with fail
  go_ret
  exact ⟨rfl, S2.out.old⟩
 have HF0 := Lib.hid (HRO0.out.2.2 (by omega))
 obtain ⟨u1, hu⟩ : ∃ u, L4.left u0 k1.text = u := ⟨_, rfl⟩
 have X1 := L4.left_range u0 k1.text (by omega)
 have HU1 := Lib.hid (fun h : ¬ u1 < 0 => L4.left_small (n := u0) (s := k1.text) (by rw [hu]; exact h))
 rw [hu] at X1
 have f0 : World.cell? _ ⟨W.heap.size + 1, 0, none⟩ = some (.int .i64 k1.kind) := Bag.cell_at S2.out 1 rfl 0 rfl
 have f1 : World.cell? _ ⟨W.heap.size + 1, 1, none⟩ = some (.int .i64 k1.n) := Bag.cell_at S2.out 1 rfl 1 rfl
 have f2 : World.cell? _ ⟨W.heap.size + 1, 2, none⟩ = some (.string k1.text) := Bag.cell_at S2.out 1 rfl 2 rfl
 go_wp2_with fail
 go_at_call 35
 have HC := HSK1.out u0 (by omega) (by omega) w1
 try dsimp only [L6.LS.v, L6.LS.cells, L4.K.v, L4.R.v] at HC
 rw [hu] at HC
 refine HC.mono ?_
 clear HC
 rintro e w2 ⟨rfl, hb⟩
 clear f0 f1 f2
 have S3 := Lib.hid (show Sl.Sep W _ [_, _, _] from S2.out.keep hb)
 clear S2
 clear hb
 clear hu
 by_cases neg1 : u1 < 0
 ·
  skip
  go_wp2_with fail
  go_ret
  exact ⟨rfl, S3.out.old⟩
 have HT1 := Lib.hid (show k1.text.size ≤ 1099511627776 from by have := HU1.out (by omega); omega)
 have f0 : World.cell? _ ⟨W.heap.size + 1 + 1, 0, none⟩ = some (.slice a2 l2.length c2) := Bag.cell_at S3.out 2 rfl 0 rfl
 go_wp2_with fail
 go_at_call 36
 have HC := HSR2.out u1 (by omega) (by omega) _ S3.out.old
 try dsimp only [L6.LS.v, L6.LS.cells, L4.K.v, L4.R.v] at HC
 refine HC.mono ?_
 clear HC
 rintro e w3 ⟨u2, rfl, ro, hb⟩
 clear f0
 have S4 := Lib.hid (show Sl.Sep W _ [_, _, _] from S3.out.keep hb)
 clear S3
 clear hb
 have HRO2 := Lib.hid ro
 have X2 : -1 ≤ u2 ∧ u2 ≤ 1048576 := ⟨ro.1, ro.2.1⟩
 clear ro
 by_cases neg2 : u2 < 0
 ·
  skip
  go_wp2_with fail
  go_ret
  exact ⟨rfl, S4.out.old⟩
 have HL2 := Lib.hid (HRO2.out.out neg2 (by omega))
 obtain ⟨C0, hC0⟩ : ∃ C, y0.con = C := ⟨_, rfl⟩
 rw [hC0] at HF0
 have HC0 := Lib.hid hC0
 clear hC0
 obtain ⟨r0', hr0'⟩ : ∃ r : L6.S6, (L6.addI C0 k1 l2).1 = r := ⟨_, rfl⟩
 obtain ⟨r1', hr1'⟩ : ∃ r : Bool, (L6.addI C0 k1 l2).2 = r := ⟨_, rfl⟩
 have Cspec : ∀ (z0 : L6.LS), z0.con = C0 → ∀ (ra2 : Option Addr) (rc2 : Nat), ∀ w' : World, RowsRd w' w'.heap.size z0.rows → Reads w' w'.heap.size ra2 (cellsF l2) → Calls Try.prog 45 #[.agg #[.string z0.name, .slice z0.a z0.xs.length z0.c, .int .i64 z0.auto], .agg #[.int .i64 k1.kind, .int .i64 k1.n, .string k1.text], .agg #[.slice ra2 l2.length rc2]] w' fun e w'' => ∃ z : L6.LS, e = .returned (.tuple #[.agg #[.string z.name, .slice z.a z.xs.length z.c, .int .i64 z.auto], .bool r1']) ∧ z.con = r0' ∧ BagOwn w'' w'.heap.size z.rows ∧ Below w'.heap.size w' w'' := by
  intro z0 hz0 ra2 rc2 w' hr0 hr2
  have hf0 : L6.FitS z0.con := by rw [hz0]; exact HF0.out
  have h := L6.specAddItem_any z0 k1 ra2 rc2 l2 hf0 HT1.out HL2.out.1 HL2.out.2 w' hr0 hr2
  rw [hz0, hr0', hr1'] at h
  exact h
 replace Cspec := Lib.hid Cspec
 have Cimpl : ∀ (z0 : L6.LS), z0.con = C0 → ∀ (ra2 : Option Addr) (rc2 : Nat), ∀ w' : World, RowsRd w' w'.heap.size z0.rows → Reads w' w'.heap.size ra2 (cellsF l2) → Calls Try.prog 18 #[.agg #[.string z0.name, .slice z0.a z0.xs.length z0.c, .int .i64 z0.auto], .agg #[.int .i64 k1.kind, .int .i64 k1.n, .string k1.text], .agg #[.slice ra2 l2.length rc2]] w' fun e w'' => ∃ z : L6.LS, e = .returned (.tuple #[.agg #[.string z.name, .slice z.a z.xs.length z.c, .int .i64 z.auto], .bool r1']) ∧ z.con = r0' ∧ BagOwn w'' w'.heap.size z.rows ∧ Below w'.heap.size w' w'' := by
  intro z0 hz0 ra2 rc2 w' hr0 hr2
  have hf0 : L6.FitS z0.con := by rw [hz0]; exact HF0.out
  have h := L6.addItem_any z0 k1 ra2 rc2 l2 hf0 HT1.out HL2.out.1 HL2.out.2 w' hr0 hr2
  rw [hz0, hr0', hr1'] at h
  exact h
 replace Cimpl := Lib.hid Cimpl
 have HFR := Lib.hid (show L6.FitS r0' from by rw [← hr0']; exact L6.FitS_add HF0.out ⟨HT1.out, HL2.out.1, HL2.out.2⟩)
 clear hr0' hr1'
 have S5 := Lib.hid (show Sl.Sep W _ [_, _, _] from Bag.take S4.out [0, 1, 2] (by rfl) (by decide))
 clear S4
 go_upto_region 11 with fail
 have HTO0 := Lib.hid (fun w' (h : Below W.heap.size W w') => L6.toStore_any y0 (by rw [HC0.out]; exact HF0.out) w' (HRY0.out w' h))
 try dsimp only [L6.LS.v, L6.LS.cells, L4.K.v, L4.R.v] at HTO0
 have HTO1 := Lib.hid (fun w' (h : Below W.heap.size W w') => L4.toKey_any k1 w')
 try dsimp only [L6.LS.v, L6.LS.cells, L4.K.v, L4.R.v] at HTO1
 have HTO2 := Lib.hid (fun w' (h : Below W.heap.size W w') => L5.toRecord_any a2 c2 l2 (by have := HL2.out.1; omega) w' (HRR2.out w' h))
 try dsimp only [L6.LS.v, L6.LS.cells, L4.K.v, L4.R.v] at HTO2
 go_cut [8, 9] (fun pz0 qs0 wx => ∃ (g1a' : Nat) (z1' : L6.LS), pz0 = .pointer (some ⟨g1a', 0, none⟩) ∧ qs0 = .bool r1' ∧ Hid (z1'.con = r0' ∧ Sl.Sep W wx [L4.boxR W.heap.size 57 #[.string y0.name, .slice y0.a y0.xs.length y0.c, .int .i64 y0.auto], L4.boxR (W.heap.size + 1) 58 #[.int .i64 k1.kind, .int .i64 k1.n, .string k1.text], L4.boxR (W.heap.size + 1 + 1) 61 #[.slice a2 l2.length c2], Bag.bag z1'.rows, L4.boxR g1a' 26 #[.string z1'.name, .slice z1'.a z1'.xs.length z1'.c, .int .i64 z1'.auto]]))
 case first =>
  refine wp_region_held_drew (S := (fun w' => w'.cell? ⟨W.heap.size, 0, none⟩ = some (.string y0.name) ∧ w'.cell? ⟨W.heap.size, 1, none⟩ = some (.slice y0.a y0.xs.length y0.c) ∧ w'.cell? ⟨W.heap.size, 2, none⟩ = some (.int .i64 y0.auto) ∧ w'.cell? ⟨W.heap.size + 1, 0, none⟩ = some (.int .i64 k1.kind) ∧ w'.cell? ⟨W.heap.size + 1, 1, none⟩ = some (.int .i64 k1.n) ∧ w'.cell? ⟨W.heap.size + 1, 2, none⟩ = some (.string k1.text) ∧ w'.cell? ⟨W.heap.size + 1 + 1, 0, none⟩ = some (.slice a2 l2.length c2))) (by kernel_rfl) ⟨Bag.cell_at S5.out 0 rfl 0 rfl, Bag.cell_at S5.out 0 rfl 1 rfl, Bag.cell_at S5.out 0 rfl 2 rfl, Bag.cell_at S5.out 1 rfl 0 rfl, Bag.cell_at S5.out 1 rfl 1 rfl, Bag.cell_at S5.out 1 rfl 2 rfl, Bag.cell_at S5.out 2 rfl 0 rfl⟩ (fun hS => ?_)
  have S6 := Lib.hid (Bag.drew1 S5.out)
  clear S5
  generalize World.drew _ = w4 at hS S6 ⊢
  refine tk 0 rfl ?_
  try simp only [zp0, zp1, zp2, zp3, zp4]
  refine tk 2 rfl ?_
  try simp only [zp0, zp1, zp2, zp3, zp4]
  refine tk 4 rfl ?_
  try simp only [zp0, zp1, zp2, zp3, zp4]
  refine wpAnyH_ready (rs := [1, 10]) (by kernel_rfl) (by simp) ?_
  refine Reg.cons_op (i := 1) rfl (fun K hK => ?_) ?_
  go_simp
  go_at_call 37
  refine (HTO0.out _ S6.out.old).mono ?_
  rintro e w5 ⟨zs0, rfl, hcon, ho, hb⟩
  have S7 := Lib.hid (show Sl.Sep W _ [_, _, _, Bag.bag zs0.rows] from Bag.push_bag S6.out hb ho)
  clear S6
  clear hb ho
  have HZzs0 := Lib.hid (hcon.trans HC0.out)
  clear hcon
  go_wp2_with fail
  refine hK.out _ _ ⟨Bag.cell_at S7.out 0 rfl 0 rfl, Bag.cell_at S7.out 0 rfl 1 rfl, Bag.cell_at S7.out 0 rfl 2 rfl, Bag.cell_at S7.out 1 rfl 0 rfl, Bag.cell_at S7.out 1 rfl 1 rfl, Bag.cell_at S7.out 1 rfl 2 rfl, Bag.cell_at S7.out 2 rfl 0 rfl⟩ (fun hS => ?_)
  clear hK K
  try simp only [zp0, zp1, zp2, zp3, zp4]
  refine wpAnyH_ready (rs := [3, 10]) (by kernel_rfl) (by simp) ?_
  refine Reg.cons_op (i := 3) rfl (fun K hK => ?_) ?_
  go_simp
  go_at_call 38
  refine (HTO1.out w5 S7.out.old).mono ?_
  rintro e w6 ⟨rfl, hb⟩
  have S8 := Lib.hid (show Sl.Sep W _ [_, _, _, _] from S7.out.keep hb)
  clear S7
  clear hb
  go_wp2_with fail
  refine hK.out _ _ ⟨Bag.cell_at S8.out 0 rfl 0 rfl, Bag.cell_at S8.out 0 rfl 1 rfl, Bag.cell_at S8.out 0 rfl 2 rfl, Bag.cell_at S8.out 1 rfl 0 rfl, Bag.cell_at S8.out 1 rfl 1 rfl, Bag.cell_at S8.out 1 rfl 2 rfl, Bag.cell_at S8.out 2 rfl 0 rfl⟩ (fun hS => ?_)
  clear hK K
  try simp only [zp0, zp1, zp2, zp3, zp4]
  refine wpAnyH_ready (rs := [5, 10]) (by kernel_rfl) (by simp) ?_
  refine Reg.cons_op (i := 5) rfl (fun K hK => ?_) ?_
  go_simp
  go_at_call 39
  refine (HTO2.out _ S8.out.old).mono ?_
  rintro e w7 ⟨ar2, cr2, rfl, ho, hb⟩
  have S9 := Lib.hid (show Sl.Sep W _ [_, _, _, _, Sv.ownV 128 2 ar2 cr2 l2.length (cellsF l2)] from Sv.push_own S8.out hb ho)
  clear S8
  clear hb ho
  go_wp2_with fail
  refine hK.out _ _ ⟨Bag.cell_at S9.out 0 rfl 0 rfl, Bag.cell_at S9.out 0 rfl 1 rfl, Bag.cell_at S9.out 0 rfl 2 rfl, Bag.cell_at S9.out 1 rfl 0 rfl, Bag.cell_at S9.out 1 rfl 1 rfl, Bag.cell_at S9.out 1 rfl 2 rfl, Bag.cell_at S9.out 2 rfl 0 rfl⟩ (fun hS => ?_)
  clear hK K
  try simp only [zp0, zp1, zp2, zp3, zp4]
  refine wpAnyH_ready (rs := [6, 10]) (by kernel_rfl) (by simp) ?_
  refine Reg.cons_op (i := 6) rfl (fun K hK => ?_) ?_
  go_simp
  go_at_call 45
  refine (Cspec.out zs0 HZzs0.out ar2 cr2 _ (Bag.bag_rd S9.out 3 rfl) (Sv.own_at S9.out 4 rfl).reads).mono ?_
  rintro e w8 ⟨zr, rfl, hcon, ho, hb⟩
  have S10 := Lib.hid (show Sl.Sep W _ [_, _, _, _, _, Bag.bag zr.rows] from Bag.push_bag S9.out hb ho)
  clear S9
  clear hb ho
  have HZzr := Lib.hid hcon
  clear hcon
  go_wp2_with fail
  refine hK.out _ _ ⟨Bag.cell_at S10.out 0 rfl 0 rfl, Bag.cell_at S10.out 0 rfl 1 rfl, Bag.cell_at S10.out 0 rfl 2 rfl, Bag.cell_at S10.out 1 rfl 0 rfl, Bag.cell_at S10.out 1 rfl 1 rfl, Bag.cell_at S10.out 1 rfl 2 rfl, Bag.cell_at S10.out 2 rfl 0 rfl⟩ (fun hS => ?_)
  clear hK K
  try simp only [zp0, zp1, zp2, zp3, zp4]
  refine tk 7 rfl ?_
  try simp only [zp0, zp1, zp2, zp3, zp4]
  refine tk 8 rfl ?_
  try simp only [zp0, zp1, zp2, zp3, zp4]
  refine tk 9 rfl ?_
  try simp only [zp0, zp1, zp2, zp3, zp4]
  refine Reg.one_op (i := 10) rfl (by kernel_rfl) (fun K hK => ?_)
  go_simp
  have S11 := Lib.hid (show Sl.Sep W _ [_, _, _, _, _, _, _] from L4.push_box S10.out 26 #[.string ⟨#[]⟩, .slice none 0 0, .int .i64 0] w8.heap.size rfl)
  clear S10
  obtain ⟨gb0, hg⟩ : ∃ g', g' = w8.heap.size := ⟨_, rfl⟩
  rw [← hg] at S11 ⊢
  clear hg
  generalize w8.alloc (.cells #[.string ⟨#[]⟩, .slice none 0 0, .int .i64 0] 26) = w9 at S11 ⊢
  refine hK.out _ _ ⟨Bag.cell_at S11.out 0 rfl 0 rfl, Bag.cell_at S11.out 0 rfl 1 rfl, Bag.cell_at S11.out 0 rfl 2 rfl, Bag.cell_at S11.out 1 rfl 0 rfl, Bag.cell_at S11.out 1 rfl 1 rfl, Bag.cell_at S11.out 1 rfl 2 rfl, Bag.cell_at S11.out 2 rfl 0 rfl⟩ (fun hS => ?_)
  clear hK K
  try simp only [zp0, zp1, zp2, zp3, zp4]
  have S12 := Lib.hid (show Sl.Sep W _ [_, _, _, _, L4.boxR gb0 26 #[.string ⟨#[]⟩, .slice none 0 0, .int .i64 0]] from Bag.take S11.out [0, 1, 2, 5, 6] (by rfl) (by decide))
  clear S11
  rotate_left
  refine Reg.cons_op (i := 10) rfl (fun K hK => ?_) ?_
  go_simp
  have S10 := Lib.hid (show Sl.Sep W _ [_, _, _, _, _, _] from L4.push_box S9.out 26 #[.string ⟨#[]⟩, .slice none 0 0, .int .i64 0] w7.heap.size rfl)
  clear S9
  obtain ⟨gb0, hg⟩ : ∃ g', g' = w7.heap.size := ⟨_, rfl⟩
  rw [← hg] at S10 ⊢
  clear hg
  generalize w7.alloc (.cells #[.string ⟨#[]⟩, .slice none 0 0, .int .i64 0] 26) = w8 at S10 ⊢
  refine hK.out _ _ ⟨Bag.cell_at S10.out 0 rfl 0 rfl, Bag.cell_at S10.out 0 rfl 1 rfl, Bag.cell_at S10.out 0 rfl 2 rfl, Bag.cell_at S10.out 1 rfl 0 rfl, Bag.cell_at S10.out 1 rfl 1 rfl, Bag.cell_at S10.out 1 rfl 2 rfl, Bag.cell_at S10.out 2 rfl 0 rfl⟩ (fun hS => ?_)
  clear hK K
  try simp only [zp0, zp1, zp2, zp3, zp4]
  refine Reg.one_op (i := 6) rfl (by kernel_rfl) (fun K hK => ?_)
  go_simp
  go_at_call 45
  refine (Cspec.out zs0 HZzs0.out ar2 cr2 _ (Bag.bag_rd S10.out 3 rfl) (Sv.own_at S10.out 4 rfl).reads).mono ?_
  rintro e w9 ⟨zr, rfl, hcon, ho, hb⟩
  have S11 := Lib.hid (show Sl.Sep W _ [_, _, _, _, _, L4.boxR gb0 26 #[.string ⟨#[]⟩, .slice none 0 0, .int .i64 0], Bag.bag zr.rows] from Bag.push_bag S10.out hb ho)
  clear S10
  clear hb ho
  have HZzr := Lib.hid hcon
  clear hcon
  go_wp2_with fail
  refine hK.out _ _ ⟨Bag.cell_at S11.out 0 rfl 0 rfl, Bag.cell_at S11.out 0 rfl 1 rfl, Bag.cell_at S11.out 0 rfl 2 rfl, Bag.cell_at S11.out 1 rfl 0 rfl, Bag.cell_at S11.out 1 rfl 1 rfl, Bag.cell_at S11.out 1 rfl 2 rfl, Bag.cell_at S11.out 2 rfl 0 rfl⟩ (fun hS => ?_)
  clear hK K
  try simp only [zp0, zp1, zp2, zp3, zp4]
  refine tk 7 rfl ?_
  try simp only [zp0, zp1, zp2, zp3, zp4]
  refine tk 8 rfl ?_
  try simp only [zp0, zp1, zp2, zp3, zp4]
  refine tk 9 rfl ?_
  try simp only [zp0, zp1, zp2, zp3, zp4]
  have S12 := Lib.hid (show Sl.Sep W _ [_, _, _, _, _] from Bag.take S11.out [0, 1, 2, 6, 5] (by rfl) (by decide))
  clear S11
  rotate_left
  exact AllReadyH.nil
  refine Reg.cons_op (i := 10) rfl (fun K hK => ?_) ?_
  go_simp
  have S9 := Lib.hid (show Sl.Sep W _ [_, _, _, _, _] from L4.push_box S8.out 26 #[.string ⟨#[]⟩, .slice none 0 0, .int .i64 0] w6.heap.size rfl)
  clear S8
  obtain ⟨gb0, hg⟩ : ∃ g', g' = w6.heap.size := ⟨_, rfl⟩
  rw [← hg] at S9 ⊢
  clear hg
  generalize w6.alloc (.cells #[.string ⟨#[]⟩, .slice none 0 0, .int .i64 0] 26) = w7 at S9 ⊢
  refine hK.out _ _ ⟨Bag.cell_at S9.out 0 rfl 0 rfl, Bag.cell_at S9.out 0 rfl 1 rfl, Bag.cell_at S9.out 0 rfl 2 rfl, Bag.cell_at S9.out 1 rfl 0 rfl, Bag.cell_at S9.out 1 rfl 1 rfl, Bag.cell_at S9.out 1 rfl 2 rfl, Bag.cell_at S9.out 2 rfl 0 rfl⟩ (fun hS => ?_)
  clear hK K
  try simp only [zp0, zp1, zp2, zp3, zp4]
  refine Reg.one_op (i := 5) rfl (by kernel_rfl) (fun K hK => ?_)
  go_simp
  go_at_call 39
  refine (HTO2.out _ S9.out.old).mono ?_
  rintro e w8 ⟨ar2, cr2, rfl, ho, hb⟩
  have S10 := Lib.hid (show Sl.Sep W _ [_, _, _, _, L4.boxR gb0 26 #[.string ⟨#[]⟩, .slice none 0 0, .int .i64 0], Sv.ownV 128 2 ar2 cr2 l2.length (cellsF l2)] from Sv.push_own S9.out hb ho)
  clear S9
  clear hb ho
  go_wp2_with fail
  refine hK.out _ _ ⟨Bag.cell_at S10.out 0 rfl 0 rfl, Bag.cell_at S10.out 0 rfl 1 rfl, Bag.cell_at S10.out 0 rfl 2 rfl, Bag.cell_at S10.out 1 rfl 0 rfl, Bag.cell_at S10.out 1 rfl 1 rfl, Bag.cell_at S10.out 1 rfl 2 rfl, Bag.cell_at S10.out 2 rfl 0 rfl⟩ (fun hS => ?_)
  clear hK K
  try simp only [zp0, zp1, zp2, zp3, zp4]
  refine Reg.one_op (i := 6) rfl (by kernel_rfl) (fun K hK => ?_)
  go_simp
  go_at_call 45
  refine (Cspec.out zs0 HZzs0.out ar2 cr2 _ (Bag.bag_rd S10.out 3 rfl) (Sv.own_at S10.out 5 rfl).reads).mono ?_
  rintro e w9 ⟨zr, rfl, hcon, ho, hb⟩
  have S11 := Lib.hid (show Sl.Sep W _ [_, _, _, _, _, _, Bag.bag zr.rows] from Bag.push_bag S10.out hb ho)
  clear S10
  clear hb ho
  have HZzr := Lib.hid hcon
  clear hcon
  go_wp2_with fail
  refine hK.out _ _ ⟨Bag.cell_at S11.out 0 rfl 0 rfl, Bag.cell_at S11.out 0 rfl 1 rfl, Bag.cell_at S11.out 0 rfl 2 rfl, Bag.cell_at S11.out 1 rfl 0 rfl, Bag.cell_at S11.out 1 rfl 1 rfl, Bag.cell_at S11.out 1 rfl 2 rfl, Bag.cell_at S11.out 2 rfl 0 rfl⟩ (fun hS => ?_)
  clear hK K
  try simp only [zp0, zp1, zp2, zp3, zp4]
  refine tk 7 rfl ?_
  try simp only [zp0, zp1, zp2, zp3, zp4]
  refine tk 8 rfl ?_
  try simp only [zp0, zp1, zp2, zp3, zp4]
  refine tk 9 rfl ?_
  try simp only [zp0, zp1, zp2, zp3, zp4]
  have S12 := Lib.hid (show Sl.Sep W _ [_, _, _, _, _] from Bag.take S11.out [0, 1, 2, 6, 4] (by rfl) (by decide))
  clear S11
  rotate_left
  exact AllReadyH.nil
  refine Reg.cons_op (i := 10) rfl (fun K hK => ?_) ?_
  go_simp
  have S8 := Lib.hid (show Sl.Sep W _ [_, _, _, _, _] from L4.push_box S7.out 26 #[.string ⟨#[]⟩, .slice none 0 0, .int .i64 0] w5.heap.size rfl)
  clear S7
  obtain ⟨gb0, hg⟩ : ∃ g', g' = w5.heap.size := ⟨_, rfl⟩
  rw [← hg] at S8 ⊢
  clear hg
  generalize w5.alloc (.cells #[.string ⟨#[]⟩, .slice none 0 0, .int .i64 0] 26) = w6 at S8 ⊢
  refine hK.out _ _ ⟨Bag.cell_at S8.out 0 rfl 0 rfl, Bag.cell_at S8.out 0 rfl 1 rfl, Bag.cell_at S8.out 0 rfl 2 rfl, Bag.cell_at S8.out 1 rfl 0 rfl, Bag.cell_at S8.out 1 rfl 1 rfl, Bag.cell_at S8.out 1 rfl 2 rfl, Bag.cell_at S8.out 2 rfl 0 rfl⟩ (fun hS => ?_)
  clear hK K
  try simp only [zp0, zp1, zp2, zp3, zp4]
  refine Reg.one_op (i := 3) rfl (by kernel_rfl) (fun K hK => ?_)
  go_simp
  go_at_call 38
  refine (HTO1.out w6 S8.out.old).mono ?_
  rintro e w7 ⟨rfl, hb⟩
  have S9 := Lib.hid (show Sl.Sep W _ [_, _, _, _, L4.boxR gb0 26 #[.string ⟨#[]⟩, .slice none 0 0, .int .i64 0]] from S8.out.keep hb)
  clear S8
  clear hb
  go_wp2_with fail
  refine hK.out _ _ ⟨Bag.cell_at S9.out 0 rfl 0 rfl, Bag.cell_at S9.out 0 rfl 1 rfl, Bag.cell_at S9.out 0 rfl 2 rfl, Bag.cell_at S9.out 1 rfl 0 rfl, Bag.cell_at S9.out 1 rfl 1 rfl, Bag.cell_at S9.out 1 rfl 2 rfl, Bag.cell_at S9.out 2 rfl 0 rfl⟩ (fun hS => ?_)
  clear hK K
  try simp only [zp0, zp1, zp2, zp3, zp4]
  refine Reg.one_op (i := 5) rfl (by kernel_rfl) (fun K hK => ?_)
  go_simp
  go_at_call 39
  refine (HTO2.out _ S9.out.old).mono ?_
  rintro e w8 ⟨ar2, cr2, rfl, ho, hb⟩
  have S10 := Lib.hid (show Sl.Sep W _ [_, _, _, _, _, Sv.ownV 128 2 ar2 cr2 l2.length (cellsF l2)] from Sv.push_own S9.out hb ho)
  clear S9
  clear hb ho
  go_wp2_with fail
  refine hK.out _ _ ⟨Bag.cell_at S10.out 0 rfl 0 rfl, Bag.cell_at S10.out 0 rfl 1 rfl, Bag.cell_at S10.out 0 rfl 2 rfl, Bag.cell_at S10.out 1 rfl 0 rfl, Bag.cell_at S10.out 1 rfl 1 rfl, Bag.cell_at S10.out 1 rfl 2 rfl, Bag.cell_at S10.out 2 rfl 0 rfl⟩ (fun hS => ?_)
  clear hK K
  try simp only [zp0, zp1, zp2, zp3, zp4]
  refine Reg.one_op (i := 6) rfl (by kernel_rfl) (fun K hK => ?_)
  go_simp
  go_at_call 45
  refine (Cspec.out zs0 HZzs0.out ar2 cr2 _ (Bag.bag_rd S10.out 3 rfl) (Sv.own_at S10.out 5 rfl).reads).mono ?_
  rintro e w9 ⟨zr, rfl, hcon, ho, hb⟩
  have S11 := Lib.hid (show Sl.Sep W _ [_, _, _, _, _, _, Bag.bag zr.rows] from Bag.push_bag S10.out hb ho)
  clear S10
  clear hb ho
  have HZzr := Lib.hid hcon
  clear hcon
  go_wp2_with fail
  refine hK.out _ _ ⟨Bag.cell_at S11.out 0 rfl 0 rfl, Bag.cell_at S11.out 0 rfl 1 rfl, Bag.cell_at S11.out 0 rfl 2 rfl, Bag.cell_at S11.out 1 rfl 0 rfl, Bag.cell_at S11.out 1 rfl 1 rfl, Bag.cell_at S11.out 1 rfl 2 rfl, Bag.cell_at S11.out 2 rfl 0 rfl⟩ (fun hS => ?_)
  clear hK K
  try simp only [zp0, zp1, zp2, zp3, zp4]
  refine tk 7 rfl ?_
  try simp only [zp0, zp1, zp2, zp3, zp4]
  refine tk 8 rfl ?_
  try simp only [zp0, zp1, zp2, zp3, zp4]
  refine tk 9 rfl ?_
  try simp only [zp0, zp1, zp2, zp3, zp4]
  have S12 := Lib.hid (show Sl.Sep W _ [_, _, _, _, _] from Bag.take S11.out [0, 1, 2, 6, 4] (by rfl) (by decide))
  clear S11
  rotate_left
  exact AllReadyH.nil
  refine Reg.cons_op (i := 10) rfl (fun K hK => ?_) ?_
  go_simp
  have S7 := Lib.hid (show Sl.Sep W _ [_, _, _, _] from L4.push_box S6.out 26 #[.string ⟨#[]⟩, .slice none 0 0, .int .i64 0] w4.heap.size rfl)
  clear S6
  obtain ⟨gb0, hg⟩ : ∃ g', g' = w4.heap.size := ⟨_, rfl⟩
  rw [← hg] at S7 ⊢
  clear hg
  generalize w4.alloc (.cells #[.string ⟨#[]⟩, .slice none 0 0, .int .i64 0] 26) = w5 at S7 ⊢
  refine hK.out _ _ ⟨Bag.cell_at S7.out 0 rfl 0 rfl, Bag.cell_at S7.out 0 rfl 1 rfl, Bag.cell_at S7.out 0 rfl 2 rfl, Bag.cell_at S7.out 1 rfl 0 rfl, Bag.cell_at S7.out 1 rfl 1 rfl, Bag.cell_at S7.out 1 rfl 2 rfl, Bag.cell_at S7.out 2 rfl 0 rfl⟩ (fun hS => ?_)
  clear hK K
  try simp only [zp0, zp1, zp2, zp3, zp4]
  refine Reg.one_op (i := 1) rfl (by kernel_rfl) (fun K hK => ?_)
  go_simp
  go_at_call 37
  refine (HTO0.out _ S7.out.old).mono ?_
  rintro e w6 ⟨zs0, rfl, hcon, ho, hb⟩
  have S8 := Lib.hid (show Sl.Sep W _ [_, _, _, L4.boxR gb0 26 #[.string ⟨#[]⟩, .slice none 0 0, .int .i64 0], Bag.bag zs0.rows] from Bag.push_bag S7.out hb ho)
  clear S7
  clear hb ho
  have HZzs0 := Lib.hid (hcon.trans HC0.out)
  clear hcon
  go_wp2_with fail
  refine hK.out _ _ ⟨Bag.cell_at S8.out 0 rfl 0 rfl, Bag.cell_at S8.out 0 rfl 1 rfl, Bag.cell_at S8.out 0 rfl 2 rfl, Bag.cell_at S8.out 1 rfl 0 rfl, Bag.cell_at S8.out 1 rfl 1 rfl, Bag.cell_at S8.out 1 rfl 2 rfl, Bag.cell_at S8.out 2 rfl 0 rfl⟩ (fun hS => ?_)
  clear hK K
  try simp only [zp0, zp1, zp2, zp3, zp4]
  refine Reg.one_op (i := 3) rfl (by kernel_rfl) (fun K hK => ?_)
  go_simp
  go_at_call 38
  refine (HTO1.out w6 S8.out.old).mono ?_
  rintro e w7 ⟨rfl, hb⟩
  have S9 := Lib.hid (show Sl.Sep W _ [_, _, _, _, _] from S8.out.keep hb)
  clear S8
  clear hb
  go_wp2_with fail
  refine hK.out _ _ ⟨Bag.cell_at S9.out 0 rfl 0 rfl, Bag.cell_at S9.out 0 rfl 1 rfl, Bag.cell_at S9.out 0 rfl 2 rfl, Bag.cell_at S9.out 1 rfl 0 rfl, Bag.cell_at S9.out 1 rfl 1 rfl, Bag.cell_at S9.out 1 rfl 2 rfl, Bag.cell_at S9.out 2 rfl 0 rfl⟩ (fun hS => ?_)
  clear hK K
  try simp only [zp0, zp1, zp2, zp3, zp4]
  refine Reg.one_op (i := 5) rfl (by kernel_rfl) (fun K hK => ?_)
  go_simp
  go_at_call 39
  refine (HTO2.out _ S9.out.old).mono ?_
  rintro e w8 ⟨ar2, cr2, rfl, ho, hb⟩
  have S10 := Lib.hid (show Sl.Sep W _ [_, _, _, _, _, Sv.ownV 128 2 ar2 cr2 l2.length (cellsF l2)] from Sv.push_own S9.out hb ho)
  clear S9
  clear hb ho
  go_wp2_with fail
  refine hK.out _ _ ⟨Bag.cell_at S10.out 0 rfl 0 rfl, Bag.cell_at S10.out 0 rfl 1 rfl, Bag.cell_at S10.out 0 rfl 2 rfl, Bag.cell_at S10.out 1 rfl 0 rfl, Bag.cell_at S10.out 1 rfl 1 rfl, Bag.cell_at S10.out 1 rfl 2 rfl, Bag.cell_at S10.out 2 rfl 0 rfl⟩ (fun hS => ?_)
  clear hK K
  try simp only [zp0, zp1, zp2, zp3, zp4]
  refine Reg.one_op (i := 6) rfl (by kernel_rfl) (fun K hK => ?_)
  go_simp
  go_at_call 45
  refine (Cspec.out zs0 HZzs0.out ar2 cr2 _ (Bag.bag_rd S10.out 4 rfl) (Sv.own_at S10.out 5 rfl).reads).mono ?_
  rintro e w9 ⟨zr, rfl, hcon, ho, hb⟩
  have S11 := Lib.hid (show Sl.Sep W _ [_, _, _, _, _, _, Bag.bag zr.rows] from Bag.push_bag S10.out hb ho)
  clear S10
  clear hb ho
  have HZzr := Lib.hid hcon
  clear hcon
  go_wp2_with fail
  refine hK.out _ _ ⟨Bag.cell_at S11.out 0 rfl 0 rfl, Bag.cell_at S11.out 0 rfl 1 rfl, Bag.cell_at S11.out 0 rfl 2 rfl, Bag.cell_at S11.out 1 rfl 0 rfl, Bag.cell_at S11.out 1 rfl 1 rfl, Bag.cell_at S11.out 1 rfl 2 rfl, Bag.cell_at S11.out 2 rfl 0 rfl⟩ (fun hS => ?_)
  clear hK K
  try simp only [zp0, zp1, zp2, zp3, zp4]
  refine tk 7 rfl ?_
  try simp only [zp0, zp1, zp2, zp3, zp4]
  refine tk 8 rfl ?_
  try simp only [zp0, zp1, zp2, zp3, zp4]
  refine tk 9 rfl ?_
  try simp only [zp0, zp1, zp2, zp3, zp4]
  have S12 := Lib.hid (show Sl.Sep W _ [_, _, _, _, _] from Bag.take S11.out [0, 1, 2, 6, 3] (by rfl) (by decide))
  clear S11
  rotate_left
  exact AllReadyH.nil
  all_goals
   refine Reg.one_op (i := 11) rfl (by kernel_rfl) (fun K hK => ?_)
   have f0 : World.cell? _ ⟨gb0, 0, none⟩ = some (.string ⟨#[]⟩) := Bag.cell_at S12.out 4 rfl 0 rfl
   have f1 : World.cell? _ ⟨gb0, 1, none⟩ = some (.slice none 0 0) := Bag.cell_at S12.out 4 rfl 1 rfl
   have f2 : World.cell? _ ⟨gb0, 2, none⟩ = some (.int .i64 0) := Bag.cell_at S12.out 4 rfl 2 rfl
   have z0 := Bag.free_at S12.out 4 rfl 0
   have z1 := Bag.free_at S12.out 4 rfl 1
   have z2 := Bag.free_at S12.out 4 rfl 2
   go_simp
   clear f0 f1 f2 z0 z1 z2
   have S13 := Lib.hid (show Sl.Sep W _ [_, _, _, _, L4.boxR gb0 26 #[.string zr.name, .slice zr.a zr.xs.length zr.c, .int .i64 zr.auto]] from L5.put_box5 (L5.put_box5 (L5.put_box5 (S12.out) 4 rfl 0 (.string zr.name)) 4 rfl 1 (.slice zr.a zr.xs.length zr.c)) 4 rfl 2 (.int .i64 zr.auto))
   clear S12
   refine hK.out _ _ ⟨Bag.cell_at S13.out 0 rfl 0 rfl, Bag.cell_at S13.out 0 rfl 1 rfl, Bag.cell_at S13.out 0 rfl 2 rfl, Bag.cell_at S13.out 1 rfl 0 rfl, Bag.cell_at S13.out 1 rfl 1 rfl, Bag.cell_at S13.out 1 rfl 2 rfl, Bag.cell_at S13.out 2 rfl 0 rfl⟩ (fun hS => ?_)
   clear hK K
   try simp only [zp0, zp1, zp2, zp3, zp4]
   refine tk 12 rfl ?_
   try simp only [zp0, zp1, zp2, zp3, zp4]
   refine wpAnyH_done (by kernel_rfl) ?_ _
   go_wp2_with fail
   go_meet
   case rel =>
    exact ⟨gb0, zr, rfl, rfl, And.intro HZzr.out S13.out⟩
 case rest =>
  obtain ⟨g1a', z1', rfl, rfl, hq⟩ := hcut
  have HZz1' := Lib.hid hq.out.1
  have S6 := Lib.hid hq.out.2
  clear hq S5 HTO0 HTO1 HTO2
  have f0 : World.cell? _ ⟨W.heap.size, 0, none⟩ = some (.string y0.name) := Bag.cell_at S6.out 0 rfl 0 rfl
  have f1 : World.cell? _ ⟨W.heap.size, 1, none⟩ = some (.slice y0.a y0.xs.length y0.c) := Bag.cell_at S6.out 0 rfl 1 rfl
  have f2 : World.cell? _ ⟨W.heap.size, 2, none⟩ = some (.int .i64 y0.auto) := Bag.cell_at S6.out 0 rfl 2 rfl
  go_wp2_with fail
  go_at_call 37
  have HC := L6.toStore_any y0 (by rw [HC0.out]; exact HF0.out) _ (HRY0.out _ S6.out.old)
  try dsimp only [L6.LS.v, L6.LS.cells, L4.K.v, L4.R.v] at HC
  refine HC.mono ?_
  clear HC
  rintro e w4 ⟨z2', rfl, hcon, ho, hb⟩
  clear f0 f1 f2
  have S7 := Lib.hid (show Sl.Sep W _ [_, _, _, Bag.bag z1'.rows, L4.boxR g1a' 26 #[.string z1'.name, .slice z1'.a z1'.xs.length z1'.c, .int .i64 z1'.auto], Bag.bag z2'.rows] from Bag.push_bag S6.out hb ho)
  clear S6
  clear hb ho
  have HZz2' := Lib.hid (hcon.trans HC0.out)
  clear hcon
  try dsimp only [L6.LS.v, L6.LS.cells]
  go_upto_region 13 with fail
  have S8 := Lib.hid (show Sl.Sep W _ [_, _, _, _, _, _, _] from L4.push_box S7.out 26 #[.string z2'.name, .slice z2'.a z2'.xs.length z2'.c, .int .i64 z2'.auto] w4.heap.size rfl)
  clear S7
  obtain ⟨g1, hg⟩ : ∃ g', g' = w4.heap.size := ⟨_, rfl⟩
  rw [← hg] at S8 ⊢
  clear hg
  generalize w4.alloc (.cells #[.string z2'.name, .slice z2'.a z2'.xs.length z2'.c, .int .i64 z2'.auto] 26) = w5 at S8 ⊢
  have f0 : World.cell? _ ⟨W.heap.size + 1 + 1, 0, none⟩ = some (.slice a2 l2.length c2) := Bag.cell_at S8.out 2 rfl 0 rfl
  go_wp2_with fail
  go_at_call 39
  have HC := L5.toRecord_any a2 c2 l2 (by have := HL2.out.1; omega) _ (HRR2.out _ S8.out.old)
  try dsimp only [L6.LS.v, L6.LS.cells, L4.K.v, L4.R.v] at HC
  refine HC.mono ?_
  clear HC
  rintro e w6 ⟨ax3, cx3, rfl, ho, hb⟩
  clear f0
  have S9 := Lib.hid (show Sl.Sep W _ [_, _, _, _, _, _, L4.boxR g1 26 #[.string z2'.name, .slice z2'.a z2'.xs.length z2'.c, .int .i64 z2'.auto], Sv.ownV 128 2 ax3 cx3 l2.length (cellsF l2)] from Sv.push_own S8.out hb ho)
  clear S8
  clear hb ho
  go_upto_region 14 with fail
  have S10 := Lib.hid (show Sl.Sep W _ [_, _, _, _, _, _, _, _, _] from L4.push_box S9.out 31 #[.slice ax3 l2.length cx3] w6.heap.size rfl)
  clear S9
  obtain ⟨g2, hg⟩ : ∃ g', g' = w6.heap.size := ⟨_, rfl⟩
  rw [← hg] at S10 ⊢
  clear hg
  generalize w6.alloc (.cells #[.slice ax3 l2.length cx3] 31) = w7 at S10 ⊢
  have S11 := Lib.hid (show Sl.Sep W _ [_, _, _, _, L4.boxR g2 31 #[.slice ax3 l2.length cx3], _, _, _, _] from Bag.take S10.out [1, 5, 6, 7, 8, 0, 2, 3, 4] (by rfl) (by decide))
  clear S10
  have S12 := Lib.hid (show Sl.Sep W _ [L4.boxR (W.heap.size + 1) 58 #[.int .i64 k1.kind, .int .i64 k1.n, .string k1.text], Bag.bag z2'.rows, L4.boxR g1 26 #[.string z2'.name, .slice z2'.a z2'.xs.length z2'.c, .int .i64 z2'.auto], Sv.ownV 128 2 ax3 cx3 l2.length (cellsF l2), L4.boxR g2 31 #[.slice ax3 l2.length cx3], Run.allR [L4.boxR W.heap.size 57 #[.string y0.name, .slice y0.a y0.xs.length y0.c, .int .i64 y0.auto], L4.boxR (W.heap.size + 1 + 1) 61 #[.slice a2 l2.length c2], Bag.bag z1'.rows, L4.boxR g1a' 26 #[.string z1'.name, .slice z1'.a z1'.xs.length z1'.c, .int .i64 z1'.auto]]] from Run.packR (us := [L4.boxR (W.heap.size + 1) 58 #[.int .i64 k1.kind, .int .i64 k1.n, .string k1.text], Bag.bag z2'.rows, L4.boxR g1 26 #[.string z2'.name, .slice z2'.a z2'.xs.length z2'.c, .int .i64 z2'.auto], Sv.ownV 128 2 ax3 cx3 l2.length (cellsF l2), L4.boxR g2 31 #[.slice ax3 l2.length cx3]]) (vs := [L4.boxR W.heap.size 57 #[.string y0.name, .slice y0.a y0.xs.length y0.c, .int .i64 y0.auto], L4.boxR (W.heap.size + 1 + 1) 61 #[.slice a2 l2.length c2], Bag.bag z1'.rows, L4.boxR g1a' 26 #[.string z1'.name, .slice z1'.a z1'.xs.length z1'.c, .int .i64 z1'.auto]]) S11.out)
  clear S11
  obtain ⟨QQ, hQQ⟩ : ∃ Q, Q = Run.allR [L4.boxR W.heap.size 57 #[.string y0.name, .slice y0.a y0.xs.length y0.c, .int .i64 y0.auto], L4.boxR (W.heap.size + 1 + 1) 61 #[.slice a2 l2.length c2], Bag.bag z1'.rows, L4.boxR g1a' 26 #[.string z1'.name, .slice z1'.a z1'.xs.length z1'.c, .int .i64 z1'.auto]] := ⟨_, rfl⟩
  rw [← hQQ] at S12
  have HQQ := Lib.hid hQQ
  clear hQQ
  go_upto_region 14 with fail
  have HTO0 := Lib.hid (fun w' (h : Below W.heap.size W w') => L4.toKey_any k1 w')
  try dsimp only [L6.LS.v, L6.LS.cells, L4.K.v, L4.R.v] at HTO0
  go_cut [12, 13] (fun pz0 qs0 wx => ∃ (g4a' : Nat) (z4' : L6.LS), pz0 = .pointer (some ⟨g4a', 0, none⟩) ∧ qs0 = .bool r1' ∧ Hid (z4'.con = r0' ∧ Sl.Sep W wx [L4.boxR (W.heap.size + 1) 58 #[.int .i64 k1.kind, .int .i64 k1.n, .string k1.text], Bag.bag z2'.rows, L4.boxR g1 26 #[.string z2'.name, .slice z2'.a z2'.xs.length z2'.c, .int .i64 z2'.auto], Sv.ownV 128 2 ax3 cx3 l2.length (cellsF l2), L4.boxR g2 31 #[.slice ax3 l2.length cx3], QQ, Bag.bag z4'.rows, L4.boxR g4a' 26 #[.string z4'.name, .slice z4'.a z4'.xs.length z4'.c, .int .i64 z4'.auto]]))
  case first =>
   refine wp_region_held_drew (S := (fun w' => w'.cell? ⟨W.heap.size + 1, 0, none⟩ = some (.int .i64 k1.kind) ∧ w'.cell? ⟨W.heap.size + 1, 1, none⟩ = some (.int .i64 k1.n) ∧ w'.cell? ⟨W.heap.size + 1, 2, none⟩ = some (.string k1.text) ∧ w'.cell? ⟨g1, 0, none⟩ = some (.string z2'.name) ∧ w'.cell? ⟨g1, 1, none⟩ = some (.slice z2'.a z2'.xs.length z2'.c) ∧ w'.cell? ⟨g1, 2, none⟩ = some (.int .i64 z2'.auto) ∧ w'.cell? ⟨g2, 0, none⟩ = some (.slice ax3 l2.length cx3))) (by kernel_rfl) ⟨Bag.cell_at S12.out 0 rfl 0 rfl, Bag.cell_at S12.out 0 rfl 1 rfl, Bag.cell_at S12.out 0 rfl 2 rfl, Bag.cell_at S12.out 2 rfl 0 rfl, Bag.cell_at S12.out 2 rfl 1 rfl, Bag.cell_at S12.out 2 rfl 2 rfl, Bag.cell_at S12.out 4 rfl 0 rfl⟩ (fun hS => ?_)
   have S13 := Lib.hid (Bag.drew1 S12.out)
   clear S12
   generalize World.drew _ = w8 at hS S13 ⊢
   refine tk 0 rfl ?_
   try simp only [zp0, zp1, zp2, zp3, zp4]
   refine tk 1 rfl ?_
   try simp only [zp0, zp1, zp2, zp3, zp4]
   refine tk 3 rfl ?_
   try simp only [zp0, zp1, zp2, zp3, zp4]
   refine wpAnyH_ready (rs := [2, 8]) (by kernel_rfl) (by simp) ?_
   refine Reg.cons_op (i := 2) rfl (fun K hK => ?_) ?_
   go_simp
   go_at_call 38
   refine (HTO0.out w8 S13.out.old).mono ?_
   rintro e w9 ⟨rfl, hb⟩
   have S14 := Lib.hid (show Sl.Sep W _ [_, _, _, _, _, QQ] from S13.out.keep hb)
   clear S13
   clear hb
   go_wp2_with fail
   refine hK.out _ _ ⟨Bag.cell_at S14.out 0 rfl 0 rfl, Bag.cell_at S14.out 0 rfl 1 rfl, Bag.cell_at S14.out 0 rfl 2 rfl, Bag.cell_at S14.out 2 rfl 0 rfl, Bag.cell_at S14.out 2 rfl 1 rfl, Bag.cell_at S14.out 2 rfl 2 rfl, Bag.cell_at S14.out 4 rfl 0 rfl⟩ (fun hS => ?_)
   clear hK K
   try simp only [zp0, zp1, zp2, zp3, zp4]
   refine wpAnyH_ready (rs := [4, 8]) (by kernel_rfl) (by simp) ?_
   refine Reg.cons_op (i := 4) rfl (fun K hK => ?_) ?_
   go_simp
   go_at_call 18
   refine (Cimpl.out z2' HZz2'.out ax3 cx3 _ (Bag.bag_rd S14.out 1 rfl) (Sv.own_at S14.out 3 rfl).reads).mono ?_
   rintro e w10 ⟨zr, rfl, hcon, ho, hb⟩
   have S15 := Lib.hid (show Sl.Sep W _ [_, _, _, _, _, QQ, Bag.bag zr.rows] from Bag.push_bag S14.out hb ho)
   clear S14
   clear hb ho
   have HZzr := Lib.hid hcon
   clear hcon
   go_wp2_with fail
   refine hK.out _ _ ⟨Bag.cell_at S15.out 0 rfl 0 rfl, Bag.cell_at S15.out 0 rfl 1 rfl, Bag.cell_at S15.out 0 rfl 2 rfl, Bag.cell_at S15.out 2 rfl 0 rfl, Bag.cell_at S15.out 2 rfl 1 rfl, Bag.cell_at S15.out 2 rfl 2 rfl, Bag.cell_at S15.out 4 rfl 0 rfl⟩ (fun hS => ?_)
   clear hK K
   try simp only [zp0, zp1, zp2, zp3, zp4]
   refine tk 5 rfl ?_
   try simp only [zp0, zp1, zp2, zp3, zp4]
   refine tk 6 rfl ?_
   try simp only [zp0, zp1, zp2, zp3, zp4]
   refine tk 7 rfl ?_
   try simp only [zp0, zp1, zp2, zp3, zp4]
   refine Reg.one_op (i := 8) rfl (by kernel_rfl) (fun K hK => ?_)
   go_simp
   have S16 := Lib.hid (show Sl.Sep W _ [_, _, _, _, _, _, _, _] from L4.push_box S15.out 26 #[.string ⟨#[]⟩, .slice none 0 0, .int .i64 0] w10.heap.size rfl)
   clear S15
   obtain ⟨gb0, hg⟩ : ∃ g', g' = w10.heap.size := ⟨_, rfl⟩
   rw [← hg] at S16 ⊢
   clear hg
   generalize w10.alloc (.cells #[.string ⟨#[]⟩, .slice none 0 0, .int .i64 0] 26) = w11 at S16 ⊢
   refine hK.out _ _ ⟨Bag.cell_at S16.out 0 rfl 0 rfl, Bag.cell_at S16.out 0 rfl 1 rfl, Bag.cell_at S16.out 0 rfl 2 rfl, Bag.cell_at S16.out 2 rfl 0 rfl, Bag.cell_at S16.out 2 rfl 1 rfl, Bag.cell_at S16.out 2 rfl 2 rfl, Bag.cell_at S16.out 4 rfl 0 rfl⟩ (fun hS => ?_)
   clear hK K
   try simp only [zp0, zp1, zp2, zp3, zp4]
   have S17 := Lib.hid (show Sl.Sep W _ [_, _, _, _, _, QQ, _, L4.boxR gb0 26 #[.string ⟨#[]⟩, .slice none 0 0, .int .i64 0]] from Bag.take S16.out [0, 1, 2, 3, 4, 5, 6, 7] (by rfl) (by decide))
   clear S16
   rotate_left
   refine Reg.cons_op (i := 8) rfl (fun K hK => ?_) ?_
   go_simp
   have S15 := Lib.hid (show Sl.Sep W _ [_, _, _, _, _, _, _] from L4.push_box S14.out 26 #[.string ⟨#[]⟩, .slice none 0 0, .int .i64 0] w9.heap.size rfl)
   clear S14
   obtain ⟨gb0, hg⟩ : ∃ g', g' = w9.heap.size := ⟨_, rfl⟩
   rw [← hg] at S15 ⊢
   clear hg
   generalize w9.alloc (.cells #[.string ⟨#[]⟩, .slice none 0 0, .int .i64 0] 26) = w10 at S15 ⊢
   refine hK.out _ _ ⟨Bag.cell_at S15.out 0 rfl 0 rfl, Bag.cell_at S15.out 0 rfl 1 rfl, Bag.cell_at S15.out 0 rfl 2 rfl, Bag.cell_at S15.out 2 rfl 0 rfl, Bag.cell_at S15.out 2 rfl 1 rfl, Bag.cell_at S15.out 2 rfl 2 rfl, Bag.cell_at S15.out 4 rfl 0 rfl⟩ (fun hS => ?_)
   clear hK K
   try simp only [zp0, zp1, zp2, zp3, zp4]
   refine Reg.one_op (i := 4) rfl (by kernel_rfl) (fun K hK => ?_)
   go_simp
   go_at_call 18
   refine (Cimpl.out z2' HZz2'.out ax3 cx3 _ (Bag.bag_rd S15.out 1 rfl) (Sv.own_at S15.out 3 rfl).reads).mono ?_
   rintro e w11 ⟨zr, rfl, hcon, ho, hb⟩
   have S16 := Lib.hid (show Sl.Sep W _ [_, _, _, _, _, QQ, L4.boxR gb0 26 #[.string ⟨#[]⟩, .slice none 0 0, .int .i64 0], Bag.bag zr.rows] from Bag.push_bag S15.out hb ho)
   clear S15
   clear hb ho
   have HZzr := Lib.hid hcon
   clear hcon
   go_wp2_with fail
   refine hK.out _ _ ⟨Bag.cell_at S16.out 0 rfl 0 rfl, Bag.cell_at S16.out 0 rfl 1 rfl, Bag.cell_at S16.out 0 rfl 2 rfl, Bag.cell_at S16.out 2 rfl 0 rfl, Bag.cell_at S16.out 2 rfl 1 rfl, Bag.cell_at S16.out 2 rfl 2 rfl, Bag.cell_at S16.out 4 rfl 0 rfl⟩ (fun hS => ?_)
   clear hK K
   try simp only [zp0, zp1, zp2, zp3, zp4]
   refine tk 5 rfl ?_
   try simp only [zp0, zp1, zp2, zp3, zp4]
   refine tk 6 rfl ?_
   try simp only [zp0, zp1, zp2, zp3, zp4]
   refine tk 7 rfl ?_
   try simp only [zp0, zp1, zp2, zp3, zp4]
   have S17 := Lib.hid (show Sl.Sep W _ [_, _, _, _, _, QQ, _, _] from Bag.take S16.out [0, 1, 2, 3, 4, 5, 7, 6] (by rfl) (by decide))
   clear S16
   rotate_left
   exact AllReadyH.nil
   refine Reg.cons_op (i := 8) rfl (fun K hK => ?_) ?_
   go_simp
   have S14 := Lib.hid (show Sl.Sep W _ [_, _, _, _, _, _, _] from L4.push_box S13.out 26 #[.string ⟨#[]⟩, .slice none 0 0, .int .i64 0] w8.heap.size rfl)
   clear S13
   obtain ⟨gb0, hg⟩ : ∃ g', g' = w8.heap.size := ⟨_, rfl⟩
   rw [← hg] at S14 ⊢
   clear hg
   generalize w8.alloc (.cells #[.string ⟨#[]⟩, .slice none 0 0, .int .i64 0] 26) = w9 at S14 ⊢
   refine hK.out _ _ ⟨Bag.cell_at S14.out 0 rfl 0 rfl, Bag.cell_at S14.out 0 rfl 1 rfl, Bag.cell_at S14.out 0 rfl 2 rfl, Bag.cell_at S14.out 2 rfl 0 rfl, Bag.cell_at S14.out 2 rfl 1 rfl, Bag.cell_at S14.out 2 rfl 2 rfl, Bag.cell_at S14.out 4 rfl 0 rfl⟩ (fun hS => ?_)
   clear hK K
   try simp only [zp0, zp1, zp2, zp3, zp4]
   refine Reg.one_op (i := 2) rfl (by kernel_rfl) (fun K hK => ?_)
   go_simp
   go_at_call 38
   refine (HTO0.out w9 S14.out.old).mono ?_
   rintro e w10 ⟨rfl, hb⟩
   have S15 := Lib.hid (show Sl.Sep W _ [_, _, _, _, _, QQ, L4.boxR gb0 26 #[.string ⟨#[]⟩, .slice none 0 0, .int .i64 0]] from S14.out.keep hb)
   clear S14
   clear hb
   go_wp2_with fail
   refine hK.out _ _ ⟨Bag.cell_at S15.out 0 rfl 0 rfl, Bag.cell_at S15.out 0 rfl 1 rfl, Bag.cell_at S15.out 0 rfl 2 rfl, Bag.cell_at S15.out 2 rfl 0 rfl, Bag.cell_at S15.out 2 rfl 1 rfl, Bag.cell_at S15.out 2 rfl 2 rfl, Bag.cell_at S15.out 4 rfl 0 rfl⟩ (fun hS => ?_)
   clear hK K
   try simp only [zp0, zp1, zp2, zp3, zp4]
   refine Reg.one_op (i := 4) rfl (by kernel_rfl) (fun K hK => ?_)
   go_simp
   go_at_call 18
   refine (Cimpl.out z2' HZz2'.out ax3 cx3 _ (Bag.bag_rd S15.out 1 rfl) (Sv.own_at S15.out 3 rfl).reads).mono ?_
   rintro e w11 ⟨zr, rfl, hcon, ho, hb⟩
   have S16 := Lib.hid (show Sl.Sep W _ [_, _, _, _, _, QQ, _, Bag.bag zr.rows] from Bag.push_bag S15.out hb ho)
   clear S15
   clear hb ho
   have HZzr := Lib.hid hcon
   clear hcon
   go_wp2_with fail
   refine hK.out _ _ ⟨Bag.cell_at S16.out 0 rfl 0 rfl, Bag.cell_at S16.out 0 rfl 1 rfl, Bag.cell_at S16.out 0 rfl 2 rfl, Bag.cell_at S16.out 2 rfl 0 rfl, Bag.cell_at S16.out 2 rfl 1 rfl, Bag.cell_at S16.out 2 rfl 2 rfl, Bag.cell_at S16.out 4 rfl 0 rfl⟩ (fun hS => ?_)
   clear hK K
   try simp only [zp0, zp1, zp2, zp3, zp4]
   refine tk 5 rfl ?_
   try simp only [zp0, zp1, zp2, zp3, zp4]
   refine tk 6 rfl ?_
   try simp only [zp0, zp1, zp2, zp3, zp4]
   refine tk 7 rfl ?_
   try simp only [zp0, zp1, zp2, zp3, zp4]
   have S17 := Lib.hid (show Sl.Sep W _ [_, _, _, _, _, QQ, _, _] from Bag.take S16.out [0, 1, 2, 3, 4, 5, 7, 6] (by rfl) (by decide))
   clear S16
   rotate_left
   exact AllReadyH.nil
   all_goals
    refine Reg.one_op (i := 9) rfl (by kernel_rfl) (fun K hK => ?_)
    have f0 : World.cell? _ ⟨gb0, 0, none⟩ = some (.string ⟨#[]⟩) := Bag.cell_at S17.out 7 rfl 0 rfl
    have f1 : World.cell? _ ⟨gb0, 1, none⟩ = some (.slice none 0 0) := Bag.cell_at S17.out 7 rfl 1 rfl
    have f2 : World.cell? _ ⟨gb0, 2, none⟩ = some (.int .i64 0) := Bag.cell_at S17.out 7 rfl 2 rfl
    have z0 := Bag.free_at S17.out 7 rfl 0
    have z1 := Bag.free_at S17.out 7 rfl 1
    have z2 := Bag.free_at S17.out 7 rfl 2
    go_simp
    clear f0 f1 f2 z0 z1 z2
    have S18 := Lib.hid (show Sl.Sep W _ [_, _, _, _, _, QQ, _, L4.boxR gb0 26 #[.string zr.name, .slice zr.a zr.xs.length zr.c, .int .i64 zr.auto]] from L5.put_box5 (L5.put_box5 (L5.put_box5 (S17.out) 7 rfl 0 (.string zr.name)) 7 rfl 1 (.slice zr.a zr.xs.length zr.c)) 7 rfl 2 (.int .i64 zr.auto))
    clear S17
    refine hK.out _ _ ⟨Bag.cell_at S18.out 0 rfl 0 rfl, Bag.cell_at S18.out 0 rfl 1 rfl, Bag.cell_at S18.out 0 rfl 2 rfl, Bag.cell_at S18.out 2 rfl 0 rfl, Bag.cell_at S18.out 2 rfl 1 rfl, Bag.cell_at S18.out 2 rfl 2 rfl, Bag.cell_at S18.out 4 rfl 0 rfl⟩ (fun hS => ?_)
    clear hK K
    try simp only [zp0, zp1, zp2, zp3, zp4]
    refine tk 10 rfl ?_
    try simp only [zp0, zp1, zp2, zp3, zp4]
    refine wpAnyH_done (by kernel_rfl) ?_ _
    go_wp2_with fail
    go_meet
    case rel =>
     exact ⟨gb0, zr, rfl, rfl, And.intro HZzr.out S18.out⟩
  case rest =>
   obtain ⟨g4a', z4', rfl, rfl, hq⟩ := hcut
   have HZz4' := Lib.hid hq.out.1
   have S13 := Lib.hid hq.out.2
   clear hq S12 HTO0
   have S14 := Lib.hid (show Sl.Sep W _ [L4.boxR (W.heap.size + 1) 58 #[.int .i64 k1.kind, .int .i64 k1.n, .string k1.text], Bag.bag z2'.rows, L4.boxR g1 26 #[.string z2'.name, .slice z2'.a z2'.xs.length z2'.c, .int .i64 z2'.auto], Sv.ownV 128 2 ax3 cx3 l2.length (cellsF l2), L4.boxR g2 31 #[.slice ax3 l2.length cx3], Bag.bag z4'.rows, L4.boxR g4a' 26 #[.string z4'.name, .slice z4'.a z4'.xs.length z4'.c, .int .i64 z4'.auto], QQ] from Bag.take S13.out [0, 1, 2, 3, 4, 6, 7, 5] (by rfl) (by decide))
   clear S13
   have S15 := Lib.hid (show Sl.Sep W _ [L4.boxR (W.heap.size + 1) 58 #[.int .i64 k1.kind, .int .i64 k1.n, .string k1.text], Bag.bag z2'.rows, L4.boxR g1 26 #[.string z2'.name, .slice z2'.a z2'.xs.length z2'.c, .int .i64 z2'.auto], Sv.ownV 128 2 ax3 cx3 l2.length (cellsF l2), L4.boxR g2 31 #[.slice ax3 l2.length cx3], Bag.bag z4'.rows, L4.boxR g4a' 26 #[.string z4'.name, .slice z4'.a z4'.xs.length z4'.c, .int .i64 z4'.auto], L4.boxR W.heap.size 57 #[.string y0.name, .slice y0.a y0.xs.length y0.c, .int .i64 y0.auto], L4.boxR (W.heap.size + 1 + 1) 61 #[.slice a2 l2.length c2], Bag.bag z1'.rows, L4.boxR g1a' 26 #[.string z1'.name, .slice z1'.a z1'.xs.length z1'.c, .int .i64 z1'.auto]] from (by have h := S14.out; rw [HQQ.out] at h; exact Run.unpackR (us := [L4.boxR (W.heap.size + 1) 58 #[.int .i64 k1.kind, .int .i64 k1.n, .string k1.text], Bag.bag z2'.rows, L4.boxR g1 26 #[.string z2'.name, .slice z2'.a z2'.xs.length z2'.c, .int .i64 z2'.auto], Sv.ownV 128 2 ax3 cx3 l2.length (cellsF l2), L4.boxR g2 31 #[.slice ax3 l2.length cx3], Bag.bag z4'.rows, L4.boxR g4a' 26 #[.string z4'.name, .slice z4'.a z4'.xs.length z4'.c, .int .i64 z4'.auto]]) (vs := [L4.boxR W.heap.size 57 #[.string y0.name, .slice y0.a y0.xs.length y0.c, .int .i64 y0.auto], L4.boxR (W.heap.size + 1 + 1) 61 #[.slice a2 l2.length c2], Bag.bag z1'.rows, L4.boxR g1a' 26 #[.string z1'.name, .slice z1'.a z1'.xs.length z1'.c, .int .i64 z1'.auto]]) h))
   clear S14
   clear HQQ QQ
   have f0 : World.cell? _ ⟨g4a', 0, none⟩ = some (.string z4'.name) := Bag.cell_at S15.out 6 rfl 0 rfl
   have f1 : World.cell? _ ⟨g4a', 1, none⟩ = some (.slice z4'.a z4'.xs.length z4'.c) := Bag.cell_at S15.out 6 rfl 1 rfl
   have f2 : World.cell? _ ⟨g4a', 2, none⟩ = some (.int .i64 z4'.auto) := Bag.cell_at S15.out 6 rfl 2 rfl
   have f3 : World.cell? _ ⟨g1a', 0, none⟩ = some (.string z1'.name) := Bag.cell_at S15.out 10 rfl 0 rfl
   have f4 : World.cell? _ ⟨g1a', 1, none⟩ = some (.slice z1'.a z1'.xs.length z1'.c) := Bag.cell_at S15.out 10 rfl 1 rfl
   have f5 : World.cell? _ ⟨g1a', 2, none⟩ = some (.int .i64 z1'.auto) := Bag.cell_at S15.out 10 rfl 2 rfl
   go_wp2_with fail
   go_at_call 40
   have HC := L6.eqStore_any z4' z1' (HZz4'.out.trans HZz1'.out.symm) (by rw [HZz4'.out]; exact HFR.out) _ (Bag.bag_rd S15.out 5 rfl) (Bag.bag_rd S15.out 9 rfl)
   try dsimp only [L6.LS.v, L6.LS.cells, L4.K.v, L4.R.v] at HC
   refine HC.mono ?_
   clear HC
   rintro e w8 ⟨rfl, hb⟩
   clear f0 f1 f2 f3 f4 f5
   have S16 := Lib.hid (show Sl.Sep W _ [_, _, _, _, _, _, _, _, _, _, _] from S15.out.keep hb)
   clear S15
   clear hb
   go_upto_region 17 with fail
   refine wp_region_held_drew (S := (fun w' => w'.cell? ⟨g1, 0, none⟩ = some (.string z2'.name) ∧ w'.cell? ⟨g1, 1, none⟩ = some (.slice z2'.a z2'.xs.length z2'.c) ∧ w'.cell? ⟨g1, 2, none⟩ = some (.int .i64 z2'.auto) ∧ w'.cell? ⟨W.heap.size, 0, none⟩ = some (.string y0.name) ∧ w'.cell? ⟨W.heap.size, 1, none⟩ = some (.slice y0.a y0.xs.length y0.c) ∧ w'.cell? ⟨W.heap.size, 2, none⟩ = some (.int .i64 y0.auto))) (by kernel_rfl) ⟨Bag.cell_at S16.out 2 rfl 0 rfl, Bag.cell_at S16.out 2 rfl 1 rfl, Bag.cell_at S16.out 2 rfl 2 rfl, Bag.cell_at S16.out 7 rfl 0 rfl, Bag.cell_at S16.out 7 rfl 1 rfl, Bag.cell_at S16.out 7 rfl 2 rfl⟩ (fun hS => ?_)
   have S17 := Lib.hid (Bag.drew1 S16.out)
   clear S16
   generalize World.drew _ = w9 at hS S17 ⊢
   refine tk 0 rfl ?_
   try simp only [zp0, zp1, zp2, zp3, zp4]
   refine tk 1 rfl ?_
   try simp only [zp0, zp1, zp2, zp3, zp4]
   refine Reg.one_op (i := 2) rfl (by kernel_rfl) (fun K hK => ?_)
   go_simp
   go_at_call 37
   have HC := L6.toStore_any y0 (by rw [HC0.out]; exact HF0.out) _ (HRY0.out _ S17.out.old)
   try dsimp only [L6.LS.v, L6.LS.cells, L4.K.v, L4.R.v] at HC
   refine HC.mono ?_
   clear HC
   rintro e w10 ⟨z5', rfl, hcon, ho, hb⟩
   have S18 := Lib.hid (show Sl.Sep W _ [_, _, _, _, _, _, _, _, _, _, _, Bag.bag z5'.rows] from Bag.push_bag S17.out hb ho)
   clear S17
   clear hb ho
   have HZz5' := Lib.hid (hcon.trans HC0.out)
   clear hcon
   try dsimp only [L6.LS.v, L6.LS.cells]
   go_wp2_with fail
   refine hK.out _ _ ⟨Bag.cell_at S18.out 2 rfl 0 rfl, Bag.cell_at S18.out 2 rfl 1 rfl, Bag.cell_at S18.out 2 rfl 2 rfl, Bag.cell_at S18.out 7 rfl 0 rfl, Bag.cell_at S18.out 7 rfl 1 rfl, Bag.cell_at S18.out 7 rfl 2 rfl⟩ (fun hS => ?_)
   clear hK K
   try simp only [zp0, zp1, zp2, zp3, zp4]
   refine Reg.one_op (i := 3) rfl (by kernel_rfl) (fun K hK => ?_)
   go_simp
   go_at_call 40
   have HC := L6.eqStore_any z2' z5' (HZz2'.out.trans HZz5'.out.symm) (by rw [HZz2'.out]; exact HF0.out) _ (Bag.bag_rd S18.out 1 rfl) (Bag.bag_rd S18.out 11 rfl)
   try dsimp only [L6.LS.v, L6.LS.cells, L4.K.v, L4.R.v] at HC
   refine HC.mono ?_
   clear HC
   rintro e w11 ⟨rfl, hb⟩
   have S19 := Lib.hid (show Sl.Sep W _ [_, _, _, _, _, _, _, _, _, _, _, _] from S18.out.keep hb)
   clear S18
   clear hb
   go_wp2_with fail
   refine hK.out _ _ ⟨Bag.cell_at S19.out 2 rfl 0 rfl, Bag.cell_at S19.out 2 rfl 1 rfl, Bag.cell_at S19.out 2 rfl 2 rfl, Bag.cell_at S19.out 7 rfl 0 rfl, Bag.cell_at S19.out 7 rfl 1 rfl, Bag.cell_at S19.out 7 rfl 2 rfl⟩ (fun hS => ?_)
   clear hK K
   try simp only [zp0, zp1, zp2, zp3, zp4]
   refine tk 4 rfl ?_
   try simp only [zp0, zp1, zp2, zp3, zp4]
   refine wpAnyH_done (by kernel_rfl) ?_ _
   have f0 : World.cell? _ ⟨W.heap.size + 1, 0, none⟩ = some (.int .i64 k1.kind) := Bag.cell_at S19.out 0 rfl 0 rfl
   have f1 : World.cell? _ ⟨W.heap.size + 1, 1, none⟩ = some (.int .i64 k1.n) := Bag.cell_at S19.out 0 rfl 1 rfl
   have f2 : World.cell? _ ⟨W.heap.size + 1, 2, none⟩ = some (.string k1.text) := Bag.cell_at S19.out 0 rfl 2 rfl
   have f3 : World.cell? _ ⟨g1, 0, none⟩ = some (.string z2'.name) := Bag.cell_at S19.out 2 rfl 0 rfl
   have f4 : World.cell? _ ⟨g1, 1, none⟩ = some (.slice z2'.a z2'.xs.length z2'.c) := Bag.cell_at S19.out 2 rfl 1 rfl
   have f5 : World.cell? _ ⟨g1, 2, none⟩ = some (.int .i64 z2'.auto) := Bag.cell_at S19.out 2 rfl 2 rfl
   have f6 : World.cell? _ ⟨g2, 0, none⟩ = some (.slice ax3 l2.length cx3) := Bag.cell_at S19.out 4 rfl 0 rfl
   have f7 : World.cell? _ ⟨g4a', 0, none⟩ = some (.string z4'.name) := Bag.cell_at S19.out 6 rfl 0 rfl
   have f8 : World.cell? _ ⟨g4a', 1, none⟩ = some (.slice z4'.a z4'.xs.length z4'.c) := Bag.cell_at S19.out 6 rfl 1 rfl
   have f9 : World.cell? _ ⟨g4a', 2, none⟩ = some (.int .i64 z4'.auto) := Bag.cell_at S19.out 6 rfl 2 rfl
   have f10 : World.cell? _ ⟨W.heap.size, 0, none⟩ = some (.string y0.name) := Bag.cell_at S19.out 7 rfl 0 rfl
   have f11 : World.cell? _ ⟨W.heap.size, 1, none⟩ = some (.slice y0.a y0.xs.length y0.c) := Bag.cell_at S19.out 7 rfl 1 rfl
   have f12 : World.cell? _ ⟨W.heap.size, 2, none⟩ = some (.int .i64 y0.auto) := Bag.cell_at S19.out 7 rfl 2 rfl
   have f13 : World.cell? _ ⟨W.heap.size + 1 + 1, 0, none⟩ = some (.slice a2 l2.length c2) := Bag.cell_at S19.out 8 rfl 0 rfl
   have f14 : World.cell? _ ⟨g1a', 0, none⟩ = some (.string z1'.name) := Bag.cell_at S19.out 10 rfl 0 rfl
   have f15 : World.cell? _ ⟨g1a', 1, none⟩ = some (.slice z1'.a z1'.xs.length z1'.c) := Bag.cell_at S19.out 10 rfl 1 rfl
   have f16 : World.cell? _ ⟨g1a', 2, none⟩ = some (.int .i64 z1'.auto) := Bag.cell_at S19.out 10 rfl 2 rfl
   have S20 := Lib.hid (show Sl.Sep W _ [_, _, _, _, _, _, _, _, _, _, _] from Bag.take S19.out [0, 1, 2, 3, 4, 5, 6, 7, 8, 9, 10] (by rfl) (by decide))
   clear S19
   go_upto_region 19 with fail
   clear f0 f1 f2 f3 f4 f5 f6 f7 f8 f9 f10 f11 f12 f13 f14 f15 f16
   refine wp_region_held_drew (S := (fun w' => w'.cell? ⟨g2, 0, none⟩ = some (.slice ax3 l2.length cx3) ∧ w'.cell? ⟨W.heap.size + 1 + 1, 0, none⟩ = some (.slice a2 l2.length c2))) (by kernel_rfl) ⟨Bag.cell_at S20.out 4 rfl 0 rfl, Bag.cell_at S20.out 8 rfl 0 rfl⟩ (fun hS => ?_)
   have S21 := Lib.hid (Bag.drew1 S20.out)
   clear S20
   generalize World.drew _ = w12 at hS S21 ⊢
   refine tk 0 rfl ?_
   try simp only [zp0, zp1, zp2, zp3, zp4]
   refine tk 1 rfl ?_
   try simp only [zp0, zp1, zp2, zp3, zp4]
   refine Reg.one_op (i := 2) rfl (by kernel_rfl) (fun K hK => ?_)
   go_simp
   go_at_call 39
   have HC := L5.toRecord_any a2 c2 l2 (by have := HL2.out.1; omega) _ (HRR2.out _ S21.out.old)
   try dsimp only [L6.LS.v, L6.LS.cells, L4.K.v, L4.R.v] at HC
   refine HC.mono ?_
   clear HC
   rintro e w13 ⟨ax6, cx6, rfl, ho, hb⟩
   have S22 := Lib.hid (show Sl.Sep W _ [_, _, _, _, _, _, _, _, _, _, _, Sv.ownV 128 2 ax6 cx6 l2.length (cellsF l2)] from Sv.push_own S21.out hb ho)
   clear S21
   clear hb ho
   go_wp2_with fail
   refine hK.out _ _ ⟨Bag.cell_at S22.out 4 rfl 0 rfl, Bag.cell_at S22.out 8 rfl 0 rfl⟩ (fun hS => ?_)
   clear hK K
   try simp only [zp0, zp1, zp2, zp3, zp4]
   refine Reg.one_op (i := 3) rfl (by kernel_rfl) (fun K hK => ?_)
   go_simp
   go_at_call 41
   have HC := L5.eqRecord_any ax3 ax6 cx3 cx6 l2 (by have := HL2.out.1; omega) _ (Sv.own_at S22.out 3 rfl).reads (Sv.own_at S22.out 11 rfl).reads
   try dsimp only [L6.LS.v, L6.LS.cells, L4.K.v, L4.R.v] at HC
   refine HC.mono ?_
   clear HC
   rintro e w14 ⟨rfl, hb⟩
   have S23 := Lib.hid (show Sl.Sep W _ [_, _, _, _, _, _, _, _, _, _, _, _] from S22.out.keep hb)
   clear S22
   clear hb
   go_wp2_with fail
   refine hK.out _ _ ⟨Bag.cell_at S23.out 4 rfl 0 rfl, Bag.cell_at S23.out 8 rfl 0 rfl⟩ (fun hS => ?_)
   clear hK K
   try simp only [zp0, zp1, zp2, zp3, zp4]
   refine tk 4 rfl ?_
   try simp only [zp0, zp1, zp2, zp3, zp4]
   refine wpAnyH_done (by kernel_rfl) ?_ _
   have f0 : World.cell? _ ⟨W.heap.size + 1, 0, none⟩ = some (.int .i64 k1.kind) := Bag.cell_at S23.out 0 rfl 0 rfl
   have f1 : World.cell? _ ⟨W.heap.size + 1, 1, none⟩ = some (.int .i64 k1.n) := Bag.cell_at S23.out 0 rfl 1 rfl
   have f2 : World.cell? _ ⟨W.heap.size + 1, 2, none⟩ = some (.string k1.text) := Bag.cell_at S23.out 0 rfl 2 rfl
   have f3 : World.cell? _ ⟨g1, 0, none⟩ = some (.string z2'.name) := Bag.cell_at S23.out 2 rfl 0 rfl
   have f4 : World.cell? _ ⟨g1, 1, none⟩ = some (.slice z2'.a z2'.xs.length z2'.c) := Bag.cell_at S23.out 2 rfl 1 rfl
   have f5 : World.cell? _ ⟨g1, 2, none⟩ = some (.int .i64 z2'.auto) := Bag.cell_at S23.out 2 rfl 2 rfl
   have f6 : World.cell? _ ⟨g2, 0, none⟩ = some (.slice ax3 l2.length cx3) := Bag.cell_at S23.out 4 rfl 0 rfl
   have f7 : World.cell? _ ⟨g4a', 0, none⟩ = some (.string z4'.name) := Bag.cell_at S23.out 6 rfl 0 rfl
   have f8 : World.cell? _ ⟨g4a', 1, none⟩ = some (.slice z4'.a z4'.xs.length z4'.c) := Bag.cell_at S23.out 6 rfl 1 rfl
   have f9 : World.cell? _ ⟨g4a', 2, none⟩ = some (.int .i64 z4'.auto) := Bag.cell_at S23.out 6 rfl 2 rfl
   have f10 : World.cell? _ ⟨W.heap.size, 0, none⟩ = some (.string y0.name) := Bag.cell_at S23.out 7 rfl 0 rfl
   have f11 : World.cell? _ ⟨W.heap.size, 1, none⟩ = some (.slice y0.a y0.xs.length y0.c) := Bag.cell_at S23.out 7 rfl 1 rfl
   have f12 : World.cell? _ ⟨W.heap.size, 2, none⟩ = some (.int .i64 y0.auto) := Bag.cell_at S23.out 7 rfl 2 rfl
   have f13 : World.cell? _ ⟨W.heap.size + 1 + 1, 0, none⟩ = some (.slice a2 l2.length c2) := Bag.cell_at S23.out 8 rfl 0 rfl
   have f14 : World.cell? _ ⟨g1a', 0, none⟩ = some (.string z1'.name) := Bag.cell_at S23.out 10 rfl 0 rfl
   have f15 : World.cell? _ ⟨g1a', 1, none⟩ = some (.slice z1'.a z1'.xs.length z1'.c) := Bag.cell_at S23.out 10 rfl 1 rfl
   have f16 : World.cell? _ ⟨g1a', 2, none⟩ = some (.int .i64 z1'.auto) := Bag.cell_at S23.out 10 rfl 2 rfl
   have S24 := Lib.hid (show Sl.Sep W _ [_, _, _, _, _, _, _, _, _, _, _] from Bag.take S23.out [0, 1, 2, 3, 4, 5, 6, 7, 8, 9, 10] (by rfl) (by decide))
   clear S23
   have HLNz2' := Lib.hid (show ∀ x ∈ z2'.xs, x.l.length ≤ 1048576 from (fun x hx => (show L6.FitS z2'.con from (by rw [HZz2'.out]; exact HF0.out)).items x.con (List.mem_map.2 ⟨x, hx, rfl⟩) |>.len))
   have HNLz2' := Lib.hid (show z2'.xs.length ≤ 1048576 from by have h := (show L6.FitS z2'.con from (by rw [HZz2'.out]; exact HF0.out)).len; simpa [L6.LS.con] using h)
   obtain ⟨Ez2', hE⟩ : ∃ E, L6.endI 1 z2'.xs = E := ⟨_, rfl⟩
   have hEb := (L6.endI_range z2'.xs 1 HLNz2'.out)
   rw [hE] at hEb
   have hEb0 : 1 ≤ Ez2' := hEb.1
   have hEb1 : Ez2' ≤ 4398046511104 := by have := HNLz2'.out; omega
   have HEz2' := Lib.hid hE
   clear hE hEb
   clear f0 f1 f2 f3 f4 f5 f6 f7 f8 f9 f10 f11 f12 f13 f14 f15 f16
   have f0 : World.cell? _ ⟨g1, 0, none⟩ = some (.string z2'.name) := Bag.cell_at S24.out 2 rfl 0 rfl
   have f1 : World.cell? _ ⟨g1, 1, none⟩ = some (.slice z2'.a z2'.xs.length z2'.c) := Bag.cell_at S24.out 2 rfl 1 rfl
   have f2 : World.cell? _ ⟨g1, 2, none⟩ = some (.int .i64 z2'.auto) := Bag.cell_at S24.out 2 rfl 2 rfl
   go_wp2_with fail
   go_at_call 42
   have HC := L6.markStore_any S24.out 1 (y := z2') rfl 1 (by rw [HZz2'.out]; exact HF0.out) (by omega) (by omega)
   try dsimp only [L6.LS.v, L6.LS.cells, L4.K.v, L4.R.v] at HC
   rw [HEz2'.out] at HC
   refine HC.mono ?_
   clear HC
   rintro e w15 ⟨rfl, hS⟩
   clear f0 f1 f2
   have S25 := Lib.hid (show Sl.Sep W _ [_, Bag.bag ((L6.LS.marked 1 z2').rows), _, _, _, _, _, _, _, _, _] from hS)
   clear S24
   clear hS
   have f0 : World.cell? _ ⟨g2, 0, none⟩ = some (.slice ax3 l2.length cx3) := Bag.cell_at S25.out 4 rfl 0 rfl
   go_wp2_with fail
   go_at_call 43
   have HC := L5.markRec S25.out 3 rfl Ez2' (by have := HL2.out.1; omega) (by omega) (by omega)
   try dsimp only [L6.LS.v, L6.LS.cells, L4.K.v, L4.R.v] at HC
   refine HC.mono ?_
   clear HC
   rintro e w16 ⟨rfl, hS⟩
   clear f0
   have S26 := Lib.hid (show Sl.Sep W _ [_, _, _, Sv.ownV 128 2 ax3 cx3 l2.length (cellsF (L5.marksF Ez2' l2.length)), _, _, _, _, _, _, _] from hS)
   clear S25
   clear hS
   have hkn : ¬ (Ez2' + 2 * (l2.length : Int) < 0) := by omega
   have f0 : World.cell? _ ⟨g4a', 0, none⟩ = some (.string z4'.name) := Bag.cell_at S26.out 6 rfl 0 rfl
   have f1 : World.cell? _ ⟨g4a', 1, none⟩ = some (.slice z4'.a z4'.xs.length z4'.c) := Bag.cell_at S26.out 6 rfl 1 rfl
   have f2 : World.cell? _ ⟨g4a', 2, none⟩ = some (.int .i64 z4'.auto) := Bag.cell_at S26.out 6 rfl 2 rfl
   have f3 : World.cell? _ ⟨g1a', 0, none⟩ = some (.string z1'.name) := Bag.cell_at S26.out 10 rfl 0 rfl
   have f4 : World.cell? _ ⟨g1a', 1, none⟩ = some (.slice z1'.a z1'.xs.length z1'.c) := Bag.cell_at S26.out 10 rfl 1 rfl
   have f5 : World.cell? _ ⟨g1a', 2, none⟩ = some (.int .i64 z1'.auto) := Bag.cell_at S26.out 10 rfl 2 rfl
   go_wp2_with fail
   go_at_call 40
   have HC := L6.eqStore_any z4' z1' (HZz4'.out.trans HZz1'.out.symm) (by rw [HZz4'.out]; exact HFR.out) _ (Bag.bag_rd S26.out 5 rfl) (Bag.bag_rd S26.out 9 rfl)
   try dsimp only [L6.LS.v, L6.LS.cells, L4.K.v, L4.R.v] at HC
   refine HC.mono ?_
   clear HC
   rintro e w17 ⟨rfl, hb⟩
   clear f0 f1 f2 f3 f4 f5
   have S27 := Lib.hid (show Sl.Sep W _ [_, _, _, _, _, _, _, _, _, _, _] from S26.out.keep hb)
   clear S26
   clear hb
   have HLNz4' := Lib.hid (show ∀ x ∈ z4'.xs, x.l.length ≤ 1048576 from (fun x hx => (show L6.FitS z4'.con from (by rw [HZz4'.out]; exact HFR.out)).items x.con (List.mem_map.2 ⟨x, hx, rfl⟩) |>.len))
   have HNLz4' := Lib.hid (show z4'.xs.length ≤ 1048576 from by have h := (show L6.FitS z4'.con from (by rw [HZz4'.out]; exact HFR.out)).len; simpa [L6.LS.con] using h)
   obtain ⟨Ez4', hE⟩ : ∃ E, L6.endI 1 z4'.xs = E := ⟨_, rfl⟩
   have hEb := (L6.endI_range z4'.xs 1 HLNz4'.out)
   rw [hE] at hEb
   have hEb0 : 1 ≤ Ez4' := hEb.1
   have hEb1 : Ez4' ≤ 4398046511104 := by have := HNLz4'.out; omega
   have HEz4' := Lib.hid hE
   clear hE hEb
   have f0 : World.cell? _ ⟨g4a', 0, none⟩ = some (.string z4'.name) := Bag.cell_at S27.out 6 rfl 0 rfl
   have f1 : World.cell? _ ⟨g4a', 1, none⟩ = some (.slice z4'.a z4'.xs.length z4'.c) := Bag.cell_at S27.out 6 rfl 1 rfl
   have f2 : World.cell? _ ⟨g4a', 2, none⟩ = some (.int .i64 z4'.auto) := Bag.cell_at S27.out 6 rfl 2 rfl
   go_wp2_with fail
   go_at_call 42
   have HC := L6.markStore_any S27.out 5 (y := z4') rfl 1 (by rw [HZz4'.out]; exact HFR.out) (by omega) (by omega)
   try dsimp only [L6.LS.v, L6.LS.cells, L4.K.v, L4.R.v] at HC
   rw [HEz4'.out] at HC
   refine HC.mono ?_
   clear HC
   rintro e w18 ⟨rfl, hS⟩
   clear f0 f1 f2
   have S28 := Lib.hid (show Sl.Sep W _ [_, _, _, _, _, Bag.bag ((L6.LS.marked 1 z4').rows), _, _, _, _, _] from hS)
   clear S27
   clear hS
   have f0 : World.cell? _ ⟨g4a', 0, none⟩ = some (.string z4'.name) := Bag.cell_at S28.out 6 rfl 0 rfl
   have f1 : World.cell? _ ⟨g4a', 1, none⟩ = some (.slice z4'.a z4'.xs.length z4'.c) := Bag.cell_at S28.out 6 rfl 1 rfl
   have f2 : World.cell? _ ⟨g4a', 2, none⟩ = some (.int .i64 z4'.auto) := Bag.cell_at S28.out 6 rfl 2 rfl
   go_wp2_with fail
   go_at_call 44
   have HC := L6.heldStore_any z4' 1 (by rw [HZz4'.out]; exact HFR.out) (by omega) (by omega) _ (Bag.bag_rd S28.out 5 rfl)
   try dsimp only [L6.LS.v, L6.LS.cells, L4.K.v, L4.R.v] at HC
   rw [HEz4'.out] at HC
   refine HC.mono ?_
   clear HC
   rintro e w19 ⟨rfl, hb⟩
   clear f0 f1 f2
   have S29 := Lib.hid (show Sl.Sep W _ [_, _, _, _, _, _, _, _, _, _, _] from S28.out.keep hb)
   clear S28
   clear hb
   have S30 := Lib.hid (show Sl.Sep W _ [_, _, _, _, _, _, _, _, _, _, _] from Bag.take S29.out [0, 7, 8, 1, 2, 3, 4, 5, 6, 9, 10] (by rfl) (by decide))
   clear S29
   have S31 := Lib.hid (show Sl.Sep W _ [L4.boxR (W.heap.size + 1) 58 #[.int .i64 k1.kind, .int .i64 k1.n, .string k1.text], L4.boxR W.heap.size 57 #[.string y0.name, .slice y0.a y0.xs.length y0.c, .int .i64 y0.auto], L4.boxR (W.heap.size + 1 + 1) 61 #[.slice a2 l2.length c2], Run.allR [Bag.bag ((L6.LS.marked 1 z2').rows), L4.boxR g1 26 #[.string z2'.name, .slice z2'.a z2'.xs.length z2'.c, .int .i64 z2'.auto], Sv.ownV 128 2 ax3 cx3 l2.length (cellsF (L5.marksF Ez2' l2.length)), L4.boxR g2 31 #[.slice ax3 l2.length cx3], Bag.bag ((L6.LS.marked 1 z4').rows), L4.boxR g4a' 26 #[.string z4'.name, .slice z4'.a z4'.xs.length z4'.c, .int .i64 z4'.auto], Bag.bag z1'.rows, L4.boxR g1a' 26 #[.string z1'.name, .slice z1'.a z1'.xs.length z1'.c, .int .i64 z1'.auto]]] from Run.packR (us := [L4.boxR (W.heap.size + 1) 58 #[.int .i64 k1.kind, .int .i64 k1.n, .string k1.text], L4.boxR W.heap.size 57 #[.string y0.name, .slice y0.a y0.xs.length y0.c, .int .i64 y0.auto], L4.boxR (W.heap.size + 1 + 1) 61 #[.slice a2 l2.length c2]]) (vs := [Bag.bag ((L6.LS.marked 1 z2').rows), L4.boxR g1 26 #[.string z2'.name, .slice z2'.a z2'.xs.length z2'.c, .int .i64 z2'.auto], Sv.ownV 128 2 ax3 cx3 l2.length (cellsF (L5.marksF Ez2' l2.length)), L4.boxR g2 31 #[.slice ax3 l2.length cx3], Bag.bag ((L6.LS.marked 1 z4').rows), L4.boxR g4a' 26 #[.string z4'.name, .slice z4'.a z4'.xs.length z4'.c, .int .i64 z4'.auto], Bag.bag z1'.rows, L4.boxR g1a' 26 #[.string z1'.name, .slice z1'.a z1'.xs.length z1'.c, .int .i64 z1'.auto]]) S30.out)
   clear S30
   obtain ⟨QQ, hQQ⟩ : ∃ Q, Q = Run.allR [Bag.bag ((L6.LS.marked 1 z2').rows), L4.boxR g1 26 #[.string z2'.name, .slice z2'.a z2'.xs.length z2'.c, .int .i64 z2'.auto], Sv.ownV 128 2 ax3 cx3 l2.length (cellsF (L5.marksF Ez2' l2.length)), L4.boxR g2 31 #[.slice ax3 l2.length cx3], Bag.bag ((L6.LS.marked 1 z4').rows), L4.boxR g4a' 26 #[.string z4'.name, .slice z4'.a z4'.xs.length z4'.c, .int .i64 z4'.auto], Bag.bag z1'.rows, L4.boxR g1a' 26 #[.string z1'.name, .slice z1'.a z1'.xs.length z1'.c, .int .i64 z1'.auto]] := ⟨_, rfl⟩
   rw [← hQQ] at S31
   have HQQ := Lib.hid hQQ
   clear hQQ
   go_upto_region 34 with fail
   have HTO0 := Lib.hid (fun w' (h : Below W.heap.size W w') => L6.toStore_any y0 (by rw [HC0.out]; exact HF0.out) w' (HRY0.out w' h))
   try dsimp only [L6.LS.v, L6.LS.cells, L4.K.v, L4.R.v] at HTO0
   have HTO1 := Lib.hid (fun w' (h : Below W.heap.size W w') => L4.toKey_any k1 w')
   try dsimp only [L6.LS.v, L6.LS.cells, L4.K.v, L4.R.v] at HTO1
   have HTO2 := Lib.hid (fun w' (h : Below W.heap.size W w') => L5.toRecord_any a2 c2 l2 (by have := HL2.out.1; omega) w' (HRR2.out w' h))
   try dsimp only [L6.LS.v, L6.LS.cells, L4.K.v, L4.R.v] at HTO2
   go_cut [17, 18] (fun pz0 qs0 wx => ∃ (g7a' : Nat) (z7' : L6.LS), pz0 = .pointer (some ⟨g7a', 0, none⟩) ∧ qs0 = .bool r1' ∧ Hid (z7'.con = r0' ∧ Sl.Sep W wx [L4.boxR (W.heap.size + 1) 58 #[.int .i64 k1.kind, .int .i64 k1.n, .string k1.text], L4.boxR W.heap.size 57 #[.string y0.name, .slice y0.a y0.xs.length y0.c, .int .i64 y0.auto], L4.boxR (W.heap.size + 1 + 1) 61 #[.slice a2 l2.length c2], QQ, Bag.bag z7'.rows, L4.boxR g7a' 26 #[.string z7'.name, .slice z7'.a z7'.xs.length z7'.c, .int .i64 z7'.auto]]))
   case first =>
    refine wp_region_held_drew (S := (fun w' => w'.cell? ⟨W.heap.size + 1, 0, none⟩ = some (.int .i64 k1.kind) ∧ w'.cell? ⟨W.heap.size + 1, 1, none⟩ = some (.int .i64 k1.n) ∧ w'.cell? ⟨W.heap.size + 1, 2, none⟩ = some (.string k1.text) ∧ w'.cell? ⟨W.heap.size, 0, none⟩ = some (.string y0.name) ∧ w'.cell? ⟨W.heap.size, 1, none⟩ = some (.slice y0.a y0.xs.length y0.c) ∧ w'.cell? ⟨W.heap.size, 2, none⟩ = some (.int .i64 y0.auto) ∧ w'.cell? ⟨W.heap.size + 1 + 1, 0, none⟩ = some (.slice a2 l2.length c2))) (by kernel_rfl) ⟨Bag.cell_at S31.out 0 rfl 0 rfl, Bag.cell_at S31.out 0 rfl 1 rfl, Bag.cell_at S31.out 0 rfl 2 rfl, Bag.cell_at S31.out 1 rfl 0 rfl, Bag.cell_at S31.out 1 rfl 1 rfl, Bag.cell_at S31.out 1 rfl 2 rfl, Bag.cell_at S31.out 2 rfl 0 rfl⟩ (fun hS => ?_)
    have S32 := Lib.hid (Bag.drew1 S31.out)
    clear S31
    generalize World.drew _ = w20 at hS S32 ⊢
    refine tk 0 rfl ?_
    try simp only [zp0, zp1, zp2, zp3, zp4]
    refine tk 2 rfl ?_
    try simp only [zp0, zp1, zp2, zp3, zp4]
    refine tk 4 rfl ?_
    try simp only [zp0, zp1, zp2, zp3, zp4]
    refine wpAnyH_ready (rs := [1, 10]) (by kernel_rfl) (by simp) ?_
    refine Reg.cons_op (i := 1) rfl (fun K hK => ?_) ?_
    go_simp
    go_at_call 37
    refine (HTO0.out _ S32.out.old).mono ?_
    rintro e w21 ⟨zs0, rfl, hcon, ho, hb⟩
    have S33 := Lib.hid (show Sl.Sep W _ [_, _, _, QQ, Bag.bag zs0.rows] from Bag.push_bag S32.out hb ho)
    clear S32
    clear hb ho
    have HZzs0 := Lib.hid (hcon.trans HC0.out)
    clear hcon
    go_wp2_with fail
    refine hK.out _ _ ⟨Bag.cell_at S33.out 0 rfl 0 rfl, Bag.cell_at S33.out 0 rfl 1 rfl, Bag.cell_at S33.out 0 rfl 2 rfl, Bag.cell_at S33.out 1 rfl 0 rfl, Bag.cell_at S33.out 1 rfl 1 rfl, Bag.cell_at S33.out 1 rfl 2 rfl, Bag.cell_at S33.out 2 rfl 0 rfl⟩ (fun hS => ?_)
    clear hK K
    try simp only [zp0, zp1, zp2, zp3, zp4]
    refine wpAnyH_ready (rs := [3, 10]) (by kernel_rfl) (by simp) ?_
    refine Reg.cons_op (i := 3) rfl (fun K hK => ?_) ?_
    go_simp
    go_at_call 38
    refine (HTO1.out w21 S33.out.old).mono ?_
    rintro e w22 ⟨rfl, hb⟩
    have S34 := Lib.hid (show Sl.Sep W _ [_, _, _, QQ, _] from S33.out.keep hb)
    clear S33
    clear hb
    go_wp2_with fail
    refine hK.out _ _ ⟨Bag.cell_at S34.out 0 rfl 0 rfl, Bag.cell_at S34.out 0 rfl 1 rfl, Bag.cell_at S34.out 0 rfl 2 rfl, Bag.cell_at S34.out 1 rfl 0 rfl, Bag.cell_at S34.out 1 rfl 1 rfl, Bag.cell_at S34.out 1 rfl 2 rfl, Bag.cell_at S34.out 2 rfl 0 rfl⟩ (fun hS => ?_)
    clear hK K
    try simp only [zp0, zp1, zp2, zp3, zp4]
    refine wpAnyH_ready (rs := [5, 10]) (by kernel_rfl) (by simp) ?_
    refine Reg.cons_op (i := 5) rfl (fun K hK => ?_) ?_
    go_simp
    go_at_call 39
    refine (HTO2.out _ S34.out.old).mono ?_
    rintro e w23 ⟨ar2, cr2, rfl, ho, hb⟩
    have S35 := Lib.hid (show Sl.Sep W _ [_, _, _, QQ, _, Sv.ownV 128 2 ar2 cr2 l2.length (cellsF l2)] from Sv.push_own S34.out hb ho)
    clear S34
    clear hb ho
    go_wp2_with fail
    refine hK.out _ _ ⟨Bag.cell_at S35.out 0 rfl 0 rfl, Bag.cell_at S35.out 0 rfl 1 rfl, Bag.cell_at S35.out 0 rfl 2 rfl, Bag.cell_at S35.out 1 rfl 0 rfl, Bag.cell_at S35.out 1 rfl 1 rfl, Bag.cell_at S35.out 1 rfl 2 rfl, Bag.cell_at S35.out 2 rfl 0 rfl⟩ (fun hS => ?_)
    clear hK K
    try simp only [zp0, zp1, zp2, zp3, zp4]
    refine wpAnyH_ready (rs := [6, 10]) (by kernel_rfl) (by simp) ?_
    refine Reg.cons_op (i := 6) rfl (fun K hK => ?_) ?_
    go_simp
    go_at_call 18
    refine (Cimpl.out zs0 HZzs0.out ar2 cr2 _ (Bag.bag_rd S35.out 4 rfl) (Sv.own_at S35.out 5 rfl).reads).mono ?_
    rintro e w24 ⟨zr, rfl, hcon, ho, hb⟩
    have S36 := Lib.hid (show Sl.Sep W _ [_, _, _, QQ, _, _, Bag.bag zr.rows] from Bag.push_bag S35.out hb ho)
    clear S35
    clear hb ho
    have HZzr := Lib.hid hcon
    clear hcon
    go_wp2_with fail
    refine hK.out _ _ ⟨Bag.cell_at S36.out 0 rfl 0 rfl, Bag.cell_at S36.out 0 rfl 1 rfl, Bag.cell_at S36.out 0 rfl 2 rfl, Bag.cell_at S36.out 1 rfl 0 rfl, Bag.cell_at S36.out 1 rfl 1 rfl, Bag.cell_at S36.out 1 rfl 2 rfl, Bag.cell_at S36.out 2 rfl 0 rfl⟩ (fun hS => ?_)
    clear hK K
    try simp only [zp0, zp1, zp2, zp3, zp4]
    refine tk 7 rfl ?_
    try simp only [zp0, zp1, zp2, zp3, zp4]
    refine tk 8 rfl ?_
    try simp only [zp0, zp1, zp2, zp3, zp4]
    refine tk 9 rfl ?_
    try simp only [zp0, zp1, zp2, zp3, zp4]
    refine Reg.one_op (i := 10) rfl (by kernel_rfl) (fun K hK => ?_)
    go_simp
    have S37 := Lib.hid (show Sl.Sep W _ [_, _, _, _, _, _, _, _] from L4.push_box S36.out 26 #[.string ⟨#[]⟩, .slice none 0 0, .int .i64 0] w24.heap.size rfl)
    clear S36
    obtain ⟨gb0, hg⟩ : ∃ g', g' = w24.heap.size := ⟨_, rfl⟩
    rw [← hg] at S37 ⊢
    clear hg
    generalize w24.alloc (.cells #[.string ⟨#[]⟩, .slice none 0 0, .int .i64 0] 26) = w25 at S37 ⊢
    refine hK.out _ _ ⟨Bag.cell_at S37.out 0 rfl 0 rfl, Bag.cell_at S37.out 0 rfl 1 rfl, Bag.cell_at S37.out 0 rfl 2 rfl, Bag.cell_at S37.out 1 rfl 0 rfl, Bag.cell_at S37.out 1 rfl 1 rfl, Bag.cell_at S37.out 1 rfl 2 rfl, Bag.cell_at S37.out 2 rfl 0 rfl⟩ (fun hS => ?_)
    clear hK K
    try simp only [zp0, zp1, zp2, zp3, zp4]
    have S38 := Lib.hid (show Sl.Sep W _ [_, _, _, QQ, _, L4.boxR gb0 26 #[.string ⟨#[]⟩, .slice none 0 0, .int .i64 0]] from Bag.take S37.out [0, 1, 2, 3, 6, 7] (by rfl) (by decide))
    clear S37
    rotate_left
    refine Reg.cons_op (i := 10) rfl (fun K hK => ?_) ?_
    go_simp
    have S36 := Lib.hid (show Sl.Sep W _ [_, _, _, _, _, _, _] from L4.push_box S35.out 26 #[.string ⟨#[]⟩, .slice none 0 0, .int .i64 0] w23.heap.size rfl)
    clear S35
    obtain ⟨gb0, hg⟩ : ∃ g', g' = w23.heap.size := ⟨_, rfl⟩
    rw [← hg] at S36 ⊢
    clear hg
    generalize w23.alloc (.cells #[.string ⟨#[]⟩, .slice none 0 0, .int .i64 0] 26) = w24 at S36 ⊢
    refine hK.out _ _ ⟨Bag.cell_at S36.out 0 rfl 0 rfl, Bag.cell_at S36.out 0 rfl 1 rfl, Bag.cell_at S36.out 0 rfl 2 rfl, Bag.cell_at S36.out 1 rfl 0 rfl, Bag.cell_at S36.out 1 rfl 1 rfl, Bag.cell_at S36.out 1 rfl 2 rfl, Bag.cell_at S36.out 2 rfl 0 rfl⟩ (fun hS => ?_)
    clear hK K
    try simp only [zp0, zp1, zp2, zp3, zp4]
    refine Reg.one_op (i := 6) rfl (by kernel_rfl) (fun K hK => ?_)
    go_simp
    go_at_call 18
    refine (Cimpl.out zs0 HZzs0.out ar2 cr2 _ (Bag.bag_rd S36.out 4 rfl) (Sv.own_at S36.out 5 rfl).reads).mono ?_
    rintro e w25 ⟨zr, rfl, hcon, ho, hb⟩
    have S37 := Lib.hid (show Sl.Sep W _ [_, _, _, QQ, _, _, L4.boxR gb0 26 #[.string ⟨#[]⟩, .slice none 0 0, .int .i64 0], Bag.bag zr.rows] from Bag.push_bag S36.out hb ho)
    clear S36
    clear hb ho
    have HZzr := Lib.hid hcon
    clear hcon
    go_wp2_with fail
    refine hK.out _ _ ⟨Bag.cell_at S37.out 0 rfl 0 rfl, Bag.cell_at S37.out 0 rfl 1 rfl, Bag.cell_at S37.out 0 rfl 2 rfl, Bag.cell_at S37.out 1 rfl 0 rfl, Bag.cell_at S37.out 1 rfl 1 rfl, Bag.cell_at S37.out 1 rfl 2 rfl, Bag.cell_at S37.out 2 rfl 0 rfl⟩ (fun hS => ?_)
    clear hK K
    try simp only [zp0, zp1, zp2, zp3, zp4]
    refine tk 7 rfl ?_
    try simp only [zp0, zp1, zp2, zp3, zp4]
    refine tk 8 rfl ?_
    try simp only [zp0, zp1, zp2, zp3, zp4]
    refine tk 9 rfl ?_
    try simp only [zp0, zp1, zp2, zp3, zp4]
    have S38 := Lib.hid (show Sl.Sep W _ [_, _, _, QQ, _, _] from Bag.take S37.out [0, 1, 2, 3, 7, 6] (by rfl) (by decide))
    clear S37
    rotate_left
    exact AllReadyH.nil
    refine Reg.cons_op (i := 10) rfl (fun K hK => ?_) ?_
    go_simp
    have S35 := Lib.hid (show Sl.Sep W _ [_, _, _, _, _, _] from L4.push_box S34.out 26 #[.string ⟨#[]⟩, .slice none 0 0, .int .i64 0] w22.heap.size rfl)
    clear S34
    obtain ⟨gb0, hg⟩ : ∃ g', g' = w22.heap.size := ⟨_, rfl⟩
    rw [← hg] at S35 ⊢
    clear hg
    generalize w22.alloc (.cells #[.string ⟨#[]⟩, .slice none 0 0, .int .i64 0] 26) = w23 at S35 ⊢
    refine hK.out _ _ ⟨Bag.cell_at S35.out 0 rfl 0 rfl, Bag.cell_at S35.out 0 rfl 1 rfl, Bag.cell_at S35.out 0 rfl 2 rfl, Bag.cell_at S35.out 1 rfl 0 rfl, Bag.cell_at S35.out 1 rfl 1 rfl, Bag.cell_at S35.out 1 rfl 2 rfl, Bag.cell_at S35.out 2 rfl 0 rfl⟩ (fun hS => ?_)
    clear hK K
    try simp only [zp0, zp1, zp2, zp3, zp4]
    refine Reg.one_op (i := 5) rfl (by kernel_rfl) (fun K hK => ?_)
    go_simp
    go_at_call 39
    refine (HTO2.out _ S35.out.old).mono ?_
    rintro e w24 ⟨ar2, cr2, rfl, ho, hb⟩
    have S36 := Lib.hid (show Sl.Sep W _ [_, _, _, QQ, _, L4.boxR gb0 26 #[.string ⟨#[]⟩, .slice none 0 0, .int .i64 0], Sv.ownV 128 2 ar2 cr2 l2.length (cellsF l2)] from Sv.push_own S35.out hb ho)
    clear S35
    clear hb ho
    go_wp2_with fail
    refine hK.out _ _ ⟨Bag.cell_at S36.out 0 rfl 0 rfl, Bag.cell_at S36.out 0 rfl 1 rfl, Bag.cell_at S36.out 0 rfl 2 rfl, Bag.cell_at S36.out 1 rfl 0 rfl, Bag.cell_at S36.out 1 rfl 1 rfl, Bag.cell_at S36.out 1 rfl 2 rfl, Bag.cell_at S36.out 2 rfl 0 rfl⟩ (fun hS => ?_)
    clear hK K
    try simp only [zp0, zp1, zp2, zp3, zp4]
    refine Reg.one_op (i := 6) rfl (by kernel_rfl) (fun K hK => ?_)
    go_simp
    go_at_call 18
    refine (Cimpl.out zs0 HZzs0.out ar2 cr2 _ (Bag.bag_rd S36.out 4 rfl) (Sv.own_at S36.out 6 rfl).reads).mono ?_
    rintro e w25 ⟨zr, rfl, hcon, ho, hb⟩
    have S37 := Lib.hid (show Sl.Sep W _ [_, _, _, QQ, _, _, _, Bag.bag zr.rows] from Bag.push_bag S36.out hb ho)
    clear S36
    clear hb ho
    have HZzr := Lib.hid hcon
    clear hcon
    go_wp2_with fail
    refine hK.out _ _ ⟨Bag.cell_at S37.out 0 rfl 0 rfl, Bag.cell_at S37.out 0 rfl 1 rfl, Bag.cell_at S37.out 0 rfl 2 rfl, Bag.cell_at S37.out 1 rfl 0 rfl, Bag.cell_at S37.out 1 rfl 1 rfl, Bag.cell_at S37.out 1 rfl 2 rfl, Bag.cell_at S37.out 2 rfl 0 rfl⟩ (fun hS => ?_)
    clear hK K
    try simp only [zp0, zp1, zp2, zp3, zp4]
    refine tk 7 rfl ?_
    try simp only [zp0, zp1, zp2, zp3, zp4]
    refine tk 8 rfl ?_
    try simp only [zp0, zp1, zp2, zp3, zp4]
    refine tk 9 rfl ?_
    try simp only [zp0, zp1, zp2, zp3, zp4]
    have S38 := Lib.hid (show Sl.Sep W _ [_, _, _, QQ, _, _] from Bag.take S37.out [0, 1, 2, 3, 7, 5] (by rfl) (by decide))
    clear S37
    rotate_left
    exact AllReadyH.nil
    refine Reg.cons_op (i := 10) rfl (fun K hK => ?_) ?_
    go_simp
    have S34 := Lib.hid (show Sl.Sep W _ [_, _, _, _, _, _] from L4.push_box S33.out 26 #[.string ⟨#[]⟩, .slice none 0 0, .int .i64 0] w21.heap.size rfl)
    clear S33
    obtain ⟨gb0, hg⟩ : ∃ g', g' = w21.heap.size := ⟨_, rfl⟩
    rw [← hg] at S34 ⊢
    clear hg
    generalize w21.alloc (.cells #[.string ⟨#[]⟩, .slice none 0 0, .int .i64 0] 26) = w22 at S34 ⊢
    refine hK.out _ _ ⟨Bag.cell_at S34.out 0 rfl 0 rfl, Bag.cell_at S34.out 0 rfl 1 rfl, Bag.cell_at S34.out 0 rfl 2 rfl, Bag.cell_at S34.out 1 rfl 0 rfl, Bag.cell_at S34.out 1 rfl 1 rfl, Bag.cell_at S34.out 1 rfl 2 rfl, Bag.cell_at S34.out 2 rfl 0 rfl⟩ (fun hS => ?_)
    clear hK K
    try simp only [zp0, zp1, zp2, zp3, zp4]
    refine Reg.one_op (i := 3) rfl (by kernel_rfl) (fun K hK => ?_)
    go_simp
    go_at_call 38
    refine (HTO1.out w22 S34.out.old).mono ?_
    rintro e w23 ⟨rfl, hb⟩
    have S35 := Lib.hid (show Sl.Sep W _ [_, _, _, QQ, _, L4.boxR gb0 26 #[.string ⟨#[]⟩, .slice none 0 0, .int .i64 0]] from S34.out.keep hb)
    clear S34
    clear hb
    go_wp2_with fail
    refine hK.out _ _ ⟨Bag.cell_at S35.out 0 rfl 0 rfl, Bag.cell_at S35.out 0 rfl 1 rfl, Bag.cell_at S35.out 0 rfl 2 rfl, Bag.cell_at S35.out 1 rfl 0 rfl, Bag.cell_at S35.out 1 rfl 1 rfl, Bag.cell_at S35.out 1 rfl 2 rfl, Bag.cell_at S35.out 2 rfl 0 rfl⟩ (fun hS => ?_)
    clear hK K
    try simp only [zp0, zp1, zp2, zp3, zp4]
    refine Reg.one_op (i := 5) rfl (by kernel_rfl) (fun K hK => ?_)
    go_simp
    go_at_call 39
    refine (HTO2.out _ S35.out.old).mono ?_
    rintro e w24 ⟨ar2, cr2, rfl, ho, hb⟩
    have S36 := Lib.hid (show Sl.Sep W _ [_, _, _, QQ, _, _, Sv.ownV 128 2 ar2 cr2 l2.length (cellsF l2)] from Sv.push_own S35.out hb ho)
    clear S35
    clear hb ho
    go_wp2_with fail
    refine hK.out _ _ ⟨Bag.cell_at S36.out 0 rfl 0 rfl, Bag.cell_at S36.out 0 rfl 1 rfl, Bag.cell_at S36.out 0 rfl 2 rfl, Bag.cell_at S36.out 1 rfl 0 rfl, Bag.cell_at S36.out 1 rfl 1 rfl, Bag.cell_at S36.out 1 rfl 2 rfl, Bag.cell_at S36.out 2 rfl 0 rfl⟩ (fun hS => ?_)
    clear hK K
    try simp only [zp0, zp1, zp2, zp3, zp4]
    refine Reg.one_op (i := 6) rfl (by kernel_rfl) (fun K hK => ?_)
    go_simp
    go_at_call 18
    refine (Cimpl.out zs0 HZzs0.out ar2 cr2 _ (Bag.bag_rd S36.out 4 rfl) (Sv.own_at S36.out 6 rfl).reads).mono ?_
    rintro e w25 ⟨zr, rfl, hcon, ho, hb⟩
    have S37 := Lib.hid (show Sl.Sep W _ [_, _, _, QQ, _, _, _, Bag.bag zr.rows] from Bag.push_bag S36.out hb ho)
    clear S36
    clear hb ho
    have HZzr := Lib.hid hcon
    clear hcon
    go_wp2_with fail
    refine hK.out _ _ ⟨Bag.cell_at S37.out 0 rfl 0 rfl, Bag.cell_at S37.out 0 rfl 1 rfl, Bag.cell_at S37.out 0 rfl 2 rfl, Bag.cell_at S37.out 1 rfl 0 rfl, Bag.cell_at S37.out 1 rfl 1 rfl, Bag.cell_at S37.out 1 rfl 2 rfl, Bag.cell_at S37.out 2 rfl 0 rfl⟩ (fun hS => ?_)
    clear hK K
    try simp only [zp0, zp1, zp2, zp3, zp4]
    refine tk 7 rfl ?_
    try simp only [zp0, zp1, zp2, zp3, zp4]
    refine tk 8 rfl ?_
    try simp only [zp0, zp1, zp2, zp3, zp4]
    refine tk 9 rfl ?_
    try simp only [zp0, zp1, zp2, zp3, zp4]
    have S38 := Lib.hid (show Sl.Sep W _ [_, _, _, QQ, _, _] from Bag.take S37.out [0, 1, 2, 3, 7, 5] (by rfl) (by decide))
    clear S37
    rotate_left
    exact AllReadyH.nil
    refine Reg.cons_op (i := 10) rfl (fun K hK => ?_) ?_
    go_simp
    have S33 := Lib.hid (show Sl.Sep W _ [_, _, _, _, _] from L4.push_box S32.out 26 #[.string ⟨#[]⟩, .slice none 0 0, .int .i64 0] w20.heap.size rfl)
    clear S32
    obtain ⟨gb0, hg⟩ : ∃ g', g' = w20.heap.size := ⟨_, rfl⟩
    rw [← hg] at S33 ⊢
    clear hg
    generalize w20.alloc (.cells #[.string ⟨#[]⟩, .slice none 0 0, .int .i64 0] 26) = w21 at S33 ⊢
    refine hK.out _ _ ⟨Bag.cell_at S33.out 0 rfl 0 rfl, Bag.cell_at S33.out 0 rfl 1 rfl, Bag.cell_at S33.out 0 rfl 2 rfl, Bag.cell_at S33.out 1 rfl 0 rfl, Bag.cell_at S33.out 1 rfl 1 rfl, Bag.cell_at S33.out 1 rfl 2 rfl, Bag.cell_at S33.out 2 rfl 0 rfl⟩ (fun hS => ?_)
    clear hK K
    try simp only [zp0, zp1, zp2, zp3, zp4]
    refine Reg.one_op (i := 1) rfl (by kernel_rfl) (fun K hK => ?_)
    go_simp
    go_at_call 37
    refine (HTO0.out _ S33.out.old).mono ?_
    rintro e w22 ⟨zs0, rfl, hcon, ho, hb⟩
    have S34 := Lib.hid (show Sl.Sep W _ [_, _, _, QQ, L4.boxR gb0 26 #[.string ⟨#[]⟩, .slice none 0 0, .int .i64 0], Bag.bag zs0.rows] from Bag.push_bag S33.out hb ho)
    clear S33
    clear hb ho
    have HZzs0 := Lib.hid (hcon.trans HC0.out)
    clear hcon
    go_wp2_with fail
    refine hK.out _ _ ⟨Bag.cell_at S34.out 0 rfl 0 rfl, Bag.cell_at S34.out 0 rfl 1 rfl, Bag.cell_at S34.out 0 rfl 2 rfl, Bag.cell_at S34.out 1 rfl 0 rfl, Bag.cell_at S34.out 1 rfl 1 rfl, Bag.cell_at S34.out 1 rfl 2 rfl, Bag.cell_at S34.out 2 rfl 0 rfl⟩ (fun hS => ?_)
    clear hK K
    try simp only [zp0, zp1, zp2, zp3, zp4]
    refine Reg.one_op (i := 3) rfl (by kernel_rfl) (fun K hK => ?_)
    go_simp
    go_at_call 38
    refine (HTO1.out w22 S34.out.old).mono ?_
    rintro e w23 ⟨rfl, hb⟩
    have S35 := Lib.hid (show Sl.Sep W _ [_, _, _, QQ, _, _] from S34.out.keep hb)
    clear S34
    clear hb
    go_wp2_with fail
    refine hK.out _ _ ⟨Bag.cell_at S35.out 0 rfl 0 rfl, Bag.cell_at S35.out 0 rfl 1 rfl, Bag.cell_at S35.out 0 rfl 2 rfl, Bag.cell_at S35.out 1 rfl 0 rfl, Bag.cell_at S35.out 1 rfl 1 rfl, Bag.cell_at S35.out 1 rfl 2 rfl, Bag.cell_at S35.out 2 rfl 0 rfl⟩ (fun hS => ?_)
    clear hK K
    try simp only [zp0, zp1, zp2, zp3, zp4]
    refine Reg.one_op (i := 5) rfl (by kernel_rfl) (fun K hK => ?_)
    go_simp
    go_at_call 39
    refine (HTO2.out _ S35.out.old).mono ?_
    rintro e w24 ⟨ar2, cr2, rfl, ho, hb⟩
    have S36 := Lib.hid (show Sl.Sep W _ [_, _, _, QQ, _, _, Sv.ownV 128 2 ar2 cr2 l2.length (cellsF l2)] from Sv.push_own S35.out hb ho)
    clear S35
    clear hb ho
    go_wp2_with fail
    refine hK.out _ _ ⟨Bag.cell_at S36.out 0 rfl 0 rfl, Bag.cell_at S36.out 0 rfl 1 rfl, Bag.cell_at S36.out 0 rfl 2 rfl, Bag.cell_at S36.out 1 rfl 0 rfl, Bag.cell_at S36.out 1 rfl 1 rfl, Bag.cell_at S36.out 1 rfl 2 rfl, Bag.cell_at S36.out 2 rfl 0 rfl⟩ (fun hS => ?_)
    clear hK K
    try simp only [zp0, zp1, zp2, zp3, zp4]
    refine Reg.one_op (i := 6) rfl (by kernel_rfl) (fun K hK => ?_)
    go_simp
    go_at_call 18
    refine (Cimpl.out zs0 HZzs0.out ar2 cr2 _ (Bag.bag_rd S36.out 5 rfl) (Sv.own_at S36.out 6 rfl).reads).mono ?_
    rintro e w25 ⟨zr, rfl, hcon, ho, hb⟩
    have S37 := Lib.hid (show Sl.Sep W _ [_, _, _, QQ, _, _, _, Bag.bag zr.rows] from Bag.push_bag S36.out hb ho)
    clear S36
    clear hb ho
    have HZzr := Lib.hid hcon
    clear hcon
    go_wp2_with fail
    refine hK.out _ _ ⟨Bag.cell_at S37.out 0 rfl 0 rfl, Bag.cell_at S37.out 0 rfl 1 rfl, Bag.cell_at S37.out 0 rfl 2 rfl, Bag.cell_at S37.out 1 rfl 0 rfl, Bag.cell_at S37.out 1 rfl 1 rfl, Bag.cell_at S37.out 1 rfl 2 rfl, Bag.cell_at S37.out 2 rfl 0 rfl⟩ (fun hS => ?_)
    clear hK K
    try simp only [zp0, zp1, zp2, zp3, zp4]
    refine tk 7 rfl ?_
    try simp only [zp0, zp1, zp2, zp3, zp4]
    refine tk 8 rfl ?_
    try simp only [zp0, zp1, zp2, zp3, zp4]
    refine tk 9 rfl ?_
    try simp only [zp0, zp1, zp2, zp3, zp4]
    have S38 := Lib.hid (show Sl.Sep W _ [_, _, _, QQ, _, _] from Bag.take S37.out [0, 1, 2, 3, 7, 4] (by rfl) (by decide))
    clear S37
    rotate_left
    exact AllReadyH.nil
    all_goals
     refine Reg.one_op (i := 11) rfl (by kernel_rfl) (fun K hK => ?_)
     have f0 : World.cell? _ ⟨gb0, 0, none⟩ = some (.string ⟨#[]⟩) := Bag.cell_at S38.out 5 rfl 0 rfl
     have f1 : World.cell? _ ⟨gb0, 1, none⟩ = some (.slice none 0 0) := Bag.cell_at S38.out 5 rfl 1 rfl
     have f2 : World.cell? _ ⟨gb0, 2, none⟩ = some (.int .i64 0) := Bag.cell_at S38.out 5 rfl 2 rfl
     have z0 := Bag.free_at S38.out 5 rfl 0
     have z1 := Bag.free_at S38.out 5 rfl 1
     have z2 := Bag.free_at S38.out 5 rfl 2
     go_simp
     clear f0 f1 f2 z0 z1 z2
     have S39 := Lib.hid (show Sl.Sep W _ [_, _, _, QQ, _, L4.boxR gb0 26 #[.string zr.name, .slice zr.a zr.xs.length zr.c, .int .i64 zr.auto]] from L5.put_box5 (L5.put_box5 (L5.put_box5 (S38.out) 5 rfl 0 (.string zr.name)) 5 rfl 1 (.slice zr.a zr.xs.length zr.c)) 5 rfl 2 (.int .i64 zr.auto))
     clear S38
     refine hK.out _ _ ⟨Bag.cell_at S39.out 0 rfl 0 rfl, Bag.cell_at S39.out 0 rfl 1 rfl, Bag.cell_at S39.out 0 rfl 2 rfl, Bag.cell_at S39.out 1 rfl 0 rfl, Bag.cell_at S39.out 1 rfl 1 rfl, Bag.cell_at S39.out 1 rfl 2 rfl, Bag.cell_at S39.out 2 rfl 0 rfl⟩ (fun hS => ?_)
     clear hK K
     try simp only [zp0, zp1, zp2, zp3, zp4]
     refine tk 12 rfl ?_
     try simp only [zp0, zp1, zp2, zp3, zp4]
     refine wpAnyH_done (by kernel_rfl) ?_ _
     go_wp2_with fail
     go_meet
     case rel =>
      exact ⟨gb0, zr, rfl, rfl, And.intro HZzr.out S39.out⟩
   case rest =>
    obtain ⟨g7a', z7', rfl, rfl, hq⟩ := hcut
    have HZz7' := Lib.hid hq.out.1
    have S32 := Lib.hid hq.out.2
    clear hq S31 HTO0 HTO1 HTO2
    have S33 := Lib.hid (show Sl.Sep W _ [L4.boxR (W.heap.size + 1) 58 #[.int .i64 k1.kind, .int .i64 k1.n, .string k1.text], L4.boxR W.heap.size 57 #[.string y0.name, .slice y0.a y0.xs.length y0.c, .int .i64 y0.auto], L4.boxR (W.heap.size + 1 + 1) 61 #[.slice a2 l2.length c2], Bag.bag z7'.rows, L4.boxR g7a' 26 #[.string z7'.name, .slice z7'.a z7'.xs.length z7'.c, .int .i64 z7'.auto], QQ] from Bag.take S32.out [0, 1, 2, 4, 5, 3] (by rfl) (by decide))
    clear S32
    have S34 := Lib.hid (show Sl.Sep W _ [L4.boxR (W.heap.size + 1) 58 #[.int .i64 k1.kind, .int .i64 k1.n, .string k1.text], L4.boxR W.heap.size 57 #[.string y0.name, .slice y0.a y0.xs.length y0.c, .int .i64 y0.auto], L4.boxR (W.heap.size + 1 + 1) 61 #[.slice a2 l2.length c2], Bag.bag z7'.rows, L4.boxR g7a' 26 #[.string z7'.name, .slice z7'.a z7'.xs.length z7'.c, .int .i64 z7'.auto], Bag.bag ((L6.LS.marked 1 z2').rows), L4.boxR g1 26 #[.string z2'.name, .slice z2'.a z2'.xs.length z2'.c, .int .i64 z2'.auto], Sv.ownV 128 2 ax3 cx3 l2.length (cellsF (L5.marksF Ez2' l2.length)), L4.boxR g2 31 #[.slice ax3 l2.length cx3], Bag.bag ((L6.LS.marked 1 z4').rows), L4.boxR g4a' 26 #[.string z4'.name, .slice z4'.a z4'.xs.length z4'.c, .int .i64 z4'.auto], Bag.bag z1'.rows, L4.boxR g1a' 26 #[.string z1'.name, .slice z1'.a z1'.xs.length z1'.c, .int .i64 z1'.auto]] from (by have h := S33.out; rw [HQQ.out] at h; exact Run.unpackR (us := [L4.boxR (W.heap.size + 1) 58 #[.int .i64 k1.kind, .int .i64 k1.n, .string k1.text], L4.boxR W.heap.size 57 #[.string y0.name, .slice y0.a y0.xs.length y0.c, .int .i64 y0.auto], L4.boxR (W.heap.size + 1 + 1) 61 #[.slice a2 l2.length c2], Bag.bag z7'.rows, L4.boxR g7a' 26 #[.string z7'.name, .slice z7'.a z7'.xs.length z7'.c, .int .i64 z7'.auto]]) (vs := [Bag.bag ((L6.LS.marked 1 z2').rows), L4.boxR g1 26 #[.string z2'.name, .slice z2'.a z2'.xs.length z2'.c, .int .i64 z2'.auto], Sv.ownV 128 2 ax3 cx3 l2.length (cellsF (L5.marksF Ez2' l2.length)), L4.boxR g2 31 #[.slice ax3 l2.length cx3], Bag.bag ((L6.LS.marked 1 z4').rows), L4.boxR g4a' 26 #[.string z4'.name, .slice z4'.a z4'.xs.length z4'.c, .int .i64 z4'.auto], Bag.bag z1'.rows, L4.boxR g1a' 26 #[.string z1'.name, .slice z1'.a z1'.xs.length z1'.c, .int .i64 z1'.auto]]) h))
    clear S33
    clear HQQ QQ
    have f0 : World.cell? _ ⟨g7a', 0, none⟩ = some (.string z7'.name) := Bag.cell_at S34.out 4 rfl 0 rfl
    have f1 : World.cell? _ ⟨g7a', 1, none⟩ = some (.slice z7'.a z7'.xs.length z7'.c) := Bag.cell_at S34.out 4 rfl 1 rfl
    have f2 : World.cell? _ ⟨g7a', 2, none⟩ = some (.int .i64 z7'.auto) := Bag.cell_at S34.out 4 rfl 2 rfl
    have f3 : World.cell? _ ⟨g1a', 0, none⟩ = some (.string z1'.name) := Bag.cell_at S34.out 12 rfl 0 rfl
    have f4 : World.cell? _ ⟨g1a', 1, none⟩ = some (.slice z1'.a z1'.xs.length z1'.c) := Bag.cell_at S34.out 12 rfl 1 rfl
    have f5 : World.cell? _ ⟨g1a', 2, none⟩ = some (.int .i64 z1'.auto) := Bag.cell_at S34.out 12 rfl 2 rfl
    go_wp2_with fail
    go_at_call 40
    have HC := L6.eqStore_any z7' z1' (HZz7'.out.trans HZz1'.out.symm) (by rw [HZz7'.out]; exact HFR.out) _ (Bag.bag_rd S34.out 3 rfl) (Bag.bag_rd S34.out 11 rfl)
    try dsimp only [L6.LS.v, L6.LS.cells, L4.K.v, L4.R.v] at HC
    refine HC.mono ?_
    clear HC
    rintro e w20 ⟨rfl, hb⟩
    clear f0 f1 f2 f3 f4 f5
    have S35 := Lib.hid (show Sl.Sep W _ [_, _, _, _, _, _, _, _, _, _, _, _, _] from S34.out.keep hb)
    clear S34
    clear hb
    have f0 : World.cell? _ ⟨g4a', 0, none⟩ = some (.string z4'.name) := Bag.cell_at S35.out 10 rfl 0 rfl
    have f1 : World.cell? _ ⟨g4a', 1, none⟩ = some (.slice z4'.a z4'.xs.length z4'.c) := Bag.cell_at S35.out 10 rfl 1 rfl
    have f2 : World.cell? _ ⟨g4a', 2, none⟩ = some (.int .i64 z4'.auto) := Bag.cell_at S35.out 10 rfl 2 rfl
    go_wp2_with fail
    go_at_call 44
    have HC := L6.heldStore_any z4' 1 (by rw [HZz4'.out]; exact HFR.out) (by omega) (by omega) _ (Bag.bag_rd S35.out 9 rfl)
    try dsimp only [L6.LS.v, L6.LS.cells, L4.K.v, L4.R.v] at HC
    rw [HEz4'.out] at HC
    refine HC.mono ?_
    clear HC
    rintro e w21 ⟨rfl, hb⟩
    clear f0 f1 f2
    have S36 := Lib.hid (show Sl.Sep W _ [_, _, _, _, _, _, _, _, _, _, _, _, _] from S35.out.keep hb)
    clear S35
    clear hb
    go_wp2_with fail
    go_ret
    exact ⟨rfl, S36.out.old⟩

set_option maxRecDepth 100000 in
theorem lifted (os : Os) (started : os.Started) (H : Type) (enc : TypeId × Value → H) :
  ReturnsInHanded {} Try.checked os 6 .any (Rows.fnExactAddItemSpec.pre6 enc Try.prog Try.f6 Rows.fnExactAddItemRow.domain false) (Rows.fnExactAddItemSpec.post enc Try.prog Try.f6 false true false false) := by
 refine returnsInHanded_of_change_sized (C := Try.checked) own started (by kernel_rfl) Try.func6
  (ChangeSpec.witness6 (enc := enc) (C := Try.checked) false ⟨#[], #[.agg #[.string ⟨#[]⟩, .slice none 0 0, .int .i64 0], .agg #[.int .i64 0, .int .i64 0, .string ⟨#[]⟩], .agg #[.slice none 0 0]], []⟩ 8 (by kernel_rfl) (by kernel_rfl) (by kernel_rfl) (by kernel_rfl)) ?_
 intro W base args ds gs before hval0 hW _ hsz0 _
 have hval : ∀ (j : Nat) t v, Try.f6.params[j]? = some t → args[j]? = some v → Value.okWide Try.prog W .any base t v := hval0
 have hW' := hW
 obtain ⟨p, q, hA0, hV, rfl, _, _⟩ := hW
 have hA : DataW.TrodAll enc Try.prog W 0 (fun _ => true) true Try.f6.params.toList args.toList ds p := hA0
 obtain ⟨rfl, rfl⟩ := trodVars_none hV
 have hlt : ∀ x ∈ p, x.block < W.heap.size := fun x hx => hW'.lt x (by simpa using hx)
 simp only [List.append_nil] at hW'
 have hw := walk H enc W base args ds p hval hA hlt hsz0
 have hA1 := hA
 clear hA0 hval0 hsz0 hval hlt
 rw [Try.params6] at hA
 obtain ⟨v0, vs0, d0, ds0, p0, q0, e0, rfl, rfl, h0, hr0⟩ := trodAll_cons hA
 obtain ⟨v1, vs1, d1, ds1, p1, q1, e1, rfl, rfl, h1, hr1⟩ := trodAll_cons hr0
 obtain ⟨v2, vs2, d2, ds2, p2, q2, e2, rfl, rfl, h2, hr2⟩ := trodAll_cons hr1
 obtain ⟨e3, rfl, rfl⟩ := trodAll_nil hr2
 refine hw.mono fun e W' ⟨he, hb⟩ => ?_
 subst he
 exact ⟨_, rfl, Frame.law_post (tb := 4) rfl hW' hA1 rfl rfl rfl laidOut (by kernel_rfl) (by kernel_rfl) Try.underlying4 hb⟩

theorem closedFacts : joinedFacts Try.pinned.checked.prog 6 Try.f6 Rows.fnExactAddItemSpec Rows.fnExactAddItemRow = true := by
 have h1 : Try.pinned.checked.prog.mayEnter = true := Closed.mayIn
 have h2 : (Rows.fnExactAddItemRow.lifted == Try.pinned.checked.prog.liftsFinal) = true := by
  rw [show Try.pinned.checked.prog.liftsFinal = false from Closed.liftsNone]; rfl
 have h3 : (Try.pinned.checked.prog.make == some Rows.fnExactAddItemRow.make) = true := by
  rw [show Try.pinned.checked.prog.make = some .cut from Closed.makeIs]; rfl
 unfold joinedFacts
 rw [h1, h2, h3]
 change _ = true
 kernel_rfl
theorem holds : Rows.FnExactAddItemSaid :=
 OpenClaim.holds_of_wide 6 Try.f6 rfl rfl rfl rfl rfl rfl rfl ⟨rfl, rfl, rfl, rfl, rfl⟩ rfl rfl rfl rfl rfl (by kernel_rfl) Try.func6 closedFacts
  (of_decide_eq_true (by kernel_rfl)) (by unfold Func.isWrapper; first | (rw [if_pos (by decide +kernel)]; kernel_rfl) | (rw [if_neg (by decide +kernel)]; exact ⟨rfl, rfl⟩))
  (fun os started H enc _ => lifted os started H enc)

#print axioms holds
end Go.Proofs.Ytojcdmgcbgpdmaa.lawFnExactAddItem
