import Derived.Test.YtojcdmgcbgpdmaaFnExactAutoItemP3
import Derived.Test.YtojcdmgcbgpdmaaClosed
import Derived.JoinedOf
import Derived.SizedLaws
import Derived.LaidLaws
import Derived.ShutString
import Derived.Stop.LaidErr
import Derived.Lib.LaidTab
import Derived.Deep.RegionHeld3
import Derived.Deep.DeepCutAuto
set_option linter.unusedSimpArgs false
namespace Go.Proofs.Ytojcdmgcbgpdmaa.lawFnExactAutoItem
open Go.ChangeShapes Go.WideShapes Go.ChangeAt Go.RowKit
open Go.ChangeMaps (open_string shut_string)
theorem own : ownKnob Try.prog.godebug = none := by kernel_rfl
theorem laidOut : laidOutB Try.prog = true := by kernel_rfl
open Mem Sl Bag
open Go.Proofs.Ytojcdmgcbgpdmaa.L5 (cellsF)
set_option maxRecDepth 100000 in
set_option maxHeartbeats 8000000 in
theorem walk (H : Type) (enc : TypeId × Value → H) (W : World) (base : Nat) (args : Array Value) (ds : List (DataW H)) (p : List MemPlace)
  (hval : ∀ (j : Nat) t v, Try.f7.params[j]? = some t → args[j]? = some v → Value.okWide Try.prog W .any base t v)
  (hA : DataW.TrodAll enc Try.prog W 0 (fun _ => true) true Try.f7.params.toList args.toList ds p)
  (hlt : ∀ x ∈ p, x.block < W.heap.size)
  (hsz : (DataW.weightsEach Try.prog (Try.f7.params.toList ++ Rows.fnExactAutoItemSpec.plain.varTypes Try.prog) (ds ++ [])).all (· ≤ reachBytes) = true) :
  Calls Try.prog 7 args W fun e w' => e = .returned (.bool true) ∧ Below W.heap.size W w' := by
 rw [Try.params7] at hA hval hsz
 obtain ⟨v0, vs0, d0, ds0, p0, q0, e0, rfl, rfl, h0, g0⟩ := trodAll_cons hA
 obtain ⟨v1, vs1, d1, ds1, p1, q1, e1, rfl, rfl, h1, g1⟩ := trodAll_cons g0
 obtain ⟨ez, rfl, rfl⟩ := trodAll_nil g1
 subst ez
 subst e1
 obtain rfl : args = #[v0, v1] := Array.toList_inj.1 e0
 clear e0
 obtain ⟨y0, rfl, hR0, hW0⟩ := L6.open_store (hval 0 57 v0 rfl rfl) h0 (fun x hx => hlt x (by simp [hx]))
 obtain ⟨a1, l1, c1, rfl, hR1, hW1, hM1⟩ := L5.open_record (hval 1 61 v1 rfl rfl) h1 (fun x hx => hlt x (by simp [hx]))
 clear hval hA hlt hsz h0 h1
 have HSZ0 := Lib.hid (fun q h0 h1 w' (h : Below W.heap.size W w') => L6.szStore_any y0 q hW0 h0 h1 w' ((hR0.below h).more h.size))
 have HRY0 := Lib.hid (fun w' (h : Below W.heap.size W w') => ((hR0.below h).more h.size : RowsRd w' w'.heap.size y0.rows))
 have HWA0 := Lib.hid hW0.auto
 clear hR0 hW0
 dsimp only [L6.LS.v, L6.LS.cells] at HSZ0
 have HSR1 := Lib.hid (fun (q : Int) (h0 : -1 ≤ q) (h1 : q ≤ 1048576) w' (h : Below W.heap.size W w') => L5.szRecord_any a1 c1 l1 q hW1 hM1 h0 h1 w' ((hR1.below h).more h.size))
 have HRR1 := Lib.hid (fun w' (h : Below W.heap.size W w') => ((hR1.below h).more h.size))
 clear hR1 hW1 hM1
 dsimp only [L6.LS.v, L6.LS.cells, L4.K.v, L4.R.v]
 have S1 := Lib.hid (show Sl.Sep W _ [_, _] from L4.push_box (L4.push_box (Sl.Sep.start W) 57 #[.string y0.name, .slice y0.a y0.xs.length y0.c, .int .i64 y0.auto] (W.heap.size) (by simp)) 61 #[.slice a1 l1.length c1] (W.heap.size + 1) (by simp))
 obtain ⟨wa, hwa⟩ : ∃ u, u = ((W.alloc (.cells #[.string y0.name, .slice y0.a y0.xs.length y0.c, .int .i64 y0.auto] 57)).alloc (.cells #[.slice a1 l1.length c1] 61)) := ⟨_, rfl⟩
 rw [← hwa] at S1
 go_enter Try.func7, Try.ntmps7
 go_upto_region 1 with fail
 rw [← hwa]
 clear hwa
 have f0 : World.cell? _ ⟨W.heap.size, 0, none⟩ = some (.string y0.name) := Bag.cell_at S1.out 0 rfl 0 rfl
 have f1 : World.cell? _ ⟨W.heap.size, 1, none⟩ = some (.slice y0.a y0.xs.length y0.c) := Bag.cell_at S1.out 0 rfl 1 rfl
 have f2 : World.cell? _ ⟨W.heap.size, 2, none⟩ = some (.int .i64 y0.auto) := Bag.cell_at S1.out 0 rfl 2 rfl
 go_wp2_with fail
 go_at_call 34
 have HC := HSZ0.out 1048576 (by omega) (by omega) _ S1.out.old
 try dsimp only [L6.LS.v, L6.LS.cells, L4.K.v, L4.R.v] at HC
 refine HC.mono ?_
 clear HC
 rintro e w1 ⟨u0, rfl, ro, hb⟩
 clear f0 f1 f2
 have S2 := Lib.hid (show Sl.Sep W _ [_, _] from S1.out.keep hb)
 clear S1
 clear hb
 have HRO0 := Lib.hid ro
 have X0 : -1 ≤ u0 ∧ u0 ≤ 1048576 := ⟨ro.1, ro.2.1⟩
 clear ro
 by_cases neg0 : u0 < 0
 ·
  skip
  go_wp2_with fail
  go_ret
  exact ⟨rfl, S2.out.old⟩
 have HF0 := Lib.hid (HRO0.out.2.2 (by omega))
 have f0 : World.cell? _ ⟨W.heap.size + 1, 0, none⟩ = some (.slice a1 l1.length c1) := Bag.cell_at S2.out 1 rfl 0 rfl
 go_wp2_with fail
 go_at_call 36
 have HC := HSR1.out u0 (by omega) (by omega) _ S2.out.old
 try dsimp only [L6.LS.v, L6.LS.cells, L4.K.v, L4.R.v] at HC
 refine HC.mono ?_
 clear HC
 rintro e w2 ⟨u1, rfl, ro, hb⟩
 clear f0
 have S3 := Lib.hid (show Sl.Sep W _ [_, _] from S2.out.keep hb)
 clear S2
 clear hb
 have HRO1 := Lib.hid ro
 have X1 : -1 ≤ u1 ∧ u1 ≤ 1048576 := ⟨ro.1, ro.2.1⟩
 clear ro
 by_cases neg1 : u1 < 0
 ·
  skip
  go_wp2_with fail
  go_ret
  exact ⟨rfl, S3.out.old⟩
 have HL1 := Lib.hid (HRO1.out.out neg1 (by omega))
 obtain ⟨C0, hC0⟩ : ∃ C, y0.con = C := ⟨_, rfl⟩
 rw [hC0] at HF0
 have HC0 := Lib.hid hC0
 clear hC0
 obtain ⟨r0', hr0'⟩ : ∃ r : L6.S6, L6.autoS C0 l1 = r := ⟨_, rfl⟩
 obtain ⟨r1', hr1'⟩ : ∃ r : L4.K, L6.autoR C0 l1 = r := ⟨_, rfl⟩
 obtain ⟨r2', hr2'⟩ : ∃ r : Bool, L6.autoB C0 l1 = r := ⟨_, rfl⟩
 have Cspec : ∀ (z0 : L6.LS), z0.con = C0 → ∀ (ra1 : Option Addr) (rc1 : Nat), ∀ w' : World, RowsRd w' w'.heap.size z0.rows → Reads w' w'.heap.size ra1 (cellsF l1) → Calls Try.prog 25 #[.agg #[.string z0.name, .slice z0.a z0.xs.length z0.c, .int .i64 z0.auto], .agg #[.slice ra1 l1.length rc1]] w' fun e w'' => ∃ z : L6.LS, e = .returned (.tuple #[.agg #[.string z.name, .slice z.a z.xs.length z.c, .int .i64 z.auto], .agg #[.int .i64 r1'.kind, .int .i64 r1'.n, .string r1'.text], .bool r2']) ∧ z.con = r0' ∧ BagOwn w'' w'.heap.size z.rows ∧ Below w'.heap.size w' w'' := by
  intro z0 hz0 ra1 rc1 w' hr0 hr1
  have hf0 : L6.FitS z0.con := by rw [hz0]; exact HF0.out
  have hau0 : -9223372036854775808 ≤ z0.auto := by
   have h1 := congrArg L6.S6.auto hz0
   have h2 := congrArg L6.S6.auto HC0.out
   have h3 := HWA0.out.1
   have h4 : z0.auto = C0.auto := h1
   have h5 : y0.auto = C0.auto := h2
   have h6 : -9223372036854775808 ≤ y0.auto := h3
   omega
  have h := L6.specAutoItem_any z0 ra1 rc1 l1 hf0 hau0 HL1.out.1 HL1.out.2 w' hr0 hr1
  rw [hz0, hr0', hr1', hr2'] at h
  exact h
 replace Cspec := Lib.hid Cspec
 have Cimpl : ∀ (z0 : L6.LS), z0.con = C0 → ∀ (ra1 : Option Addr) (rc1 : Nat), ∀ w' : World, RowsRd w' w'.heap.size z0.rows → Reads w' w'.heap.size ra1 (cellsF l1) → Calls Try.prog 24 #[.agg #[.string z0.name, .slice z0.a z0.xs.length z0.c, .int .i64 z0.auto], .agg #[.slice ra1 l1.length rc1]] w' fun e w'' => ∃ z : L6.LS, e = .returned (.tuple #[.agg #[.string z.name, .slice z.a z.xs.length z.c, .int .i64 z.auto], .agg #[.int .i64 r1'.kind, .int .i64 r1'.n, .string r1'.text], .bool r2']) ∧ z.con = r0' ∧ BagOwn w'' w'.heap.size z.rows ∧ Below w'.heap.size w' w'' := by
  intro z0 hz0 ra1 rc1 w' hr0 hr1
  have hf0 : L6.FitS z0.con := by rw [hz0]; exact HF0.out
  have hau0 : -9223372036854775808 ≤ z0.auto := by
   have h1 := congrArg L6.S6.auto hz0
   have h2 := congrArg L6.S6.auto HC0.out
   have h3 := HWA0.out.1
   have h4 : z0.auto = C0.auto := h1
   have h5 : y0.auto = C0.auto := h2
   have h6 : -9223372036854775808 ≤ y0.auto := h3
   omega
  have h := L6.autoItem_any z0 ra1 rc1 l1 hf0 hau0 HL1.out.1 HL1.out.2 w' hr0 hr1
  rw [hz0, hr0', hr1', hr2'] at h
  exact h
 replace Cimpl := Lib.hid Cimpl
 have HFR := Lib.hid (show L6.FitS r0' from by rw [← hr0']; exact L6.FitS_auto HF0.out HL1.out.1 HL1.out.2)
 clear hr0' hr1' hr2'
 have S4 := Lib.hid (show Sl.Sep W _ [_, _] from Bag.take S3.out [0, 1] (by rfl) (by decide))
 clear S3
 go_upto_region 8 with fail
 have HTO0 := Lib.hid (fun w' (h : Below W.heap.size W w') => L6.toStore_any y0 (by rw [HC0.out]; exact HF0.out) w' (HRY0.out w' h))
 try dsimp only [L6.LS.v, L6.LS.cells, L4.K.v, L4.R.v] at HTO0
 have HTO1 := Lib.hid (fun w' (h : Below W.heap.size W w') => L5.toRecord_any a1 c1 l1 (by have := HL1.out.1; omega) w' (HRR1.out w' h))
 try dsimp only [L6.LS.v, L6.LS.cells, L4.K.v, L4.R.v] at HTO1
 go_cut [6, 7, 8] (fun pz0 pz1 qs0 wx => ∃ (g1a' g1b' : Nat) (z1' : L6.LS), pz0 = .pointer (some ⟨g1a', 0, none⟩) ∧ pz1 = .pointer (some ⟨g1b', 0, none⟩) ∧ qs0 = .bool r2' ∧ Hid (z1'.con = r0' ∧ Sl.Sep W wx [L4.boxR W.heap.size 57 #[.string y0.name, .slice y0.a y0.xs.length y0.c, .int .i64 y0.auto], L4.boxR (W.heap.size + 1) 61 #[.slice a1 l1.length c1], Bag.bag z1'.rows, L4.boxR g1a' 26 #[.string z1'.name, .slice z1'.a z1'.xs.length z1'.c, .int .i64 z1'.auto], L4.boxR g1b' 28 #[.int .i64 r1'.kind, .int .i64 r1'.n, .string r1'.text]]))
 case first =>
  refine wp_region_held_drew (S := (fun w' => w'.cell? ⟨W.heap.size, 0, none⟩ = some (.string y0.name) ∧ w'.cell? ⟨W.heap.size, 1, none⟩ = some (.slice y0.a y0.xs.length y0.c) ∧ w'.cell? ⟨W.heap.size, 2, none⟩ = some (.int .i64 y0.auto) ∧ w'.cell? ⟨W.heap.size + 1, 0, none⟩ = some (.slice a1 l1.length c1))) (by kernel_rfl) ⟨Bag.cell_at S4.out 0 rfl 0 rfl, Bag.cell_at S4.out 0 rfl 1 rfl, Bag.cell_at S4.out 0 rfl 2 rfl, Bag.cell_at S4.out 1 rfl 0 rfl⟩ (fun hS => ?_)
  have S5 := Lib.hid (Bag.drew1 S4.out)
  clear S4
  generalize World.drew _ = w3 at hS S5 ⊢
  apply share7
  case main =>
   intro hrest
   refine tk 0 rfl ?_
   try simp only [zp0, zp1, zp2, zp3, zp4]
   refine tk 2 rfl ?_
   try simp only [zp0, zp1, zp2, zp3, zp4]
   refine wpAnyH_ready (rs := [1, 9, 10]) (by kernel_rfl) (by simp) ?_
   refine Reg.cons_op (i := 1) rfl (fun K hK => ?_) ?_
   go_simp
   go_at_call 37
   refine (HTO0.out _ S5.out.old).mono ?_
   rintro e w4 ⟨zs0, rfl, hcon, ho, hb⟩
   have S6 := Lib.hid (show Sl.Sep W _ [_, _, Bag.bag zs0.rows] from Bag.push_bag S5.out hb ho)
   clear hb ho
   have HZzs0 := Lib.hid (hcon.trans HC0.out)
   clear hcon
   go_wp2_with fail
   refine hK.out _ _ ⟨Bag.cell_at S6.out 0 rfl 0 rfl, Bag.cell_at S6.out 0 rfl 1 rfl, Bag.cell_at S6.out 0 rfl 2 rfl, Bag.cell_at S6.out 1 rfl 0 rfl⟩ (fun hS => ?_)
   clear hK K
   try simp only [zp0, zp1, zp2, zp3, zp4]
   refine wpAnyH_ready (rs := [3, 9, 10]) (by kernel_rfl) (by simp) ?_
   refine Reg.cons_op (i := 3) rfl (fun K hK => ?_) ?_
   go_simp
   go_at_call 39
   refine (HTO1.out _ S6.out.old).mono ?_
   rintro e w5 ⟨ar1, cr1, rfl, ho, hb⟩
   have S7 := Lib.hid (show Sl.Sep W _ [_, _, _, Sv.ownV 128 2 ar1 cr1 l1.length (cellsF l1)] from Sv.push_own S6.out hb ho)
   clear S6
   clear hb ho
   go_wp2_with fail
   refine hK.out _ _ ⟨Bag.cell_at S7.out 0 rfl 0 rfl, Bag.cell_at S7.out 0 rfl 1 rfl, Bag.cell_at S7.out 0 rfl 2 rfl, Bag.cell_at S7.out 1 rfl 0 rfl⟩ (fun hS => ?_)
   clear hK K
   try simp only [zp0, zp1, zp2, zp3, zp4]
   refine wpAnyH_ready (rs := [4, 9, 10]) (by kernel_rfl) (by simp) ?_
   refine Reg.cons_op (i := 4) rfl (fun K hK => ?_) ?_
   go_simp
   go_at_call 25
   refine (Cspec.out zs0 HZzs0.out ar1 cr1 _ (Bag.bag_rd S7.out 2 rfl) (Sv.own_at S7.out 3 rfl).reads).mono ?_
   rintro e w6 ⟨zr, rfl, hcon, ho, hb⟩
   have S8 := Lib.hid (show Sl.Sep W _ [_, _, _, _, Bag.bag zr.rows] from Bag.push_bag S7.out hb ho)
   clear S7
   clear hb ho
   have HZzr := Lib.hid hcon
   clear hcon
   go_wp2_with fail
   refine hK.out _ _ ⟨Bag.cell_at S8.out 0 rfl 0 rfl, Bag.cell_at S8.out 0 rfl 1 rfl, Bag.cell_at S8.out 0 rfl 2 rfl, Bag.cell_at S8.out 1 rfl 0 rfl⟩ (fun hS => ?_)
   clear hK K
   try simp only [zp0, zp1, zp2, zp3, zp4]
   refine tk 5 rfl ?_
   try simp only [zp0, zp1, zp2, zp3, zp4]
   refine tk 6 rfl ?_
   try simp only [zp0, zp1, zp2, zp3, zp4]
   refine tk 7 rfl ?_
   try simp only [zp0, zp1, zp2, zp3, zp4]
   refine tk 8 rfl ?_
   try simp only [zp0, zp1, zp2, zp3, zp4]
   refine wpAnyH_ready (rs := [9, 10]) (by kernel_rfl) (by simp) ?_
   refine Reg.cons_op (i := 9) rfl (fun K hK => ?_) ?_
   go_simp
   have S9 := Lib.hid (show Sl.Sep W _ [_, _, _, _, _, _] from L4.push_box S8.out 26 #[.string ⟨#[]⟩, .slice none 0 0, .int .i64 0] w6.heap.size rfl)
   clear S8
   obtain ⟨gb0, hg⟩ : ∃ g', g' = w6.heap.size := ⟨_, rfl⟩
   rw [← hg] at S9 ⊢
   clear hg
   generalize w6.alloc (.cells #[.string ⟨#[]⟩, .slice none 0 0, .int .i64 0] 26) = w7 at S9 ⊢
   refine hK.out _ _ ⟨Bag.cell_at S9.out 0 rfl 0 rfl, Bag.cell_at S9.out 0 rfl 1 rfl, Bag.cell_at S9.out 0 rfl 2 rfl, Bag.cell_at S9.out 1 rfl 0 rfl⟩ (fun hS => ?_)
   clear hK K
   try simp only [zp0, zp1, zp2, zp3, zp4]
   refine Reg.one_op (i := 10) rfl (by kernel_rfl) (fun K hK => ?_)
   go_simp
   have S10 := Lib.hid (show Sl.Sep W _ [_, _, _, _, _, _, _] from L4.push_box S9.out 28 #[.int .i64 0, .int .i64 0, .string ⟨#[]⟩] w7.heap.size rfl)
   clear S9
   obtain ⟨gb1, hg⟩ : ∃ g', g' = w7.heap.size := ⟨_, rfl⟩
   rw [← hg] at S10 ⊢
   clear hg
   generalize w7.alloc (.cells #[.int .i64 0, .int .i64 0, .string ⟨#[]⟩] 28) = w8 at S10 ⊢
   refine hK.out _ _ ⟨Bag.cell_at S10.out 0 rfl 0 rfl, Bag.cell_at S10.out 0 rfl 1 rfl, Bag.cell_at S10.out 0 rfl 2 rfl, Bag.cell_at S10.out 1 rfl 0 rfl⟩ (fun hS => ?_)
   clear hK K
   try simp only [zp0, zp1, zp2, zp3, zp4]
   have S11 := Lib.hid (show Sl.Sep W _ [_, _, _, _, L4.boxR gb1 28 #[.int .i64 0, .int .i64 0, .string ⟨#[]⟩]] from Bag.take S10.out [0, 1, 4, 5, 6] (by rfl) (by decide))
   clear S10
   revert S11
   revert HZzr
   revert hS
   exact hrest gb0 gb1 zr zs0 ar1 cr1 w8
   refine Reg.cons_op (i := 10) rfl (fun K hK => ?_) ?_
   go_simp
   have S9 := Lib.hid (show Sl.Sep W _ [_, _, _, _, _, _] from L4.push_box S8.out 28 #[.int .i64 0, .int .i64 0, .string ⟨#[]⟩] w6.heap.size rfl)
   clear S8
   obtain ⟨gb1, hg⟩ : ∃ g', g' = w6.heap.size := ⟨_, rfl⟩
   rw [← hg] at S9 ⊢
   clear hg
   generalize w6.alloc (.cells #[.int .i64 0, .int .i64 0, .string ⟨#[]⟩] 28) = w7 at S9 ⊢
   refine hK.out _ _ ⟨Bag.cell_at S9.out 0 rfl 0 rfl, Bag.cell_at S9.out 0 rfl 1 rfl, Bag.cell_at S9.out 0 rfl 2 rfl, Bag.cell_at S9.out 1 rfl 0 rfl⟩ (fun hS => ?_)
   clear hK K
   try simp only [zp0, zp1, zp2, zp3, zp4]
   refine Reg.one_op (i := 9) rfl (by kernel_rfl) (fun K hK => ?_)
   go_simp
   have S10 := Lib.hid (show Sl.Sep W _ [_, _, _, _, _, _, _] from L4.push_box S9.out 26 #[.string ⟨#[]⟩, .slice none 0 0, .int .i64 0] w7.heap.size rfl)
   clear S9
   obtain ⟨gb0, hg⟩ : ∃ g', g' = w7.heap.size := ⟨_, rfl⟩
   rw [← hg] at S10 ⊢
   clear hg
   generalize w7.alloc (.cells #[.string ⟨#[]⟩, .slice none 0 0, .int .i64 0] 26) = w8 at S10 ⊢
   refine hK.out _ _ ⟨Bag.cell_at S10.out 0 rfl 0 rfl, Bag.cell_at S10.out 0 rfl 1 rfl, Bag.cell_at S10.out 0 rfl 2 rfl, Bag.cell_at S10.out 1 rfl 0 rfl⟩ (fun hS => ?_)
   clear hK K
   try simp only [zp0, zp1, zp2, zp3, zp4]
   have S11 := Lib.hid (show Sl.Sep W _ [_, _, _, L4.boxR gb0 26 #[.string ⟨#[]⟩, .slice none 0 0, .int .i64 0], _] from Bag.take S10.out [0, 1, 4, 6, 5] (by rfl) (by decide))
   clear S10
   revert S11
   revert HZzr
   revert hS
   exact hrest gb0 gb1 zr zs0 ar1 cr1 w8
   exact AllReadyH.nil
   refine Reg.cons_op (i := 9) rfl (fun K hK => ?_) ?_
   go_simp
   have S8 := Lib.hid (show Sl.Sep W _ [_, _, _, _, _] from L4.push_box S7.out 26 #[.string ⟨#[]⟩, .slice none 0 0, .int .i64 0] w5.heap.size rfl)
   clear S7
   obtain ⟨gb0, hg⟩ : ∃ g', g' = w5.heap.size := ⟨_, rfl⟩
   rw [← hg] at S8 ⊢
   clear hg
   generalize w5.alloc (.cells #[.string ⟨#[]⟩, .slice none 0 0, .int .i64 0] 26) = w6 at S8 ⊢
   refine hK.out _ _ ⟨Bag.cell_at S8.out 0 rfl 0 rfl, Bag.cell_at S8.out 0 rfl 1 rfl, Bag.cell_at S8.out 0 rfl 2 rfl, Bag.cell_at S8.out 1 rfl 0 rfl⟩ (fun hS => ?_)
   clear hK K
   try simp only [zp0, zp1, zp2, zp3, zp4]
   refine wpAnyH_ready (rs := [4, 10]) (by kernel_rfl) (by simp) ?_
   refine Reg.cons_op (i := 4) rfl (fun K hK => ?_) ?_
   go_simp
   go_at_call 25
   refine (Cspec.out zs0 HZzs0.out ar1 cr1 _ (Bag.bag_rd S8.out 2 rfl) (Sv.own_at S8.out 3 rfl).reads).mono ?_
   rintro e w7 ⟨zr, rfl, hcon, ho, hb⟩
   have S9 := Lib.hid (show Sl.Sep W _ [_, _, _, _, L4.boxR gb0 26 #[.string ⟨#[]⟩, .slice none 0 0, .int .i64 0], Bag.bag zr.rows] from Bag.push_bag S8.out hb ho)
   clear S8
   clear hb ho
   have HZzr := Lib.hid hcon
   clear hcon
   go_wp2_with fail
   refine hK.out _ _ ⟨Bag.cell_at S9.out 0 rfl 0 rfl, Bag.cell_at S9.out 0 rfl 1 rfl, Bag.cell_at S9.out 0 rfl 2 rfl, Bag.cell_at S9.out 1 rfl 0 rfl⟩ (fun hS => ?_)
   clear hK K
   try simp only [zp0, zp1, zp2, zp3, zp4]
   refine tk 5 rfl ?_
   try simp only [zp0, zp1, zp2, zp3, zp4]
   refine tk 6 rfl ?_
   try simp only [zp0, zp1, zp2, zp3, zp4]
   refine tk 7 rfl ?_
   try simp only [zp0, zp1, zp2, zp3, zp4]
   refine tk 8 rfl ?_
   try simp only [zp0, zp1, zp2, zp3, zp4]
   refine Reg.one_op (i := 10) rfl (by kernel_rfl) (fun K hK => ?_)
   go_simp
   have S10 := Lib.hid (show Sl.Sep W _ [_, _, _, _, _, _, _] from L4.push_box S9.out 28 #[.int .i64 0, .int .i64 0, .string ⟨#[]⟩] w7.heap.size rfl)
   clear S9
   obtain ⟨gb1, hg⟩ : ∃ g', g' = w7.heap.size := ⟨_, rfl⟩
   rw [← hg] at S10 ⊢
   clear hg
   generalize w7.alloc (.cells #[.int .i64 0, .int .i64 0, .string ⟨#[]⟩] 28) = w8 at S10 ⊢
   refine hK.out _ _ ⟨Bag.cell_at S10.out 0 rfl 0 rfl, Bag.cell_at S10.out 0 rfl 1 rfl, Bag.cell_at S10.out 0 rfl 2 rfl, Bag.cell_at S10.out 1 rfl 0 rfl⟩ (fun hS => ?_)
   clear hK K
   try simp only [zp0, zp1, zp2, zp3, zp4]
   have S11 := Lib.hid (show Sl.Sep W _ [_, _, _, _, L4.boxR gb1 28 #[.int .i64 0, .int .i64 0, .string ⟨#[]⟩]] from Bag.take S10.out [0, 1, 5, 4, 6] (by rfl) (by decide))
   clear S10
   revert S11
   revert HZzr
   revert hS
   exact hrest gb0 gb1 zr zs0 ar1 cr1 w8
   refine Reg.cons_op (i := 10) rfl (fun K hK => ?_) ?_
   go_simp
   have S9 := Lib.hid (show Sl.Sep W _ [_, _, _, _, _, _] from L4.push_box S8.out 28 #[.int .i64 0, .int .i64 0, .string ⟨#[]⟩] w6.heap.size rfl)
   clear S8
   obtain ⟨gb1, hg⟩ : ∃ g', g' = w6.heap.size := ⟨_, rfl⟩
   rw [← hg] at S9 ⊢
   clear hg
   generalize w6.alloc (.cells #[.int .i64 0, .int .i64 0, .string ⟨#[]⟩] 28) = w7 at S9 ⊢
   refine hK.out _ _ ⟨Bag.cell_at S9.out 0 rfl 0 rfl, Bag.cell_at S9.out 0 rfl 1 rfl, Bag.cell_at S9.out 0 rfl 2 rfl, Bag.cell_at S9.out 1 rfl 0 rfl⟩ (fun hS => ?_)
   clear hK K
   try simp only [zp0, zp1, zp2, zp3, zp4]
   refine Reg.one_op (i := 4) rfl (by kernel_rfl) (fun K hK => ?_)
   go_simp
   go_at_call 25
   refine (Cspec.out zs0 HZzs0.out ar1 cr1 _ (Bag.bag_rd S9.out 2 rfl) (Sv.own_at S9.out 3 rfl).reads).mono ?_
   rintro e w8 ⟨zr, rfl, hcon, ho, hb⟩
   have S10 := Lib.hid (show Sl.Sep W _ [_, _, _, _, _, L4.boxR gb1 28 #[.int .i64 0, .int .i64 0, .string ⟨#[]⟩], Bag.bag zr.rows] from Bag.push_bag S9.out hb ho)
   clear S9
   clear hb ho
   have HZzr := Lib.hid hcon
   clear hcon
   go_wp2_with fail
   refine hK.out _ _ ⟨Bag.cell_at S10.out 0 rfl 0 rfl, Bag.cell_at S10.out 0 rfl 1 rfl, Bag.cell_at S10.out 0 rfl 2 rfl, Bag.cell_at S10.out 1 rfl 0 rfl⟩ (fun hS => ?_)
   clear hK K
   try simp only [zp0, zp1, zp2, zp3, zp4]
   refine tk 5 rfl ?_
   try simp only [zp0, zp1, zp2, zp3, zp4]
   refine tk 6 rfl ?_
   try simp only [zp0, zp1, zp2, zp3, zp4]
   refine tk 7 rfl ?_
   try simp only [zp0, zp1, zp2, zp3, zp4]
   refine tk 8 rfl ?_
   try simp only [zp0, zp1, zp2, zp3, zp4]
   have S11 := Lib.hid (show Sl.Sep W _ [_, _, _, _, _] from Bag.take S10.out [0, 1, 6, 4, 5] (by rfl) (by decide))
   clear S10
   revert S11
   revert HZzr
   revert hS
   exact hrest gb0 gb1 zr zs0 ar1 cr1 w8
   exact AllReadyH.nil
   refine Reg.cons_op (i := 10) rfl (fun K hK => ?_) ?_
   go_simp
   have S8 := Lib.hid (show Sl.Sep W _ [_, _, _, _, _] from L4.push_box S7.out 28 #[.int .i64 0, .int .i64 0, .string ⟨#[]⟩] w5.heap.size rfl)
   clear S7
   obtain ⟨gb1, hg⟩ : ∃ g', g' = w5.heap.size := ⟨_, rfl⟩
   rw [← hg] at S8 ⊢
   clear hg
   generalize w5.alloc (.cells #[.int .i64 0, .int .i64 0, .string ⟨#[]⟩] 28) = w6 at S8 ⊢
   refine hK.out _ _ ⟨Bag.cell_at S8.out 0 rfl 0 rfl, Bag.cell_at S8.out 0 rfl 1 rfl, Bag.cell_at S8.out 0 rfl 2 rfl, Bag.cell_at S8.out 1 rfl 0 rfl⟩ (fun hS => ?_)
   clear hK K
   try simp only [zp0, zp1, zp2, zp3, zp4]
   refine wpAnyH_ready (rs := [4, 9]) (by kernel_rfl) (by simp) ?_
   refine Reg.cons_op (i := 4) rfl (fun K hK => ?_) ?_
   go_simp
   go_at_call 25
   refine (Cspec.out zs0 HZzs0.out ar1 cr1 _ (Bag.bag_rd S8.out 2 rfl) (Sv.own_at S8.out 3 rfl).reads).mono ?_
   rintro e w7 ⟨zr, rfl, hcon, ho, hb⟩
   have S9 := Lib.hid (show Sl.Sep W _ [_, _, _, _, L4.boxR gb1 28 #[.int .i64 0, .int .i64 0, .string ⟨#[]⟩], Bag.bag zr.rows] from Bag.push_bag S8.out hb ho)
   clear S8
   clear hb ho
   have HZzr := Lib.hid hcon
   clear hcon
   go_wp2_with fail
   refine hK.out _ _ ⟨Bag.cell_at S9.out 0 rfl 0 rfl, Bag.cell_at S9.out 0 rfl 1 rfl, Bag.cell_at S9.out 0 rfl 2 rfl, Bag.cell_at S9.out 1 rfl 0 rfl⟩ (fun hS => ?_)
   clear hK K
   try simp only [zp0, zp1, zp2, zp3, zp4]
   refine tk 5 rfl ?_
   try simp only [zp0, zp1, zp2, zp3, zp4]
   refine tk 6 rfl ?_
   try simp only [zp0, zp1, zp2, zp3, zp4]
   refine tk 7 rfl ?_
   try simp only [zp0, zp1, zp2, zp3, zp4]
   refine tk 8 rfl ?_
   try simp only [zp0, zp1, zp2, zp3, zp4]
   refine Reg.one_op (i := 9) rfl (by kernel_rfl) (fun K hK => ?_)
   go_simp
   have S10 := Lib.hid (show Sl.Sep W _ [_, _, _, _, _, _, _] from L4.push_box S9.out 26 #[.string ⟨#[]⟩, .slice none 0 0, .int .i64 0] w7.heap.size rfl)
   clear S9
   obtain ⟨gb0, hg⟩ : ∃ g', g' = w7.heap.size := ⟨_, rfl⟩
   rw [← hg] at S10 ⊢
   clear hg
   generalize w7.alloc (.cells #[.string ⟨#[]⟩, .slice none 0 0, .int .i64 0] 26) = w8 at S10 ⊢
   refine hK.out _ _ ⟨Bag.cell_at S10.out 0 rfl 0 rfl, Bag.cell_at S10.out 0 rfl 1 rfl, Bag.cell_at S10.out 0 rfl 2 rfl, Bag.cell_at S10.out 1 rfl 0 rfl⟩ (fun hS => ?_)
   clear hK K
   try simp only [zp0, zp1, zp2, zp3, zp4]
   have S11 := Lib.hid (show Sl.Sep W _ [_, _, _, L4.boxR gb0 26 #[.string ⟨#[]⟩, .slice none 0 0, .int .i64 0], _] from Bag.take S10.out [0, 1, 5, 6, 4] (by rfl) (by decide))
   clear S10
   revert S11
   revert HZzr
   revert hS
   exact hrest gb0 gb1 zr zs0 ar1 cr1 w8
   refine Reg.cons_op (i := 9) rfl (fun K hK => ?_) ?_
   go_simp
   have S9 := Lib.hid (show Sl.Sep W _ [_, _, _, _, _, _] from L4.push_box S8.out 26 #[.string ⟨#[]⟩, .slice none 0 0, .int .i64 0] w6.heap.size rfl)
   clear S8
   obtain ⟨gb0, hg⟩ : ∃ g', g' = w6.heap.size := ⟨_, rfl⟩
   rw [← hg] at S9 ⊢
   clear hg
   generalize w6.alloc (.cells #[.string ⟨#[]⟩, .slice none 0 0, .int .i64 0] 26) = w7 at S9 ⊢
   refine hK.out _ _ ⟨Bag.cell_at S9.out 0 rfl 0 rfl, Bag.cell_at S9.out 0 rfl 1 rfl, Bag.cell_at S9.out 0 rfl 2 rfl, Bag.cell_at S9.out 1 rfl 0 rfl⟩ (fun hS => ?_)
   clear hK K
   try simp only [zp0, zp1, zp2, zp3, zp4]
   refine Reg.one_op (i := 4) rfl (by kernel_rfl) (fun K hK => ?_)
   go_simp
   go_at_call 25
   refine (Cspec.out zs0 HZzs0.out ar1 cr1 _ (Bag.bag_rd S9.out 2 rfl) (Sv.own_at S9.out 3 rfl).reads).mono ?_
   rintro e w8 ⟨zr, rfl, hcon, ho, hb⟩
   have S10 := Lib.hid (show Sl.Sep W _ [_, _, _, _, _, L4.boxR gb0 26 #[.string ⟨#[]⟩, .slice none 0 0, .int .i64 0], Bag.bag zr.rows] from Bag.push_bag S9.out hb ho)
   clear S9
   clear hb ho
   have HZzr := Lib.hid hcon
   clear hcon
   go_wp2_with fail
   refine hK.out _ _ ⟨Bag.cell_at S10.out 0 rfl 0 rfl, Bag.cell_at S10.out 0 rfl 1 rfl, Bag.cell_at S10.out 0 rfl 2 rfl, Bag.cell_at S10.out 1 rfl 0 rfl⟩ (fun hS => ?_)
   clear hK K
   try simp only [zp0, zp1, zp2, zp3, zp4]
   refine tk 5 rfl ?_
   try simp only [zp0, zp1, zp2, zp3, zp4]
   refine tk 6 rfl ?_
   try simp only [zp0, zp1, zp2, zp3, zp4]
   refine tk 7 rfl ?_
   try simp only [zp0, zp1, zp2, zp3, zp4]
   refine tk 8 rfl ?_
   try simp only [zp0, zp1, zp2, zp3, zp4]
   have S11 := Lib.hid (show Sl.Sep W _ [_, _, _, _, _] from Bag.take S10.out [0, 1, 6, 5, 4] (by rfl) (by decide))
   clear S10
   revert S11
   revert HZzr
   revert hS
   exact hrest gb0 gb1 zr zs0 ar1 cr1 w8
   exact AllReadyH.nil
   exact AllReadyH.nil
   refine Reg.cons_op (i := 9) rfl (fun K hK => ?_) ?_
   go_simp
   have S7 := Lib.hid (show Sl.Sep W _ [_, _, _, _] from L4.push_box S6.out 26 #[.string ⟨#[]⟩, .slice none 0 0, .int .i64 0] w4.heap.size rfl)
   clear S6
   obtain ⟨gb0, hg⟩ : ∃ g', g' = w4.heap.size := ⟨_, rfl⟩
   rw [← hg] at S7 ⊢
   clear hg
   generalize w4.alloc (.cells #[.string ⟨#[]⟩, .slice none 0 0, .int .i64 0] 26) = w5 at S7 ⊢
   refine hK.out _ _ ⟨Bag.cell_at S7.out 0 rfl 0 rfl, Bag.cell_at S7.out 0 rfl 1 rfl, Bag.cell_at S7.out 0 rfl 2 rfl, Bag.cell_at S7.out 1 rfl 0 rfl⟩ (fun hS => ?_)
   clear hK K
   try simp only [zp0, zp1, zp2, zp3, zp4]
   refine wpAnyH_ready (rs := [3, 10]) (by kernel_rfl) (by simp) ?_
   refine Reg.cons_op (i := 3) rfl (fun K hK => ?_) ?_
   go_simp
   go_at_call 39
   refine (HTO1.out _ S7.out.old).mono ?_
   rintro e w6 ⟨ar1, cr1, rfl, ho, hb⟩
   have S8 := Lib.hid (show Sl.Sep W _ [_, _, _, L4.boxR gb0 26 #[.string ⟨#[]⟩, .slice none 0 0, .int .i64 0], Sv.ownV 128 2 ar1 cr1 l1.length (cellsF l1)] from Sv.push_own S7.out hb ho)
   clear S7
   clear hb ho
   go_wp2_with fail
   refine hK.out _ _ ⟨Bag.cell_at S8.out 0 rfl 0 rfl, Bag.cell_at S8.out 0 rfl 1 rfl, Bag.cell_at S8.out 0 rfl 2 rfl, Bag.cell_at S8.out 1 rfl 0 rfl⟩ (fun hS => ?_)
   clear hK K
   try simp only [zp0, zp1, zp2, zp3, zp4]
   refine wpAnyH_ready (rs := [4, 10]) (by kernel_rfl) (by simp) ?_
   refine Reg.cons_op (i := 4) rfl (fun K hK => ?_) ?_
   go_simp
   go_at_call 25
   refine (Cspec.out zs0 HZzs0.out ar1 cr1 _ (Bag.bag_rd S8.out 2 rfl) (Sv.own_at S8.out 4 rfl).reads).mono ?_
   rintro e w7 ⟨zr, rfl, hcon, ho, hb⟩
   have S9 := Lib.hid (show Sl.Sep W _ [_, _, _, _, _, Bag.bag zr.rows] from Bag.push_bag S8.out hb ho)
   clear S8
   clear hb ho
   have HZzr := Lib.hid hcon
   clear hcon
   go_wp2_with fail
   refine hK.out _ _ ⟨Bag.cell_at S9.out 0 rfl 0 rfl, Bag.cell_at S9.out 0 rfl 1 rfl, Bag.cell_at S9.out 0 rfl 2 rfl, Bag.cell_at S9.out 1 rfl 0 rfl⟩ (fun hS => ?_)
   clear hK K
   try simp only [zp0, zp1, zp2, zp3, zp4]
   refine tk 5 rfl ?_
   try simp only [zp0, zp1, zp2, zp3, zp4]
   refine tk 6 rfl ?_
   try simp only [zp0, zp1, zp2, zp3, zp4]
   refine tk 7 rfl ?_
   try simp only [zp0, zp1, zp2, zp3, zp4]
   refine tk 8 rfl ?_
   try simp only [zp0, zp1, zp2, zp3, zp4]
   refine Reg.one_op (i := 10) rfl (by kernel_rfl) (fun K hK => ?_)
   go_simp
   have S10 := Lib.hid (show Sl.Sep W _ [_, _, _, _, _, _, _] from L4.push_box S9.out 28 #[.int .i64 0, .int .i64 0, .string ⟨#[]⟩] w7.heap.size rfl)
   clear S9
   obtain ⟨gb1, hg⟩ : ∃ g', g' = w7.heap.size := ⟨_, rfl⟩
   rw [← hg] at S10 ⊢
   clear hg
   generalize w7.alloc (.cells #[.int .i64 0, .int .i64 0, .string ⟨#[]⟩] 28) = w8 at S10 ⊢
   refine hK.out _ _ ⟨Bag.cell_at S10.out 0 rfl 0 rfl, Bag.cell_at S10.out 0 rfl 1 rfl, Bag.cell_at S10.out 0 rfl 2 rfl, Bag.cell_at S10.out 1 rfl 0 rfl⟩ (fun hS => ?_)
   clear hK K
   try simp only [zp0, zp1, zp2, zp3, zp4]
   have S11 := Lib.hid (show Sl.Sep W _ [_, _, _, _, L4.boxR gb1 28 #[.int .i64 0, .int .i64 0, .string ⟨#[]⟩]] from Bag.take S10.out [0, 1, 5, 3, 6] (by rfl) (by decide))
   clear S10
   revert S11
   revert HZzr
   revert hS
   exact hrest gb0 gb1 zr zs0 ar1 cr1 w8
   refine Reg.cons_op (i := 10) rfl (fun K hK => ?_) ?_
   go_simp
   have S9 := Lib.hid (show Sl.Sep W _ [_, _, _, _, _, _] from L4.push_box S8.out 28 #[.int .i64 0, .int .i64 0, .string ⟨#[]⟩] w6.heap.size rfl)
   clear S8
   obtain ⟨gb1, hg⟩ : ∃ g', g' = w6.heap.size := ⟨_, rfl⟩
   rw [← hg] at S9 ⊢
   clear hg
   generalize w6.alloc (.cells #[.int .i64 0, .int .i64 0, .string ⟨#[]⟩] 28) = w7 at S9 ⊢
   refine hK.out _ _ ⟨Bag.cell_at S9.out 0 rfl 0 rfl, Bag.cell_at S9.out 0 rfl 1 rfl, Bag.cell_at S9.out 0 rfl 2 rfl, Bag.cell_at S9.out 1 rfl 0 rfl⟩ (fun hS => ?_)
   clear hK K
   try simp only [zp0, zp1, zp2, zp3, zp4]
   refine Reg.one_op (i := 4) rfl (by kernel_rfl) (fun K hK => ?_)
   go_simp
   go_at_call 25
   refine (Cspec.out zs0 HZzs0.out ar1 cr1 _ (Bag.bag_rd S9.out 2 rfl) (Sv.own_at S9.out 4 rfl).reads).mono ?_
   rintro e w8 ⟨zr, rfl, hcon, ho, hb⟩
   have S10 := Lib.hid (show Sl.Sep W _ [_, _, _, _, _, L4.boxR gb1 28 #[.int .i64 0, .int .i64 0, .string ⟨#[]⟩], Bag.bag zr.rows] from Bag.push_bag S9.out hb ho)
   clear S9
   clear hb ho
   have HZzr := Lib.hid hcon
   clear hcon
   go_wp2_with fail
   refine hK.out _ _ ⟨Bag.cell_at S10.out 0 rfl 0 rfl, Bag.cell_at S10.out 0 rfl 1 rfl, Bag.cell_at S10.out 0 rfl 2 rfl, Bag.cell_at S10.out 1 rfl 0 rfl⟩ (fun hS => ?_)
   clear hK K
   try simp only [zp0, zp1, zp2, zp3, zp4]
   refine tk 5 rfl ?_
   try simp only [zp0, zp1, zp2, zp3, zp4]
   refine tk 6 rfl ?_
   try simp only [zp0, zp1, zp2, zp3, zp4]
   refine tk 7 rfl ?_
   try simp only [zp0, zp1, zp2, zp3, zp4]
   refine tk 8 rfl ?_
   try simp only [zp0, zp1, zp2, zp3, zp4]
   have S11 := Lib.hid (show Sl.Sep W _ [_, _, _, _, _] from Bag.take S10.out [0, 1, 6, 3, 5] (by rfl) (by decide))
   clear S10
   revert S11
   revert HZzr
   revert hS
   exact hrest gb0 gb1 zr zs0 ar1 cr1 w8
   exact AllReadyH.nil
   refine Reg.cons_op (i := 10) rfl (fun K hK => ?_) ?_
   go_simp
   have S8 := Lib.hid (show Sl.Sep W _ [_, _, _, _, _] from L4.push_box S7.out 28 #[.int .i64 0, .int .i64 0, .string ⟨#[]⟩] w5.heap.size rfl)
   clear S7
   obtain ⟨gb1, hg⟩ : ∃ g', g' = w5.heap.size := ⟨_, rfl⟩
   rw [← hg] at S8 ⊢
   clear hg
   generalize w5.alloc (.cells #[.int .i64 0, .int .i64 0, .string ⟨#[]⟩] 28) = w6 at S8 ⊢
   refine hK.out _ _ ⟨Bag.cell_at S8.out 0 rfl 0 rfl, Bag.cell_at S8.out 0 rfl 1 rfl, Bag.cell_at S8.out 0 rfl 2 rfl, Bag.cell_at S8.out 1 rfl 0 rfl⟩ (fun hS => ?_)
   clear hK K
   try simp only [zp0, zp1, zp2, zp3, zp4]
   refine Reg.one_op (i := 3) rfl (by kernel_rfl) (fun K hK => ?_)
   go_simp
   go_at_call 39
   refine (HTO1.out _ S8.out.old).mono ?_
   rintro e w7 ⟨ar1, cr1, rfl, ho, hb⟩
   have S9 := Lib.hid (show Sl.Sep W _ [_, _, _, _, L4.boxR gb1 28 #[.int .i64 0, .int .i64 0, .string ⟨#[]⟩], Sv.ownV 128 2 ar1 cr1 l1.length (cellsF l1)] from Sv.push_own S8.out hb ho)
   clear S8
   clear hb ho
   go_wp2_with fail
   refine hK.out _ _ ⟨Bag.cell_at S9.out 0 rfl 0 rfl, Bag.cell_at S9.out 0 rfl 1 rfl, Bag.cell_at S9.out 0 rfl 2 rfl, Bag.cell_at S9.out 1 rfl 0 rfl⟩ (fun hS => ?_)
   clear hK K
   try simp only [zp0, zp1, zp2, zp3, zp4]
   refine Reg.one_op (i := 4) rfl (by kernel_rfl) (fun K hK => ?_)
   go_simp
   go_at_call 25
   refine (Cspec.out zs0 HZzs0.out ar1 cr1 _ (Bag.bag_rd S9.out 2 rfl) (Sv.own_at S9.out 5 rfl).reads).mono ?_
   rintro e w8 ⟨zr, rfl, hcon, ho, hb⟩
   have S10 := Lib.hid (show Sl.Sep W _ [_, _, _, _, _, _, Bag.bag zr.rows] from Bag.push_bag S9.out hb ho)
   clear S9
   clear hb ho
   have HZzr := Lib.hid hcon
   clear hcon
   go_wp2_with fail
   refine hK.out _ _ ⟨Bag.cell_at S10.out 0 rfl 0 rfl, Bag.cell_at S10.out 0 rfl 1 rfl, Bag.cell_at S10.out 0 rfl 2 rfl, Bag.cell_at S10.out 1 rfl 0 rfl⟩ (fun hS => ?_)
   clear hK K
   try simp only [zp0, zp1, zp2, zp3, zp4]
   refine tk 5 rfl ?_
   try simp only [zp0, zp1, zp2, zp3, zp4]
   refine tk 6 rfl ?_
   try simp only [zp0, zp1, zp2, zp3, zp4]
   refine tk 7 rfl ?_
   try simp only [zp0, zp1, zp2, zp3, zp4]
   refine tk 8 rfl ?_
   try simp only [zp0, zp1, zp2, zp3, zp4]
   have S11 := Lib.hid (show Sl.Sep W _ [_, _, _, _, _] from Bag.take S10.out [0, 1, 6, 3, 4] (by rfl) (by decide))
   clear S10
   revert S11
   revert HZzr
   revert hS
   exact hrest gb0 gb1 zr zs0 ar1 cr1 w8
   exact AllReadyH.nil
   refine Reg.cons_op (i := 10) rfl (fun K hK => ?_) ?_
   go_simp
   have S7 := Lib.hid (show Sl.Sep W _ [_, _, _, _] from L4.push_box S6.out 28 #[.int .i64 0, .int .i64 0, .string ⟨#[]⟩] w4.heap.size rfl)
   clear S6
   obtain ⟨gb1, hg⟩ : ∃ g', g' = w4.heap.size := ⟨_, rfl⟩
   rw [← hg] at S7 ⊢
   clear hg
   generalize w4.alloc (.cells #[.int .i64 0, .int .i64 0, .string ⟨#[]⟩] 28) = w5 at S7 ⊢
   refine hK.out _ _ ⟨Bag.cell_at S7.out 0 rfl 0 rfl, Bag.cell_at S7.out 0 rfl 1 rfl, Bag.cell_at S7.out 0 rfl 2 rfl, Bag.cell_at S7.out 1 rfl 0 rfl⟩ (fun hS => ?_)
   clear hK K
   try simp only [zp0, zp1, zp2, zp3, zp4]
   refine wpAnyH_ready (rs := [3, 9]) (by kernel_rfl) (by simp) ?_
   refine Reg.cons_op (i := 3) rfl (fun K hK => ?_) ?_
   go_simp
   go_at_call 39
   refine (HTO1.out _ S7.out.old).mono ?_
   rintro e w6 ⟨ar1, cr1, rfl, ho, hb⟩
   have S8 := Lib.hid (show Sl.Sep W _ [_, _, _, L4.boxR gb1 28 #[.int .i64 0, .int .i64 0, .string ⟨#[]⟩], Sv.ownV 128 2 ar1 cr1 l1.length (cellsF l1)] from Sv.push_own S7.out hb ho)
   clear S7
   clear hb ho
   go_wp2_with fail
   refine hK.out _ _ ⟨Bag.cell_at S8.out 0 rfl 0 rfl, Bag.cell_at S8.out 0 rfl 1 rfl, Bag.cell_at S8.out 0 rfl 2 rfl, Bag.cell_at S8.out 1 rfl 0 rfl⟩ (fun hS => ?_)
   clear hK K
   try simp only [zp0, zp1, zp2, zp3, zp4]
   refine wpAnyH_ready (rs := [4, 9]) (by kernel_rfl) (by simp) ?_
   refine Reg.cons_op (i := 4) rfl (fun K hK => ?_) ?_
   go_simp
   go_at_call 25
   refine (Cspec.out zs0 HZzs0.out ar1 cr1 _ (Bag.bag_rd S8.out 2 rfl) (Sv.own_at S8.out 4 rfl).reads).mono ?_
   rintro e w7 ⟨zr, rfl, hcon, ho, hb⟩
   have S9 := Lib.hid (show Sl.Sep W _ [_, _, _, _, _, Bag.bag zr.rows] from Bag.push_bag S8.out hb ho)
   clear S8
   clear hb ho
   have HZzr := Lib.hid hcon
   clear hcon
   go_wp2_with fail
   refine hK.out _ _ ⟨Bag.cell_at S9.out 0 rfl 0 rfl, Bag.cell_at S9.out 0 rfl 1 rfl, Bag.cell_at S9.out 0 rfl 2 rfl, Bag.cell_at S9.out 1 rfl 0 rfl⟩ (fun hS => ?_)
   clear hK K
   try simp only [zp0, zp1, zp2, zp3, zp4]
   refine tk 5 rfl ?_
   try simp only [zp0, zp1, zp2, zp3, zp4]
   refine tk 6 rfl ?_
   try simp only [zp0, zp1, zp2, zp3, zp4]
   refine tk 7 rfl ?_
   try simp only [zp0, zp1, zp2, zp3, zp4]
   refine tk 8 rfl ?_
   try simp only [zp0, zp1, zp2, zp3, zp4]
   refine Reg.one_op (i := 9) rfl (by kernel_rfl) (fun K hK => ?_)
   go_simp
   have S10 := Lib.hid (show Sl.Sep W _ [_, _, _, _, _, _, _] from L4.push_box S9.out 26 #[.string ⟨#[]⟩, .slice none 0 0, .int .i64 0] w7.heap.size rfl)
   clear S9
   obtain ⟨gb0, hg⟩ : ∃ g', g' = w7.heap.size := ⟨_, rfl⟩
   rw [← hg] at S10 ⊢
   clear hg
   generalize w7.alloc (.cells #[.string ⟨#[]⟩, .slice none 0 0, .int .i64 0] 26) = w8 at S10 ⊢
   refine hK.out _ _ ⟨Bag.cell_at S10.out 0 rfl 0 rfl, Bag.cell_at S10.out 0 rfl 1 rfl, Bag.cell_at S10.out 0 rfl 2 rfl, Bag.cell_at S10.out 1 rfl 0 rfl⟩ (fun hS => ?_)
   clear hK K
   try simp only [zp0, zp1, zp2, zp3, zp4]
   have S11 := Lib.hid (show Sl.Sep W _ [_, _, _, L4.boxR gb0 26 #[.string ⟨#[]⟩, .slice none 0 0, .int .i64 0], _] from Bag.take S10.out [0, 1, 5, 6, 3] (by rfl) (by decide))
   clear S10
   revert S11
   revert HZzr
   revert hS
   exact hrest gb0 gb1 zr zs0 ar1 cr1 w8
   refine Reg.cons_op (i := 9) rfl (fun K hK => ?_) ?_
   go_simp
   have S9 := Lib.hid (show Sl.Sep W _ [_, _, _, _, _, _] from L4.push_box S8.out 26 #[.string ⟨#[]⟩, .slice none 0 0, .int .i64 0] w6.heap.size rfl)
   clear S8
   obtain ⟨gb0, hg⟩ : ∃ g', g' = w6.heap.size := ⟨_, rfl⟩
   rw [← hg] at S9 ⊢
   clear hg
   generalize w6.alloc (.cells #[.string ⟨#[]⟩, .slice none 0 0, .int .i64 0] 26) = w7 at S9 ⊢
   refine hK.out _ _ ⟨Bag.cell_at S9.out 0 rfl 0 rfl, Bag.cell_at S9.out 0 rfl 1 rfl, Bag.cell_at S9.out 0 rfl 2 rfl, Bag.cell_at S9.out 1 rfl 0 rfl⟩ (fun hS => ?_)
   clear hK K
   try simp only [zp0, zp1, zp2, zp3, zp4]
   refine Reg.one_op (i := 4) rfl (by kernel_rfl) (fun K hK => ?_)
   go_simp
   go_at_call 25
   refine (Cspec.out zs0 HZzs0.out ar1 cr1 _ (Bag.bag_rd S9.out 2 rfl) (Sv.own_at S9.out 4 rfl).reads).mono ?_
   rintro e w8 ⟨zr, rfl, hcon, ho, hb⟩
   have S10 := Lib.hid (show Sl.Sep W _ [_, _, _, _, _, L4.boxR gb0 26 #[.string ⟨#[]⟩, .slice none 0 0, .int .i64 0], Bag.bag zr.rows] from Bag.push_bag S9.out hb ho)
   clear S9
   clear hb ho
   have HZzr := Lib.hid hcon
   clear hcon
   go_wp2_with fail
   refine hK.out _ _ ⟨Bag.cell_at S10.out 0 rfl 0 rfl, Bag.cell_at S10.out 0 rfl 1 rfl, Bag.cell_at S10.out 0 rfl 2 rfl, Bag.cell_at S10.out 1 rfl 0 rfl⟩ (fun hS => ?_)
   clear hK K
   try simp only [zp0, zp1, zp2, zp3, zp4]
   refine tk 5 rfl ?_
   try simp only [zp0, zp1, zp2, zp3, zp4]
   refine tk 6 rfl ?_
   try simp only [zp0, zp1, zp2, zp3, zp4]
   refine tk 7 rfl ?_
   try simp only [zp0, zp1, zp2, zp3, zp4]
   refine tk 8 rfl ?_
   try simp only [zp0, zp1, zp2, zp3, zp4]
   have S11 := Lib.hid (show Sl.Sep W _ [_, _, _, _, _] from Bag.take S10.out [0, 1, 6, 5, 3] (by rfl) (by decide))
   clear S10
   revert S11
   revert HZzr
   revert hS
   exact hrest gb0 gb1 zr zs0 ar1 cr1 w8
   exact AllReadyH.nil
   refine Reg.cons_op (i := 9) rfl (fun K hK => ?_) ?_
   go_simp
   have S8 := Lib.hid (show Sl.Sep W _ [_, _, _, _, _] from L4.push_box S7.out 26 #[.string ⟨#[]⟩, .slice none 0 0, .int .i64 0] w5.heap.size rfl)
   clear S7
   obtain ⟨gb0, hg⟩ : ∃ g', g' = w5.heap.size := ⟨_, rfl⟩
   rw [← hg] at S8 ⊢
   clear hg
   generalize w5.alloc (.cells #[.string ⟨#[]⟩, .slice none 0 0, .int .i64 0] 26) = w6 at S8 ⊢
   refine hK.out _ _ ⟨Bag.cell_at S8.out 0 rfl 0 rfl, Bag.cell_at S8.out 0 rfl 1 rfl, Bag.cell_at S8.out 0 rfl 2 rfl, Bag.cell_at S8.out 1 rfl 0 rfl⟩ (fun hS => ?_)
   clear hK K
   try simp only [zp0, zp1, zp2, zp3, zp4]
   refine Reg.one_op (i := 3) rfl (by kernel_rfl) (fun K hK => ?_)
   go_simp
   go_at_call 39
   refine (HTO1.out _ S8.out.old).mono ?_
   rintro e w7 ⟨ar1, cr1, rfl, ho, hb⟩
   have S9 := Lib.hid (show Sl.Sep W _ [_, _, _, _, L4.boxR gb0 26 #[.string ⟨#[]⟩, .slice none 0 0, .int .i64 0], Sv.ownV 128 2 ar1 cr1 l1.length (cellsF l1)] from Sv.push_own S8.out hb ho)
   clear S8
   clear hb ho
   go_wp2_with fail
   refine hK.out _ _ ⟨Bag.cell_at S9.out 0 rfl 0 rfl, Bag.cell_at S9.out 0 rfl 1 rfl, Bag.cell_at S9.out 0 rfl 2 rfl, Bag.cell_at S9.out 1 rfl 0 rfl⟩ (fun hS => ?_)
   clear hK K
   try simp only [zp0, zp1, zp2, zp3, zp4]
   refine Reg.one_op (i := 4) rfl (by kernel_rfl) (fun K hK => ?_)
   go_simp
   go_at_call 25
   refine (Cspec.out zs0 HZzs0.out ar1 cr1 _ (Bag.bag_rd S9.out 2 rfl) (Sv.own_at S9.out 5 rfl).reads).mono ?_
   rintro e w8 ⟨zr, rfl, hcon, ho, hb⟩
   have S10 := Lib.hid (show Sl.Sep W _ [_, _, _, _, _, _, Bag.bag zr.rows] from Bag.push_bag S9.out hb ho)
   clear S9
   clear hb ho
   have HZzr := Lib.hid hcon
   clear hcon
   go_wp2_with fail
   refine hK.out _ _ ⟨Bag.cell_at S10.out 0 rfl 0 rfl, Bag.cell_at S10.out 0 rfl 1 rfl, Bag.cell_at S10.out 0 rfl 2 rfl, Bag.cell_at S10.out 1 rfl 0 rfl⟩ (fun hS => ?_)
   clear hK K
   try simp only [zp0, zp1, zp2, zp3, zp4]
   refine tk 5 rfl ?_
   try simp only [zp0, zp1, zp2, zp3, zp4]
   refine tk 6 rfl ?_
   try simp only [zp0, zp1, zp2, zp3, zp4]
   refine tk 7 rfl ?_
   try simp only [zp0, zp1, zp2, zp3, zp4]
   refine tk 8 rfl ?_
   try simp only [zp0, zp1, zp2, zp3, zp4]
   have S11 := Lib.hid (show Sl.Sep W _ [_, _, _, _, _] from Bag.take S10.out [0, 1, 6, 4, 3] (by rfl) (by decide))
   clear S10
   revert S11
   revert HZzr
   revert hS
   exact hrest gb0 gb1 zr zs0 ar1 cr1 w8
   exact AllReadyH.nil
   exact AllReadyH.nil
   refine Reg.cons_op (i := 9) rfl (fun K hK => ?_) ?_
   go_simp
   have S6 := Lib.hid (show Sl.Sep W _ [_, _, _] from L4.push_box S5.out 26 #[.string ⟨#[]⟩, .slice none 0 0, .int .i64 0] w3.heap.size rfl)
   obtain ⟨gb0, hg⟩ : ∃ g', g' = w3.heap.size := ⟨_, rfl⟩
   rw [← hg] at S6 ⊢
   clear hg
   generalize w3.alloc (.cells #[.string ⟨#[]⟩, .slice none 0 0, .int .i64 0] 26) = w4 at S6 ⊢
   refine hK.out _ _ ⟨Bag.cell_at S6.out 0 rfl 0 rfl, Bag.cell_at S6.out 0 rfl 1 rfl, Bag.cell_at S6.out 0 rfl 2 rfl, Bag.cell_at S6.out 1 rfl 0 rfl⟩ (fun hS => ?_)
   clear hK K
   try simp only [zp0, zp1, zp2, zp3, zp4]
   refine wpAnyH_ready (rs := [1, 10]) (by kernel_rfl) (by simp) ?_
   refine Reg.cons_op (i := 1) rfl (fun K hK => ?_) ?_
   go_simp
   go_at_call 37
   refine (HTO0.out _ S6.out.old).mono ?_
   rintro e w5 ⟨zs0, rfl, hcon, ho, hb⟩
   have S7 := Lib.hid (show Sl.Sep W _ [_, _, L4.boxR gb0 26 #[.string ⟨#[]⟩, .slice none 0 0, .int .i64 0], Bag.bag zs0.rows] from Bag.push_bag S6.out hb ho)
   clear S6
   clear hb ho
   have HZzs0 := Lib.hid (hcon.trans HC0.out)
   clear hcon
   go_wp2_with fail
   refine hK.out _ _ ⟨Bag.cell_at S7.out 0 rfl 0 rfl, Bag.cell_at S7.out 0 rfl 1 rfl, Bag.cell_at S7.out 0 rfl 2 rfl, Bag.cell_at S7.out 1 rfl 0 rfl⟩ (fun hS => ?_)
   clear hK K
   try simp only [zp0, zp1, zp2, zp3, zp4]
   refine wpAnyH_ready (rs := [3, 10]) (by kernel_rfl) (by simp) ?_
   refine Reg.cons_op (i := 3) rfl (fun K hK => ?_) ?_
   go_simp
   go_at_call 39
   refine (HTO1.out _ S7.out.old).mono ?_
   rintro e w6 ⟨ar1, cr1, rfl, ho, hb⟩
   have S8 := Lib.hid (show Sl.Sep W _ [_, _, _, _, Sv.ownV 128 2 ar1 cr1 l1.length (cellsF l1)] from Sv.push_own S7.out hb ho)
   clear S7
   clear hb ho
   go_wp2_with fail
   refine hK.out _ _ ⟨Bag.cell_at S8.out 0 rfl 0 rfl, Bag.cell_at S8.out 0 rfl 1 rfl, Bag.cell_at S8.out 0 rfl 2 rfl, Bag.cell_at S8.out 1 rfl 0 rfl⟩ (fun hS => ?_)
   clear hK K
   try simp only [zp0, zp1, zp2, zp3, zp4]
   refine wpAnyH_ready (rs := [4, 10]) (by kernel_rfl) (by simp) ?_
   refine Reg.cons_op (i := 4) rfl (fun K hK => ?_) ?_
   go_simp
   go_at_call 25
   refine (Cspec.out zs0 HZzs0.out ar1 cr1 _ (Bag.bag_rd S8.out 3 rfl) (Sv.own_at S8.out 4 rfl).reads).mono ?_
   rintro e w7 ⟨zr, rfl, hcon, ho, hb⟩
   have S9 := Lib.hid (show Sl.Sep W _ [_, _, _, _, _, Bag.bag zr.rows] from Bag.push_bag S8.out hb ho)
   clear S8
   clear hb ho
   have HZzr := Lib.hid hcon
   clear hcon
   go_wp2_with fail
   refine hK.out _ _ ⟨Bag.cell_at S9.out 0 rfl 0 rfl, Bag.cell_at S9.out 0 rfl 1 rfl, Bag.cell_at S9.out 0 rfl 2 rfl, Bag.cell_at S9.out 1 rfl 0 rfl⟩ (fun hS => ?_)
   clear hK K
   try simp only [zp0, zp1, zp2, zp3, zp4]
   refine tk 5 rfl ?_
   try simp only [zp0, zp1, zp2, zp3, zp4]
   refine tk 6 rfl ?_
   try simp only [zp0, zp1, zp2, zp3, zp4]
   refine tk 7 rfl ?_
   try simp only [zp0, zp1, zp2, zp3, zp4]
   refine tk 8 rfl ?_
   try simp only [zp0, zp1, zp2, zp3, zp4]
   refine Reg.one_op (i := 10) rfl (by kernel_rfl) (fun K hK => ?_)
   go_simp
   have S10 := Lib.hid (show Sl.Sep W _ [_, _, _, _, _, _, _] from L4.push_box S9.out 28 #[.int .i64 0, .int .i64 0, .string ⟨#[]⟩] w7.heap.size rfl)
   clear S9
   obtain ⟨gb1, hg⟩ : ∃ g', g' = w7.heap.size := ⟨_, rfl⟩
   rw [← hg] at S10 ⊢
   clear hg
   generalize w7.alloc (.cells #[.int .i64 0, .int .i64 0, .string ⟨#[]⟩] 28) = w8 at S10 ⊢
   refine hK.out _ _ ⟨Bag.cell_at S10.out 0 rfl 0 rfl, Bag.cell_at S10.out 0 rfl 1 rfl, Bag.cell_at S10.out 0 rfl 2 rfl, Bag.cell_at S10.out 1 rfl 0 rfl⟩ (fun hS => ?_)
   clear hK K
   try simp only [zp0, zp1, zp2, zp3, zp4]
   have S11 := Lib.hid (show Sl.Sep W _ [_, _, _, _, L4.boxR gb1 28 #[.int .i64 0, .int .i64 0, .string ⟨#[]⟩]] from Bag.take S10.out [0, 1, 5, 2, 6] (by rfl) (by decide))
   clear S10
   revert S11
   revert HZzr
   revert hS
   exact hrest gb0 gb1 zr zs0 ar1 cr1 w8
   refine Reg.cons_op (i := 10) rfl (fun K hK => ?_) ?_
   go_simp
   have S9 := Lib.hid (show Sl.Sep W _ [_, _, _, _, _, _] from L4.push_box S8.out 28 #[.int .i64 0, .int .i64 0, .string ⟨#[]⟩] w6.heap.size rfl)
   clear S8
   obtain ⟨gb1, hg⟩ : ∃ g', g' = w6.heap.size := ⟨_, rfl⟩
   rw [← hg] at S9 ⊢
   clear hg
   generalize w6.alloc (.cells #[.int .i64 0, .int .i64 0, .string ⟨#[]⟩] 28) = w7 at S9 ⊢
   refine hK.out _ _ ⟨Bag.cell_at S9.out 0 rfl 0 rfl, Bag.cell_at S9.out 0 rfl 1 rfl, Bag.cell_at S9.out 0 rfl 2 rfl, Bag.cell_at S9.out 1 rfl 0 rfl⟩ (fun hS => ?_)
   clear hK K
   try simp only [zp0, zp1, zp2, zp3, zp4]
   refine Reg.one_op (i := 4) rfl (by kernel_rfl) (fun K hK => ?_)
   go_simp
   go_at_call 25
   refine (Cspec.out zs0 HZzs0.out ar1 cr1 _ (Bag.bag_rd S9.out 3 rfl) (Sv.own_at S9.out 4 rfl).reads).mono ?_
   rintro e w8 ⟨zr, rfl, hcon, ho, hb⟩
   have S10 := Lib.hid (show Sl.Sep W _ [_, _, _, _, _, L4.boxR gb1 28 #[.int .i64 0, .int .i64 0, .string ⟨#[]⟩], Bag.bag zr.rows] from Bag.push_bag S9.out hb ho)
   clear S9
   clear hb ho
   have HZzr := Lib.hid hcon
   clear hcon
   go_wp2_with fail
   refine hK.out _ _ ⟨Bag.cell_at S10.out 0 rfl 0 rfl, Bag.cell_at S10.out 0 rfl 1 rfl, Bag.cell_at S10.out 0 rfl 2 rfl, Bag.cell_at S10.out 1 rfl 0 rfl⟩ (fun hS => ?_)
   clear hK K
   try simp only [zp0, zp1, zp2, zp3, zp4]
   refine tk 5 rfl ?_
   try simp only [zp0, zp1, zp2, zp3, zp4]
   refine tk 6 rfl ?_
   try simp only [zp0, zp1, zp2, zp3, zp4]
   refine tk 7 rfl ?_
   try simp only [zp0, zp1, zp2, zp3, zp4]
   refine tk 8 rfl ?_
   try simp only [zp0, zp1, zp2, zp3, zp4]
   have S11 := Lib.hid (show Sl.Sep W _ [_, _, _, _, _] from Bag.take S10.out [0, 1, 6, 2, 5] (by rfl) (by decide))
   clear S10
   revert S11
   revert HZzr
   revert hS
   exact hrest gb0 gb1 zr zs0 ar1 cr1 w8
   exact AllReadyH.nil
   refine Reg.cons_op (i := 10) rfl (fun K hK => ?_) ?_
   go_simp
   have S8 := Lib.hid (show Sl.Sep W _ [_, _, _, _, _] from L4.push_box S7.out 28 #[.int .i64 0, .int .i64 0, .string ⟨#[]⟩] w5.heap.size rfl)
   clear S7
   obtain ⟨gb1, hg⟩ : ∃ g', g' = w5.heap.size := ⟨_, rfl⟩
   rw [← hg] at S8 ⊢
   clear hg
   generalize w5.alloc (.cells #[.int .i64 0, .int .i64 0, .string ⟨#[]⟩] 28) = w6 at S8 ⊢
   refine hK.out _ _ ⟨Bag.cell_at S8.out 0 rfl 0 rfl, Bag.cell_at S8.out 0 rfl 1 rfl, Bag.cell_at S8.out 0 rfl 2 rfl, Bag.cell_at S8.out 1 rfl 0 rfl⟩ (fun hS => ?_)
   clear hK K
   try simp only [zp0, zp1, zp2, zp3, zp4]
   refine Reg.one_op (i := 3) rfl (by kernel_rfl) (fun K hK => ?_)
   go_simp
   go_at_call 39
   refine (HTO1.out _ S8.out.old).mono ?_
   rintro e w7 ⟨ar1, cr1, rfl, ho, hb⟩
   have S9 := Lib.hid (show Sl.Sep W _ [_, _, _, _, L4.boxR gb1 28 #[.int .i64 0, .int .i64 0, .string ⟨#[]⟩], Sv.ownV 128 2 ar1 cr1 l1.length (cellsF l1)] from Sv.push_own S8.out hb ho)
   clear S8
   clear hb ho
   go_wp2_with fail
   refine hK.out _ _ ⟨Bag.cell_at S9.out 0 rfl 0 rfl, Bag.cell_at S9.out 0 rfl 1 rfl, Bag.cell_at S9.out 0 rfl 2 rfl, Bag.cell_at S9.out 1 rfl 0 rfl⟩ (fun hS => ?_)
   clear hK K
   try simp only [zp0, zp1, zp2, zp3, zp4]
   refine Reg.one_op (i := 4) rfl (by kernel_rfl) (fun K hK => ?_)
   go_simp
   go_at_call 25
   refine (Cspec.out zs0 HZzs0.out ar1 cr1 _ (Bag.bag_rd S9.out 3 rfl) (Sv.own_at S9.out 5 rfl).reads).mono ?_
   rintro e w8 ⟨zr, rfl, hcon, ho, hb⟩
   have S10 := Lib.hid (show Sl.Sep W _ [_, _, _, _, _, _, Bag.bag zr.rows] from Bag.push_bag S9.out hb ho)
   clear S9
   clear hb ho
   have HZzr := Lib.hid hcon
   clear hcon
   go_wp2_with fail
   refine hK.out _ _ ⟨Bag.cell_at S10.out 0 rfl 0 rfl, Bag.cell_at S10.out 0 rfl 1 rfl, Bag.cell_at S10.out 0 rfl 2 rfl, Bag.cell_at S10.out 1 rfl 0 rfl⟩ (fun hS => ?_)
   clear hK K
   try simp only [zp0, zp1, zp2, zp3, zp4]
   refine tk 5 rfl ?_
   try simp only [zp0, zp1, zp2, zp3, zp4]
   refine tk 6 rfl ?_
   try simp only [zp0, zp1, zp2, zp3, zp4]
   refine tk 7 rfl ?_
   try simp only [zp0, zp1, zp2, zp3, zp4]
   refine tk 8 rfl ?_
   try simp only [zp0, zp1, zp2, zp3, zp4]
   have S11 := Lib.hid (show Sl.Sep W _ [_, _, _, _, _] from Bag.take S10.out [0, 1, 6, 2, 4] (by rfl) (by decide))
   clear S10
   revert S11
   revert HZzr
   revert hS
   exact hrest gb0 gb1 zr zs0 ar1 cr1 w8
   exact AllReadyH.nil
   refine Reg.cons_op (i := 10) rfl (fun K hK => ?_) ?_
   go_simp
   have S7 := Lib.hid (show Sl.Sep W _ [_, _, _, _] from L4.push_box S6.out 28 #[.int .i64 0, .int .i64 0, .string ⟨#[]⟩] w4.heap.size rfl)
   clear S6
   obtain ⟨gb1, hg⟩ : ∃ g', g' = w4.heap.size := ⟨_, rfl⟩
   rw [← hg] at S7 ⊢
   clear hg
   generalize w4.alloc (.cells #[.int .i64 0, .int .i64 0, .string ⟨#[]⟩] 28) = w5 at S7 ⊢
   refine hK.out _ _ ⟨Bag.cell_at S7.out 0 rfl 0 rfl, Bag.cell_at S7.out 0 rfl 1 rfl, Bag.cell_at S7.out 0 rfl 2 rfl, Bag.cell_at S7.out 1 rfl 0 rfl⟩ (fun hS => ?_)
   clear hK K
   try simp only [zp0, zp1, zp2, zp3, zp4]
   refine Reg.one_op (i := 1) rfl (by kernel_rfl) (fun K hK => ?_)
   go_simp
   go_at_call 37
   refine (HTO0.out _ S7.out.old).mono ?_
   rintro e w6 ⟨zs0, rfl, hcon, ho, hb⟩
   have S8 := Lib.hid (show Sl.Sep W _ [_, _, _, L4.boxR gb1 28 #[.int .i64 0, .int .i64 0, .string ⟨#[]⟩], Bag.bag zs0.rows] from Bag.push_bag S7.out hb ho)
   clear S7
   clear hb ho
   have HZzs0 := Lib.hid (hcon.trans HC0.out)
   clear hcon
   go_wp2_with fail
   refine hK.out _ _ ⟨Bag.cell_at S8.out 0 rfl 0 rfl, Bag.cell_at S8.out 0 rfl 1 rfl, Bag.cell_at S8.out 0 rfl 2 rfl, Bag.cell_at S8.out 1 rfl 0 rfl⟩ (fun hS => ?_)
   clear hK K
   try simp only [zp0, zp1, zp2, zp3, zp4]
   refine Reg.one_op (i := 3) rfl (by kernel_rfl) (fun K hK => ?_)
   go_simp
   go_at_call 39
   refine (HTO1.out _ S8.out.old).mono ?_
   rintro e w7 ⟨ar1, cr1, rfl, ho, hb⟩
   have S9 := Lib.hid (show Sl.Sep W _ [_, _, _, _, _, Sv.ownV 128 2 ar1 cr1 l1.length (cellsF l1)] from Sv.push_own S8.out hb ho)
   clear S8
   clear hb ho
   go_wp2_with fail
   refine hK.out _ _ ⟨Bag.cell_at S9.out 0 rfl 0 rfl, Bag.cell_at S9.out 0 rfl 1 rfl, Bag.cell_at S9.out 0 rfl 2 rfl, Bag.cell_at S9.out 1 rfl 0 rfl⟩ (fun hS => ?_)
   clear hK K
   try simp only [zp0, zp1, zp2, zp3, zp4]
   refine Reg.one_op (i := 4) rfl (by kernel_rfl) (fun K hK => ?_)
   go_simp
   go_at_call 25
   refine (Cspec.out zs0 HZzs0.out ar1 cr1 _ (Bag.bag_rd S9.out 4 rfl) (Sv.own_at S9.out 5 rfl).reads).mono ?_
   rintro e w8 ⟨zr, rfl, hcon, ho, hb⟩
   have S10 := Lib.hid (show Sl.Sep W _ [_, _, _, _, _, _, Bag.bag zr.rows] from Bag.push_bag S9.out hb ho)
   clear S9
   clear hb ho
   have HZzr := Lib.hid hcon
   clear hcon
   go_wp2_with fail
   refine hK.out _ _ ⟨Bag.cell_at S10.out 0 rfl 0 rfl, Bag.cell_at S10.out 0 rfl 1 rfl, Bag.cell_at S10.out 0 rfl 2 rfl, Bag.cell_at S10.out 1 rfl 0 rfl⟩ (fun hS => ?_)
   clear hK K
   try simp only [zp0, zp1, zp2, zp3, zp4]
   refine tk 5 rfl ?_
   try simp only [zp0, zp1, zp2, zp3, zp4]
   refine tk 6 rfl ?_
   try simp only [zp0, zp1, zp2, zp3, zp4]
   refine tk 7 rfl ?_
   try simp only [zp0, zp1, zp2, zp3, zp4]
   refine tk 8 rfl ?_
   try simp only [zp0, zp1, zp2, zp3, zp4]
   have S11 := Lib.hid (show Sl.Sep W _ [_, _, _, _, _] from Bag.take S10.out [0, 1, 6, 2, 3] (by rfl) (by decide))
   clear S10
   revert S11
   revert HZzr
   revert hS
   exact hrest gb0 gb1 zr zs0 ar1 cr1 w8
   exact AllReadyH.nil
   refine Reg.cons_op (i := 10) rfl (fun K hK => ?_) ?_
   go_simp
   have S6 := Lib.hid (show Sl.Sep W _ [_, _, _] from L4.push_box S5.out 28 #[.int .i64 0, .int .i64 0, .string ⟨#[]⟩] w3.heap.size rfl)
   obtain ⟨gb1, hg⟩ : ∃ g', g' = w3.heap.size := ⟨_, rfl⟩
   rw [← hg] at S6 ⊢
   clear hg
   generalize w3.alloc (.cells #[.int .i64 0, .int .i64 0, .string ⟨#[]⟩] 28) = w4 at S6 ⊢
   refine hK.out _ _ ⟨Bag.cell_at S6.out 0 rfl 0 rfl, Bag.cell_at S6.out 0 rfl 1 rfl, Bag.cell_at S6.out 0 rfl 2 rfl, Bag.cell_at S6.out 1 rfl 0 rfl⟩ (fun hS => ?_)
   clear hK K
   try simp only [zp0, zp1, zp2, zp3, zp4]
   refine wpAnyH_ready (rs := [1, 9]) (by kernel_rfl) (by simp) ?_
   refine Reg.cons_op (i := 1) rfl (fun K hK => ?_) ?_
   go_simp
   go_at_call 37
   refine (HTO0.out _ S6.out.old).mono ?_
   rintro e w5 ⟨zs0, rfl, hcon, ho, hb⟩
   have S7 := Lib.hid (show Sl.Sep W _ [_, _, L4.boxR gb1 28 #[.int .i64 0, .int .i64 0, .string ⟨#[]⟩], Bag.bag zs0.rows] from Bag.push_bag S6.out hb ho)
   clear S6
   clear hb ho
   have HZzs0 := Lib.hid (hcon.trans HC0.out)
   clear hcon
   go_wp2_with fail
   refine hK.out _ _ ⟨Bag.cell_at S7.out 0 rfl 0 rfl, Bag.cell_at S7.out 0 rfl 1 rfl, Bag.cell_at S7.out 0 rfl 2 rfl, Bag.cell_at S7.out 1 rfl 0 rfl⟩ (fun hS => ?_)
   clear hK K
   try simp only [zp0, zp1, zp2, zp3, zp4]
   refine wpAnyH_ready (rs := [3, 9]) (by kernel_rfl) (by simp) ?_
   refine Reg.cons_op (i := 3) rfl (fun K hK => ?_) ?_
   go_simp
   go_at_call 39
   refine (HTO1.out _ S7.out.old).mono ?_
   rintro e w6 ⟨ar1, cr1, rfl, ho, hb⟩
   have S8 := Lib.hid (show Sl.Sep W _ [_, _, _, _, Sv.ownV 128 2 ar1 cr1 l1.length (cellsF l1)] from Sv.push_own S7.out hb ho)
   clear S7
   clear hb ho
   go_wp2_with fail
   refine hK.out _ _ ⟨Bag.cell_at S8.out 0 rfl 0 rfl, Bag.cell_at S8.out 0 rfl 1 rfl, Bag.cell_at S8.out 0 rfl 2 rfl, Bag.cell_at S8.out 1 rfl 0 rfl⟩ (fun hS => ?_)
   clear hK K
   try simp only [zp0, zp1, zp2, zp3, zp4]
   refine wpAnyH_ready (rs := [4, 9]) (by kernel_rfl) (by simp) ?_
   refine Reg.cons_op (i := 4) rfl (fun K hK => ?_) ?_
   go_simp
   go_at_call 25
   refine (Cspec.out zs0 HZzs0.out ar1 cr1 _ (Bag.bag_rd S8.out 3 rfl) (Sv.own_at S8.out 4 rfl).reads).mono ?_
   rintro e w7 ⟨zr, rfl, hcon, ho, hb⟩
   have S9 := Lib.hid (show Sl.Sep W _ [_, _, _, _, _, Bag.bag zr.rows] from Bag.push_bag S8.out hb ho)
   clear S8
   clear hb ho
   have HZzr := Lib.hid hcon
   clear hcon
   go_wp2_with fail
   refine hK.out _ _ ⟨Bag.cell_at S9.out 0 rfl 0 rfl, Bag.cell_at S9.out 0 rfl 1 rfl, Bag.cell_at S9.out 0 rfl 2 rfl, Bag.cell_at S9.out 1 rfl 0 rfl⟩ (fun hS => ?_)
   clear hK K
   try simp only [zp0, zp1, zp2, zp3, zp4]
   refine tk 5 rfl ?_
   try simp only [zp0, zp1, zp2, zp3, zp4]
   refine tk 6 rfl ?_
   try simp only [zp0, zp1, zp2, zp3, zp4]
   refine tk 7 rfl ?_
   try simp only [zp0, zp1, zp2, zp3, zp4]
   refine tk 8 rfl ?_
   try simp only [zp0, zp1, zp2, zp3, zp4]
   refine Reg.one_op (i := 9) rfl (by kernel_rfl) (fun K hK => ?_)
   go_simp
   have S10 := Lib.hid (show Sl.Sep W _ [_, _, _, _, _, _, _] from L4.push_box S9.out 26 #[.string ⟨#[]⟩, .slice none 0 0, .int .i64 0] w7.heap.size rfl)
   clear S9
   obtain ⟨gb0, hg⟩ : ∃ g', g' = w7.heap.size := ⟨_, rfl⟩
   rw [← hg] at S10 ⊢
   clear hg
   generalize w7.alloc (.cells #[.string ⟨#[]⟩, .slice none 0 0, .int .i64 0] 26) = w8 at S10 ⊢
   refine hK.out _ _ ⟨Bag.cell_at S10.out 0 rfl 0 rfl, Bag.cell_at S10.out 0 rfl 1 rfl, Bag.cell_at S10.out 0 rfl 2 rfl, Bag.cell_at S10.out 1 rfl 0 rfl⟩ (fun hS => ?_)
   clear hK K
   try simp only [zp0, zp1, zp2, zp3, zp4]
   have S11 := Lib.hid (show Sl.Sep W _ [_, _, _, L4.boxR gb0 26 #[.string ⟨#[]⟩, .slice none 0 0, .int .i64 0], _] from Bag.take S10.out [0, 1, 5, 6, 2] (by rfl) (by decide))
   clear S10
   revert S11
   revert HZzr
   revert hS
   exact hrest gb0 gb1 zr zs0 ar1 cr1 w8
   refine Reg.cons_op (i := 9) rfl (fun K hK => ?_) ?_
   go_simp
   have S9 := Lib.hid (show Sl.Sep W _ [_, _, _, _, _, _] from L4.push_box S8.out 26 #[.string ⟨#[]⟩, .slice none 0 0, .int .i64 0] w6.heap.size rfl)
   clear S8
   obtain ⟨gb0, hg⟩ : ∃ g', g' = w6.heap.size := ⟨_, rfl⟩
   rw [← hg] at S9 ⊢
   clear hg
   generalize w6.alloc (.cells #[.string ⟨#[]⟩, .slice none 0 0, .int .i64 0] 26) = w7 at S9 ⊢
   refine hK.out _ _ ⟨Bag.cell_at S9.out 0 rfl 0 rfl, Bag.cell_at S9.out 0 rfl 1 rfl, Bag.cell_at S9.out 0 rfl 2 rfl, Bag.cell_at S9.out 1 rfl 0 rfl⟩ (fun hS => ?_)
   clear hK K
   try simp only [zp0, zp1, zp2, zp3, zp4]
   refine Reg.one_op (i := 4) rfl (by kernel_rfl) (fun K hK => ?_)
   go_simp
   go_at_call 25
   refine (Cspec.out zs0 HZzs0.out ar1 cr1 _ (Bag.bag_rd S9.out 3 rfl) (Sv.own_at S9.out 4 rfl).reads).mono ?_
   rintro e w8 ⟨zr, rfl, hcon, ho, hb⟩
   have S10 := Lib.hid (show Sl.Sep W _ [_, _, _, _, _, L4.boxR gb0 26 #[.string ⟨#[]⟩, .slice none 0 0, .int .i64 0], Bag.bag zr.rows] from Bag.push_bag S9.out hb ho)
   clear S9
   clear hb ho
   have HZzr := Lib.hid hcon
   clear hcon
   go_wp2_with fail
   refine hK.out _ _ ⟨Bag.cell_at S10.out 0 rfl 0 rfl, Bag.cell_at S10.out 0 rfl 1 rfl, Bag.cell_at S10.out 0 rfl 2 rfl, Bag.cell_at S10.out 1 rfl 0 rfl⟩ (fun hS => ?_)
   clear hK K
   try simp only [zp0, zp1, zp2, zp3, zp4]
   refine tk 5 rfl ?_
   try simp only [zp0, zp1, zp2, zp3, zp4]
   refine tk 6 rfl ?_
   try simp only [zp0, zp1, zp2, zp3, zp4]
   refine tk 7 rfl ?_
   try simp only [zp0, zp1, zp2, zp3, zp4]
   refine tk 8 rfl ?_
   try simp only [zp0, zp1, zp2, zp3, zp4]
   have S11 := Lib.hid (show Sl.Sep W _ [_, _, _, _, _] from Bag.take S10.out [0, 1, 6, 5, 2] (by rfl) (by decide))
   clear S10
   revert S11
   revert HZzr
   revert hS
   exact hrest gb0 gb1 zr zs0 ar1 cr1 w8
   exact AllReadyH.nil
   refine Reg.cons_op (i := 9) rfl (fun K hK => ?_) ?_
   go_simp
   have S8 := Lib.hid (show Sl.Sep W _ [_, _, _, _, _] from L4.push_box S7.out 26 #[.string ⟨#[]⟩, .slice none 0 0, .int .i64 0] w5.heap.size rfl)
   clear S7
   obtain ⟨gb0, hg⟩ : ∃ g', g' = w5.heap.size := ⟨_, rfl⟩
   rw [← hg] at S8 ⊢
   clear hg
   generalize w5.alloc (.cells #[.string ⟨#[]⟩, .slice none 0 0, .int .i64 0] 26) = w6 at S8 ⊢
   refine hK.out _ _ ⟨Bag.cell_at S8.out 0 rfl 0 rfl, Bag.cell_at S8.out 0 rfl 1 rfl, Bag.cell_at S8.out 0 rfl 2 rfl, Bag.cell_at S8.out 1 rfl 0 rfl⟩ (fun hS => ?_)
   clear hK K
   try simp only [zp0, zp1, zp2, zp3, zp4]
   refine Reg.one_op (i := 3) rfl (by kernel_rfl) (fun K hK => ?_)
   go_simp
   go_at_call 39
   refine (HTO1.out _ S8.out.old).mono ?_
   rintro e w7 ⟨ar1, cr1, rfl, ho, hb⟩
   have S9 := Lib.hid (show Sl.Sep W _ [_, _, _, _, L4.boxR gb0 26 #[.string ⟨#[]⟩, .slice none 0 0, .int .i64 0], Sv.ownV 128 2 ar1 cr1 l1.length (cellsF l1)] from Sv.push_own S8.out hb ho)
   clear S8
   clear hb ho
   go_wp2_with fail
   refine hK.out _ _ ⟨Bag.cell_at S9.out 0 rfl 0 rfl, Bag.cell_at S9.out 0 rfl 1 rfl, Bag.cell_at S9.out 0 rfl 2 rfl, Bag.cell_at S9.out 1 rfl 0 rfl⟩ (fun hS => ?_)
   clear hK K
   try simp only [zp0, zp1, zp2, zp3, zp4]
   refine Reg.one_op (i := 4) rfl (by kernel_rfl) (fun K hK => ?_)
   go_simp
   go_at_call 25
   refine (Cspec.out zs0 HZzs0.out ar1 cr1 _ (Bag.bag_rd S9.out 3 rfl) (Sv.own_at S9.out 5 rfl).reads).mono ?_
   rintro e w8 ⟨zr, rfl, hcon, ho, hb⟩
   have S10 := Lib.hid (show Sl.Sep W _ [_, _, _, _, _, _, Bag.bag zr.rows] from Bag.push_bag S9.out hb ho)
   clear S9
   clear hb ho
   have HZzr := Lib.hid hcon
   clear hcon
   go_wp2_with fail
   refine hK.out _ _ ⟨Bag.cell_at S10.out 0 rfl 0 rfl, Bag.cell_at S10.out 0 rfl 1 rfl, Bag.cell_at S10.out 0 rfl 2 rfl, Bag.cell_at S10.out 1 rfl 0 rfl⟩ (fun hS => ?_)
   clear hK K
   try simp only [zp0, zp1, zp2, zp3, zp4]
   refine tk 5 rfl ?_
   try simp only [zp0, zp1, zp2, zp3, zp4]
   refine tk 6 rfl ?_
   try simp only [zp0, zp1, zp2, zp3, zp4]
   refine tk 7 rfl ?_
   try simp only [zp0, zp1, zp2, zp3, zp4]
   refine tk 8 rfl ?_
   try simp only [zp0, zp1, zp2, zp3, zp4]
   have S11 := Lib.hid (show Sl.Sep W _ [_, _, _, _, _] from Bag.take S10.out [0, 1, 6, 4, 2] (by rfl) (by decide))
   clear S10
   revert S11
   revert HZzr
   revert hS
   exact hrest gb0 gb1 zr zs0 ar1 cr1 w8
   exact AllReadyH.nil
   refine Reg.cons_op (i := 9) rfl (fun K hK => ?_) ?_
   go_simp
   have S7 := Lib.hid (show Sl.Sep W _ [_, _, _, _] from L4.push_box S6.out 26 #[.string ⟨#[]⟩, .slice none 0 0, .int .i64 0] w4.heap.size rfl)
   clear S6
   obtain ⟨gb0, hg⟩ : ∃ g', g' = w4.heap.size := ⟨_, rfl⟩
   rw [← hg] at S7 ⊢
   clear hg
   generalize w4.alloc (.cells #[.string ⟨#[]⟩, .slice none 0 0, .int .i64 0] 26) = w5 at S7 ⊢
   refine hK.out _ _ ⟨Bag.cell_at S7.out 0 rfl 0 rfl, Bag.cell_at S7.out 0 rfl 1 rfl, Bag.cell_at S7.out 0 rfl 2 rfl, Bag.cell_at S7.out 1 rfl 0 rfl⟩ (fun hS => ?_)
   clear hK K
   try simp only [zp0, zp1, zp2, zp3, zp4]
   refine Reg.one_op (i := 1) rfl (by kernel_rfl) (fun K hK => ?_)
   go_simp
   go_at_call 37
   refine (HTO0.out _ S7.out.old).mono ?_
   rintro e w6 ⟨zs0, rfl, hcon, ho, hb⟩
   have S8 := Lib.hid (show Sl.Sep W _ [_, _, _, L4.boxR gb0 26 #[.string ⟨#[]⟩, .slice none 0 0, .int .i64 0], Bag.bag zs0.rows] from Bag.push_bag S7.out hb ho)
   clear S7
   clear hb ho
   have HZzs0 := Lib.hid (hcon.trans HC0.out)
   clear hcon
   go_wp2_with fail
   refine hK.out _ _ ⟨Bag.cell_at S8.out 0 rfl 0 rfl, Bag.cell_at S8.out 0 rfl 1 rfl, Bag.cell_at S8.out 0 rfl 2 rfl, Bag.cell_at S8.out 1 rfl 0 rfl⟩ (fun hS => ?_)
   clear hK K
   try simp only [zp0, zp1, zp2, zp3, zp4]
   refine Reg.one_op (i := 3) rfl (by kernel_rfl) (fun K hK => ?_)
   go_simp
   go_at_call 39
   refine (HTO1.out _ S8.out.old).mono ?_
   rintro e w7 ⟨ar1, cr1, rfl, ho, hb⟩
   have S9 := Lib.hid (show Sl.Sep W _ [_, _, _, _, _, Sv.ownV 128 2 ar1 cr1 l1.length (cellsF l1)] from Sv.push_own S8.out hb ho)
   clear S8
   clear hb ho
   go_wp2_with fail
   refine hK.out _ _ ⟨Bag.cell_at S9.out 0 rfl 0 rfl, Bag.cell_at S9.out 0 rfl 1 rfl, Bag.cell_at S9.out 0 rfl 2 rfl, Bag.cell_at S9.out 1 rfl 0 rfl⟩ (fun hS => ?_)
   clear hK K
   try simp only [zp0, zp1, zp2, zp3, zp4]
   refine Reg.one_op (i := 4) rfl (by kernel_rfl) (fun K hK => ?_)
   go_simp
   go_at_call 25
   refine (Cspec.out zs0 HZzs0.out ar1 cr1 _ (Bag.bag_rd S9.out 4 rfl) (Sv.own_at S9.out 5 rfl).reads).mono ?_
   rintro e w8 ⟨zr, rfl, hcon, ho, hb⟩
   have S10 := Lib.hid (show Sl.Sep W _ [_, _, _, _, _, _, Bag.bag zr.rows] from Bag.push_bag S9.out hb ho)
   clear S9
   clear hb ho
   have HZzr := Lib.hid hcon
   clear hcon
   go_wp2_with fail
   refine hK.out _ _ ⟨Bag.cell_at S10.out 0 rfl 0 rfl, Bag.cell_at S10.out 0 rfl 1 rfl, Bag.cell_at S10.out 0 rfl 2 rfl, Bag.cell_at S10.out 1 rfl 0 rfl⟩ (fun hS => ?_)
   clear hK K
   try simp only [zp0, zp1, zp2, zp3, zp4]
   refine tk 5 rfl ?_
   try simp only [zp0, zp1, zp2, zp3, zp4]
   refine tk 6 rfl ?_
   try simp only [zp0, zp1, zp2, zp3, zp4]
   refine tk 7 rfl ?_
   try simp only [zp0, zp1, zp2, zp3, zp4]
   refine tk 8 rfl ?_
   try simp only [zp0, zp1, zp2, zp3, zp4]
   have S11 := Lib.hid (show Sl.Sep W _ [_, _, _, _, _] from Bag.take S10.out [0, 1, 6, 3, 2] (by rfl) (by decide))
   clear S10
   revert S11
   revert HZzr
   revert hS
   exact hrest gb0 gb1 zr zs0 ar1 cr1 w8
   exact AllReadyH.nil
   exact AllReadyH.nil
  case pf =>
   intro gb0 gb1 zr zs0 ar1 cr1 w8 hS HZzr S11
   refine Reg.one_op (i := 11) rfl (by kernel_rfl) (fun K hK => ?_)
   have f0 : World.cell? _ ⟨gb0, 0, none⟩ = some (.string ⟨#[]⟩) := Bag.cell_at S11.out 3 rfl 0 rfl
   have f1 : World.cell? _ ⟨gb0, 1, none⟩ = some (.slice none 0 0) := Bag.cell_at S11.out 3 rfl 1 rfl
   have f2 : World.cell? _ ⟨gb0, 2, none⟩ = some (.int .i64 0) := Bag.cell_at S11.out 3 rfl 2 rfl
   have z0 := Bag.free_at S11.out 3 rfl 0
   have z1 := Bag.free_at S11.out 3 rfl 1
   have z2 := Bag.free_at S11.out 3 rfl 2
   go_simp
   clear f0 f1 f2 z0 z1 z2
   have S12 := Lib.hid (show Sl.Sep W _ [_, _, _, L4.boxR gb0 26 #[.string zr.name, .slice zr.a zr.xs.length zr.c, .int .i64 zr.auto], _] from L5.put_box5 (L5.put_box5 (L5.put_box5 (S11.out) 3 rfl 0 (.string zr.name)) 3 rfl 1 (.slice zr.a zr.xs.length zr.c)) 3 rfl 2 (.int .i64 zr.auto))
   clear S11
   refine hK.out _ _ ⟨Bag.cell_at S12.out 0 rfl 0 rfl, Bag.cell_at S12.out 0 rfl 1 rfl, Bag.cell_at S12.out 0 rfl 2 rfl, Bag.cell_at S12.out 1 rfl 0 rfl⟩ (fun hS => ?_)
   clear hK K
   try simp only [zp0, zp1, zp2, zp3, zp4]
   refine Reg.one_op (i := 12) rfl (by kernel_rfl) (fun K hK => ?_)
   have f0 : World.cell? _ ⟨gb1, 0, none⟩ = some (.int .i64 0) := Bag.cell_at S12.out 4 rfl 0 rfl
   have f1 : World.cell? _ ⟨gb1, 1, none⟩ = some (.int .i64 0) := Bag.cell_at S12.out 4 rfl 1 rfl
   have f2 : World.cell? _ ⟨gb1, 2, none⟩ = some (.string ⟨#[]⟩) := Bag.cell_at S12.out 4 rfl 2 rfl
   have z0 := Bag.free_at S12.out 4 rfl 0
   have z1 := Bag.free_at S12.out 4 rfl 1
   have z2 := Bag.free_at S12.out 4 rfl 2
   go_simp
   clear f0 f1 f2 z0 z1 z2
   have S13 := Lib.hid (show Sl.Sep W _ [_, _, _, _, L4.boxR gb1 28 #[.int .i64 r1'.kind, .int .i64 r1'.n, .string r1'.text]] from L5.put_box5 (L5.put_box5 (L5.put_box5 (S12.out) 4 rfl 0 (.int .i64 r1'.kind)) 4 rfl 1 (.int .i64 r1'.n)) 4 rfl 2 (.string r1'.text))
   clear S12
   refine hK.out _ _ ⟨Bag.cell_at S13.out 0 rfl 0 rfl, Bag.cell_at S13.out 0 rfl 1 rfl, Bag.cell_at S13.out 0 rfl 2 rfl, Bag.cell_at S13.out 1 rfl 0 rfl⟩ (fun hS => ?_)
   clear hK K
   try simp only [zp0, zp1, zp2, zp3, zp4]
   refine tk 13 rfl ?_
   try simp only [zp0, zp1, zp2, zp3, zp4]
   refine wpAnyH_done (by kernel_rfl) ?_ _
   go_wp2_with fail
   go_meet
   case rel =>
    exact ⟨gb0, gb1, zr, rfl, rfl, rfl, And.intro HZzr.out S13.out⟩
 case rest =>
  obtain ⟨g1a', g1b', z1', rfl, rfl, rfl, hq⟩ := hcut
  have HZz1' := Lib.hid hq.out.1
  have S5 := Lib.hid hq.out.2
  clear hq S4 HTO0 HTO1
  have f0 : World.cell? _ ⟨W.heap.size, 0, none⟩ = some (.string y0.name) := Bag.cell_at S5.out 0 rfl 0 rfl
  have f1 : World.cell? _ ⟨W.heap.size, 1, none⟩ = some (.slice y0.a y0.xs.length y0.c) := Bag.cell_at S5.out 0 rfl 1 rfl
  have f2 : World.cell? _ ⟨W.heap.size, 2, none⟩ = some (.int .i64 y0.auto) := Bag.cell_at S5.out 0 rfl 2 rfl
  go_wp2_with fail
  go_at_call 37
  have HC := L6.toStore_any y0 (by rw [HC0.out]; exact HF0.out) _ (HRY0.out _ S5.out.old)
  try dsimp only [L6.LS.v, L6.LS.cells, L4.K.v, L4.R.v] at HC
  refine HC.mono ?_
  clear HC
  rintro e w3 ⟨z2', rfl, hcon, ho, hb⟩
  clear f0 f1 f2
  have S6 := Lib.hid (show Sl.Sep W _ [_, _, Bag.bag z1'.rows, L4.boxR g1a' 26 #[.string z1'.name, .slice z1'.a z1'.xs.length z1'.c, .int .i64 z1'.auto], L4.boxR g1b' 28 #[.int .i64 r1'.kind, .int .i64 r1'.n, .string r1'.text], Bag.bag z2'.rows] from Bag.push_bag S5.out hb ho)
  clear S5
  clear hb ho
  have HZz2' := Lib.hid (hcon.trans HC0.out)
  clear hcon
  try dsimp only [L6.LS.v, L6.LS.cells]
  go_upto_region 10 with fail
  have S7 := Lib.hid (show Sl.Sep W _ [_, _, _, _, _, _, _] from L4.push_box S6.out 26 #[.string z2'.name, .slice z2'.a z2'.xs.length z2'.c, .int .i64 z2'.auto] w3.heap.size rfl)
  clear S6
  obtain ⟨g1, hg⟩ : ∃ g', g' = w3.heap.size := ⟨_, rfl⟩
  rw [← hg] at S7 ⊢
  clear hg
  generalize w3.alloc (.cells #[.string z2'.name, .slice z2'.a z2'.xs.length z2'.c, .int .i64 z2'.auto] 26) = w4 at S7 ⊢
  have f0 : World.cell? _ ⟨W.heap.size + 1, 0, none⟩ = some (.slice a1 l1.length c1) := Bag.cell_at S7.out 1 rfl 0 rfl
  go_wp2_with fail
  go_at_call 39
  have HC := L5.toRecord_any a1 c1 l1 (by have := HL1.out.1; omega) _ (HRR1.out _ S7.out.old)
  try dsimp only [L6.LS.v, L6.LS.cells, L4.K.v, L4.R.v] at HC
  refine HC.mono ?_
  clear HC
  rintro e w5 ⟨ax3, cx3, rfl, ho, hb⟩
  clear f0
  have S8 := Lib.hid (show Sl.Sep W _ [_, _, _, _, _, _, L4.boxR g1 26 #[.string z2'.name, .slice z2'.a z2'.xs.length z2'.c, .int .i64 z2'.auto], Sv.ownV 128 2 ax3 cx3 l1.length (cellsF l1)] from Sv.push_own S7.out hb ho)
  clear S7
  clear hb ho
  go_upto_region 11 with fail
  have S9 := Lib.hid (show Sl.Sep W _ [_, _, _, _, _, _, _, _, _] from L4.push_box S8.out 31 #[.slice ax3 l1.length cx3] w5.heap.size rfl)
  clear S8
  obtain ⟨g2, hg⟩ : ∃ g', g' = w5.heap.size := ⟨_, rfl⟩
  rw [← hg] at S9 ⊢
  clear hg
  generalize w5.alloc (.cells #[.slice ax3 l1.length cx3] 31) = w6 at S9 ⊢
  have f0 : World.cell? _ ⟨g1, 0, none⟩ = some (.string z2'.name) := Bag.cell_at S9.out 6 rfl 0 rfl
  have f1 : World.cell? _ ⟨g1, 1, none⟩ = some (.slice z2'.a z2'.xs.length z2'.c) := Bag.cell_at S9.out 6 rfl 1 rfl
  have f2 : World.cell? _ ⟨g1, 2, none⟩ = some (.int .i64 z2'.auto) := Bag.cell_at S9.out 6 rfl 2 rfl
  have f3 : World.cell? _ ⟨g2, 0, none⟩ = some (.slice ax3 l1.length cx3) := Bag.cell_at S9.out 8 rfl 0 rfl
  go_wp2_with fail
  go_at_call 24
  have HC := Cimpl.out z2' HZz2'.out ax3 cx3 _ (Bag.bag_rd S9.out 5 rfl) (Sv.own_at S9.out 7 rfl).reads
  try dsimp only [L6.LS.v, L6.LS.cells, L4.K.v, L4.R.v] at HC
  refine HC.mono ?_
  clear HC
  rintro e w7 ⟨z4', rfl, hcon, ho, hb⟩
  clear f0 f1 f2 f3
  have S10 := Lib.hid (show Sl.Sep W _ [_, _, _, _, _, _, _, _, L4.boxR g2 31 #[.slice ax3 l1.length cx3], Bag.bag z4'.rows] from Bag.push_bag S9.out hb ho)
  clear S9
  clear hb ho
  have HZz4' := Lib.hid hcon
  clear hcon
  go_upto_region 12 with fail
  have S11 := Lib.hid (show Sl.Sep W _ [_, _, _, _, _, _, _, _, _, _, _, _] from L4.push_box (L4.push_box (S10.out) 26 #[.string z4'.name, .slice z4'.a z4'.xs.length z4'.c, .int .i64 z4'.auto] (w7.heap.size) (by simp)) 28 #[.int .i64 r1'.kind, .int .i64 r1'.n, .string r1'.text] (w7.heap.size + 1) (by simp))
  clear S10
  obtain ⟨g3, hg⟩ : ∃ g', g' = w7.heap.size + 1 := ⟨_, rfl⟩
  rw [← hg] at S11 ⊢
  clear hg
  obtain ⟨g4, hg⟩ : ∃ g', g' = w7.heap.size := ⟨_, rfl⟩
  rw [← hg] at S11 ⊢
  clear hg
  generalize ((w7.alloc (.cells #[.string z4'.name, .slice z4'.a z4'.xs.length z4'.c, .int .i64 z4'.auto] 26)).alloc (.cells #[.int .i64 r1'.kind, .int .i64 r1'.n, .string r1'.text] 28)) = w8 at S11 ⊢
  have f0 : World.cell? _ ⟨g1a', 0, none⟩ = some (.string z1'.name) := Bag.cell_at S11.out 3 rfl 0 rfl
  have f1 : World.cell? _ ⟨g1a', 1, none⟩ = some (.slice z1'.a z1'.xs.length z1'.c) := Bag.cell_at S11.out 3 rfl 1 rfl
  have f2 : World.cell? _ ⟨g1a', 2, none⟩ = some (.int .i64 z1'.auto) := Bag.cell_at S11.out 3 rfl 2 rfl
  have f3 : World.cell? _ ⟨g4, 0, none⟩ = some (.string z4'.name) := Bag.cell_at S11.out 10 rfl 0 rfl
  have f4 : World.cell? _ ⟨g4, 1, none⟩ = some (.slice z4'.a z4'.xs.length z4'.c) := Bag.cell_at S11.out 10 rfl 1 rfl
  have f5 : World.cell? _ ⟨g4, 2, none⟩ = some (.int .i64 z4'.auto) := Bag.cell_at S11.out 10 rfl 2 rfl
  go_wp2_with fail
  go_at_call 40
  have HC := L6.eqStore_any z4' z1' (HZz4'.out.trans HZz1'.out.symm) (by rw [HZz4'.out]; exact HFR.out) _ (Bag.bag_rd S11.out 9 rfl) (Bag.bag_rd S11.out 2 rfl)
  try dsimp only [L6.LS.v, L6.LS.cells, L4.K.v, L4.R.v] at HC
  refine HC.mono ?_
  clear HC
  rintro e w9 ⟨rfl, hb⟩
  clear f0 f1 f2 f3 f4 f5
  have S12 := Lib.hid (show Sl.Sep W _ [_, _, _, _, _, _, _, _, _, _, L4.boxR g4 26 #[.string z4'.name, .slice z4'.a z4'.xs.length z4'.c, .int .i64 z4'.auto], L4.boxR g3 28 #[.int .i64 r1'.kind, .int .i64 r1'.n, .string r1'.text]] from S11.out.keep hb)
  clear S11
  clear hb
  have f0 : World.cell? _ ⟨g1b', 0, none⟩ = some (.int .i64 r1'.kind) := Bag.cell_at S12.out 4 rfl 0 rfl
  have f1 : World.cell? _ ⟨g1b', 1, none⟩ = some (.int .i64 r1'.n) := Bag.cell_at S12.out 4 rfl 1 rfl
  have f2 : World.cell? _ ⟨g1b', 2, none⟩ = some (.string r1'.text) := Bag.cell_at S12.out 4 rfl 2 rfl
  have f3 : World.cell? _ ⟨g3, 0, none⟩ = some (.int .i64 r1'.kind) := Bag.cell_at S12.out 11 rfl 0 rfl
  have f4 : World.cell? _ ⟨g3, 1, none⟩ = some (.int .i64 r1'.n) := Bag.cell_at S12.out 11 rfl 1 rfl
  have f5 : World.cell? _ ⟨g3, 2, none⟩ = some (.string r1'.text) := Bag.cell_at S12.out 11 rfl 2 rfl
  go_wp2_with fail
  go_at_call 46
  have HC := L4.eqKey_any r1' w9
  try dsimp only [L6.LS.v, L6.LS.cells, L4.K.v, L4.R.v] at HC
  refine HC.mono ?_
  clear HC
  rintro e w10 ⟨rfl, hb⟩
  clear f0 f1 f2 f3 f4 f5
  have S13 := Lib.hid (show Sl.Sep W _ [_, _, _, _, _, _, _, _, _, _, _, _] from S12.out.keep hb)
  clear S12
  clear hb
  go_upto_region 14 with fail
  refine wp_region_held_drew (S := (fun w' => w'.cell? ⟨W.heap.size, 0, none⟩ = some (.string y0.name) ∧ w'.cell? ⟨W.heap.size, 1, none⟩ = some (.slice y0.a y0.xs.length y0.c) ∧ w'.cell? ⟨W.heap.size, 2, none⟩ = some (.int .i64 y0.auto) ∧ w'.cell? ⟨g1, 0, none⟩ = some (.string z2'.name) ∧ w'.cell? ⟨g1, 1, none⟩ = some (.slice z2'.a z2'.xs.length z2'.c) ∧ w'.cell? ⟨g1, 2, none⟩ = some (.int .i64 z2'.auto))) (by kernel_rfl) ⟨Bag.cell_at S13.out 0 rfl 0 rfl, Bag.cell_at S13.out 0 rfl 1 rfl, Bag.cell_at S13.out 0 rfl 2 rfl, Bag.cell_at S13.out 6 rfl 0 rfl, Bag.cell_at S13.out 6 rfl 1 rfl, Bag.cell_at S13.out 6 rfl 2 rfl⟩ (fun hS => ?_)
  have S14 := Lib.hid (Bag.drew1 S13.out)
  clear S13
  generalize World.drew _ = w11 at hS S14 ⊢
  refine tk 0 rfl ?_
  try simp only [zp0, zp1, zp2, zp3, zp4]
  refine tk 1 rfl ?_
  try simp only [zp0, zp1, zp2, zp3, zp4]
  refine Reg.one_op (i := 2) rfl (by kernel_rfl) (fun K hK => ?_)
  go_simp
  go_at_call 37
  have HC := L6.toStore_any y0 (by rw [HC0.out]; exact HF0.out) _ (HRY0.out _ S14.out.old)
  try dsimp only [L6.LS.v, L6.LS.cells, L4.K.v, L4.R.v] at HC
  refine HC.mono ?_
  clear HC
  rintro e w12 ⟨z5', rfl, hcon, ho, hb⟩
  have S15 := Lib.hid (show Sl.Sep W _ [_, _, _, _, _, _, _, _, _, _, _, _, Bag.bag z5'.rows] from Bag.push_bag S14.out hb ho)
  clear S14
  clear hb ho
  have HZz5' := Lib.hid (hcon.trans HC0.out)
  clear hcon
  try dsimp only [L6.LS.v, L6.LS.cells]
  go_wp2_with fail
  refine hK.out _ _ ⟨Bag.cell_at S15.out 0 rfl 0 rfl, Bag.cell_at S15.out 0 rfl 1 rfl, Bag.cell_at S15.out 0 rfl 2 rfl, Bag.cell_at S15.out 6 rfl 0 rfl, Bag.cell_at S15.out 6 rfl 1 rfl, Bag.cell_at S15.out 6 rfl 2 rfl⟩ (fun hS => ?_)
  clear hK K
  try simp only [zp0, zp1, zp2, zp3, zp4]
  refine Reg.one_op (i := 3) rfl (by kernel_rfl) (fun K hK => ?_)
  go_simp
  go_at_call 40
  have HC := L6.eqStore_any z2' z5' (HZz2'.out.trans HZz5'.out.symm) (by rw [HZz2'.out]; exact HF0.out) _ (Bag.bag_rd S15.out 5 rfl) (Bag.bag_rd S15.out 12 rfl)
  try dsimp only [L6.LS.v, L6.LS.cells, L4.K.v, L4.R.v] at HC
  refine HC.mono ?_
  clear HC
  rintro e w13 ⟨rfl, hb⟩
  have S16 := Lib.hid (show Sl.Sep W _ [_, _, _, _, _, _, _, _, _, _, _, _, _] from S15.out.keep hb)
  clear S15
  clear hb
  go_wp2_with fail
  refine hK.out _ _ ⟨Bag.cell_at S16.out 0 rfl 0 rfl, Bag.cell_at S16.out 0 rfl 1 rfl, Bag.cell_at S16.out 0 rfl 2 rfl, Bag.cell_at S16.out 6 rfl 0 rfl, Bag.cell_at S16.out 6 rfl 1 rfl, Bag.cell_at S16.out 6 rfl 2 rfl⟩ (fun hS => ?_)
  clear hK K
  try simp only [zp0, zp1, zp2, zp3, zp4]
  refine tk 4 rfl ?_
  try simp only [zp0, zp1, zp2, zp3, zp4]
  refine wpAnyH_done (by kernel_rfl) ?_ _
  have f0 : World.cell? _ ⟨W.heap.size, 0, none⟩ = some (.string y0.name) := Bag.cell_at S16.out 0 rfl 0 rfl
  have f1 : World.cell? _ ⟨W.heap.size, 1, none⟩ = some (.slice y0.a y0.xs.length y0.c) := Bag.cell_at S16.out 0 rfl 1 rfl
  have f2 : World.cell? _ ⟨W.heap.size, 2, none⟩ = some (.int .i64 y0.auto) := Bag.cell_at S16.out 0 rfl 2 rfl
  have f3 : World.cell? _ ⟨W.heap.size + 1, 0, none⟩ = some (.slice a1 l1.length c1) := Bag.cell_at S16.out 1 rfl 0 rfl
  have f4 : World.cell? _ ⟨g1a', 0, none⟩ = some (.string z1'.name) := Bag.cell_at S16.out 3 rfl 0 rfl
  have f5 : World.cell? _ ⟨g1a', 1, none⟩ = some (.slice z1'.a z1'.xs.length z1'.c) := Bag.cell_at S16.out 3 rfl 1 rfl
  have f6 : World.cell? _ ⟨g1a', 2, none⟩ = some (.int .i64 z1'.auto) := Bag.cell_at S16.out 3 rfl 2 rfl
  have f7 : World.cell? _ ⟨g1b', 0, none⟩ = some (.int .i64 r1'.kind) := Bag.cell_at S16.out 4 rfl 0 rfl
  have f8 : World.cell? _ ⟨g1b', 1, none⟩ = some (.int .i64 r1'.n) := Bag.cell_at S16.out 4 rfl 1 rfl
  have f9 : World.cell? _ ⟨g1b', 2, none⟩ = some (.string r1'.text) := Bag.cell_at S16.out 4 rfl 2 rfl
  have f10 : World.cell? _ ⟨g1, 0, none⟩ = some (.string z2'.name) := Bag.cell_at S16.out 6 rfl 0 rfl
  have f11 : World.cell? _ ⟨g1, 1, none⟩ = some (.slice z2'.a z2'.xs.length z2'.c) := Bag.cell_at S16.out 6 rfl 1 rfl
  have f12 : World.cell? _ ⟨g1, 2, none⟩ = some (.int .i64 z2'.auto) := Bag.cell_at S16.out 6 rfl 2 rfl
  have f13 : World.cell? _ ⟨g2, 0, none⟩ = some (.slice ax3 l1.length cx3) := Bag.cell_at S16.out 8 rfl 0 rfl
  have f14 : World.cell? _ ⟨g4, 0, none⟩ = some (.string z4'.name) := Bag.cell_at S16.out 10 rfl 0 rfl
  have f15 : World.cell? _ ⟨g4, 1, none⟩ = some (.slice z4'.a z4'.xs.length z4'.c) := Bag.cell_at S16.out 10 rfl 1 rfl
  have f16 : World.cell? _ ⟨g4, 2, none⟩ = some (.int .i64 z4'.auto) := Bag.cell_at S16.out 10 rfl 2 rfl
  have f17 : World.cell? _ ⟨g3, 0, none⟩ = some (.int .i64 r1'.kind) := Bag.cell_at S16.out 11 rfl 0 rfl
  have f18 : World.cell? _ ⟨g3, 1, none⟩ = some (.int .i64 r1'.n) := Bag.cell_at S16.out 11 rfl 1 rfl
  have f19 : World.cell? _ ⟨g3, 2, none⟩ = some (.string r1'.text) := Bag.cell_at S16.out 11 rfl 2 rfl
  have S17 := Lib.hid (show Sl.Sep W _ [_, _, _, _, _, _, _, _, _, _, _, _] from Bag.take S16.out [0, 1, 2, 3, 4, 5, 6, 7, 8, 9, 10, 11] (by rfl) (by decide))
  clear S16
  go_upto_region 16 with fail
  clear f0 f1 f2 f3 f4 f5 f6 f7 f8 f9 f10 f11 f12 f13 f14 f15 f16 f17 f18 f19
  refine wp_region_held_drew (S := (fun w' => w'.cell? ⟨W.heap.size + 1, 0, none⟩ = some (.slice a1 l1.length c1) ∧ w'.cell? ⟨g2, 0, none⟩ = some (.slice ax3 l1.length cx3))) (by kernel_rfl) ⟨Bag.cell_at S17.out 1 rfl 0 rfl, Bag.cell_at S17.out 8 rfl 0 rfl⟩ (fun hS => ?_)
  have S18 := Lib.hid (Bag.drew1 S17.out)
  clear S17
  generalize World.drew _ = w14 at hS S18 ⊢
  refine tk 0 rfl ?_
  try simp only [zp0, zp1, zp2, zp3, zp4]
  refine tk 1 rfl ?_
  try simp only [zp0, zp1, zp2, zp3, zp4]
  refine Reg.one_op (i := 2) rfl (by kernel_rfl) (fun K hK => ?_)
  go_simp
  go_at_call 39
  have HC := L5.toRecord_any a1 c1 l1 (by have := HL1.out.1; omega) _ (HRR1.out _ S18.out.old)
  try dsimp only [L6.LS.v, L6.LS.cells, L4.K.v, L4.R.v] at HC
  refine HC.mono ?_
  clear HC
  rintro e w15 ⟨ax6, cx6, rfl, ho, hb⟩
  have S19 := Lib.hid (show Sl.Sep W _ [_, _, _, _, _, _, _, _, _, _, _, _, Sv.ownV 128 2 ax6 cx6 l1.length (cellsF l1)] from Sv.push_own S18.out hb ho)
  clear S18
  clear hb ho
  go_wp2_with fail
  refine hK.out _ _ ⟨Bag.cell_at S19.out 1 rfl 0 rfl, Bag.cell_at S19.out 8 rfl 0 rfl⟩ (fun hS => ?_)
  clear hK K
  try simp only [zp0, zp1, zp2, zp3, zp4]
  refine Reg.one_op (i := 3) rfl (by kernel_rfl) (fun K hK => ?_)
  go_simp
  go_at_call 41
  have HC := L5.eqRecord_any ax3 ax6 cx3 cx6 l1 (by have := HL1.out.1; omega) _ (Sv.own_at S19.out 7 rfl).reads (Sv.own_at S19.out 12 rfl).reads
  try dsimp only [L6.LS.v, L6.LS.cells, L4.K.v, L4.R.v] at HC
  refine HC.mono ?_
  clear HC
  rintro e w16 ⟨rfl, hb⟩
  have S20 := Lib.hid (show Sl.Sep W _ [_, _, _, _, _, _, _, _, _, _, _, _, _] from S19.out.keep hb)
  clear S19
  clear hb
  go_wp2_with fail
  refine hK.out _ _ ⟨Bag.cell_at S20.out 1 rfl 0 rfl, Bag.cell_at S20.out 8 rfl 0 rfl⟩ (fun hS => ?_)
  clear hK K
  try simp only [zp0, zp1, zp2, zp3, zp4]
  refine tk 4 rfl ?_
  try simp only [zp0, zp1, zp2, zp3, zp4]
  refine wpAnyH_done (by kernel_rfl) ?_ _
  have f0 : World.cell? _ ⟨W.heap.size, 0, none⟩ = some (.string y0.name) := Bag.cell_at S20.out 0 rfl 0 rfl
  have f1 : World.cell? _ ⟨W.heap.size, 1, none⟩ = some (.slice y0.a y0.xs.length y0.c) := Bag.cell_at S20.out 0 rfl 1 rfl
  have f2 : World.cell? _ ⟨W.heap.size, 2, none⟩ = some (.int .i64 y0.auto) := Bag.cell_at S20.out 0 rfl 2 rfl
  have f3 : World.cell? _ ⟨W.heap.size + 1, 0, none⟩ = some (.slice a1 l1.length c1) := Bag.cell_at S20.out 1 rfl 0 rfl
  have f4 : World.cell? _ ⟨g1a', 0, none⟩ = some (.string z1'.name) := Bag.cell_at S20.out 3 rfl 0 rfl
  have f5 : World.cell? _ ⟨g1a', 1, none⟩ = some (.slice z1'.a z1'.xs.length z1'.c) := Bag.cell_at S20.out 3 rfl 1 rfl
  have f6 : World.cell? _ ⟨g1a', 2, none⟩ = some (.int .i64 z1'.auto) := Bag.cell_at S20.out 3 rfl 2 rfl
  have f7 : World.cell? _ ⟨g1b', 0, none⟩ = some (.int .i64 r1'.kind) := Bag.cell_at S20.out 4 rfl 0 rfl
  have f8 : World.cell? _ ⟨g1b', 1, none⟩ = some (.int .i64 r1'.n) := Bag.cell_at S20.out 4 rfl 1 rfl
  have f9 : World.cell? _ ⟨g1b', 2, none⟩ = some (.string r1'.text) := Bag.cell_at S20.out 4 rfl 2 rfl
  have f10 : World.cell? _ ⟨g1, 0, none⟩ = some (.string z2'.name) := Bag.cell_at S20.out 6 rfl 0 rfl
  have f11 : World.cell? _ ⟨g1, 1, none⟩ = some (.slice z2'.a z2'.xs.length z2'.c) := Bag.cell_at S20.out 6 rfl 1 rfl
  have f12 : World.cell? _ ⟨g1, 2, none⟩ = some (.int .i64 z2'.auto) := Bag.cell_at S20.out 6 rfl 2 rfl
  have f13 : World.cell? _ ⟨g2, 0, none⟩ = some (.slice ax3 l1.length cx3) := Bag.cell_at S20.out 8 rfl 0 rfl
  have f14 : World.cell? _ ⟨g4, 0, none⟩ = some (.string z4'.name) := Bag.cell_at S20.out 10 rfl 0 rfl
  have f15 : World.cell? _ ⟨g4, 1, none⟩ = some (.slice z4'.a z4'.xs.length z4'.c) := Bag.cell_at S20.out 10 rfl 1 rfl
  have f16 : World.cell? _ ⟨g4, 2, none⟩ = some (.int .i64 z4'.auto) := Bag.cell_at S20.out 10 rfl 2 rfl
  have f17 : World.cell? _ ⟨g3, 0, none⟩ = some (.int .i64 r1'.kind) := Bag.cell_at S20.out 11 rfl 0 rfl
  have f18 : World.cell? _ ⟨g3, 1, none⟩ = some (.int .i64 r1'.n) := Bag.cell_at S20.out 11 rfl 1 rfl
  have f19 : World.cell? _ ⟨g3, 2, none⟩ = some (.string r1'.text) := Bag.cell_at S20.out 11 rfl 2 rfl
  have S21 := Lib.hid (show Sl.Sep W _ [_, _, _, _, _, _, _, _, _, _, _, _] from Bag.take S20.out [0, 1, 2, 3, 4, 5, 6, 7, 8, 9, 10, 11] (by rfl) (by decide))
  clear S20
  have HLNz2' := Lib.hid (show ∀ x ∈ z2'.xs, x.l.length ≤ 1048576 from (fun x hx => (show L6.FitS z2'.con from (by rw [HZz2'.out]; exact HF0.out)).items x.con (List.mem_map.2 ⟨x, hx, rfl⟩) |>.len))
  have HNLz2' := Lib.hid (show z2'.xs.length ≤ 1048576 from by have h := (show L6.FitS z2'.con from (by rw [HZz2'.out]; exact HF0.out)).len; simpa [L6.LS.con] using h)
  obtain ⟨Ez2', hE⟩ : ∃ E, L6.endI 1 z2'.xs = E := ⟨_, rfl⟩
  have hEb := (L6.endI_range z2'.xs 1 HLNz2'.out)
  rw [hE] at hEb
  have hEb0 : 1 ≤ Ez2' := hEb.1
  have hEb1 : Ez2' ≤ 4398046511104 := by have := HNLz2'.out; omega
  have HEz2' := Lib.hid hE
  clear hE hEb
  clear f0 f1 f2 f3 f4 f5 f6 f7 f8 f9 f10 f11 f12 f13 f14 f15 f16 f17 f18 f19
  have f0 : World.cell? _ ⟨g1, 0, none⟩ = some (.string z2'.name) := Bag.cell_at S21.out 6 rfl 0 rfl
  have f1 : World.cell? _ ⟨g1, 1, none⟩ = some (.slice z2'.a z2'.xs.length z2'.c) := Bag.cell_at S21.out 6 rfl 1 rfl
  have f2 : World.cell? _ ⟨g1, 2, none⟩ = some (.int .i64 z2'.auto) := Bag.cell_at S21.out 6 rfl 2 rfl
  go_wp2_with fail
  go_at_call 42
  have HC := L6.markStore_any S21.out 5 (y := z2') rfl 1 (by rw [HZz2'.out]; exact HF0.out) (by omega) (by omega)
  try dsimp only [L6.LS.v, L6.LS.cells, L4.K.v, L4.R.v] at HC
  rw [HEz2'.out] at HC
  refine HC.mono ?_
  clear HC
  rintro e w17 ⟨rfl, hS⟩
  clear f0 f1 f2
  have S22 := Lib.hid (show Sl.Sep W _ [_, _, _, _, _, Bag.bag ((L6.LS.marked 1 z2').rows), _, _, _, _, _, _] from hS)
  clear S21
  clear hS
  have f0 : World.cell? _ ⟨g2, 0, none⟩ = some (.slice ax3 l1.length cx3) := Bag.cell_at S22.out 8 rfl 0 rfl
  go_wp2_with fail
  go_at_call 43
  have HC := L5.markRec S22.out 7 rfl Ez2' (by have := HL1.out.1; omega) (by omega) (by omega)
  try dsimp only [L6.LS.v, L6.LS.cells, L4.K.v, L4.R.v] at HC
  refine HC.mono ?_
  clear HC
  rintro e w18 ⟨rfl, hS⟩
  clear f0
  have S23 := Lib.hid (show Sl.Sep W _ [_, _, _, _, _, _, _, Sv.ownV 128 2 ax3 cx3 l1.length (cellsF (L5.marksF Ez2' l1.length)), _, _, _, _] from hS)
  clear S22
  clear hS
  have hkn : ¬ (Ez2' + 2 * (l1.length : Int) < 0) := by omega
  have f0 : World.cell? _ ⟨g1a', 0, none⟩ = some (.string z1'.name) := Bag.cell_at S23.out 3 rfl 0 rfl
  have f1 : World.cell? _ ⟨g1a', 1, none⟩ = some (.slice z1'.a z1'.xs.length z1'.c) := Bag.cell_at S23.out 3 rfl 1 rfl
  have f2 : World.cell? _ ⟨g1a', 2, none⟩ = some (.int .i64 z1'.auto) := Bag.cell_at S23.out 3 rfl 2 rfl
  have f3 : World.cell? _ ⟨g4, 0, none⟩ = some (.string z4'.name) := Bag.cell_at S23.out 10 rfl 0 rfl
  have f4 : World.cell? _ ⟨g4, 1, none⟩ = some (.slice z4'.a z4'.xs.length z4'.c) := Bag.cell_at S23.out 10 rfl 1 rfl
  have f5 : World.cell? _ ⟨g4, 2, none⟩ = some (.int .i64 z4'.auto) := Bag.cell_at S23.out 10 rfl 2 rfl
  go_wp2_with fail
  go_at_call 40
  have HC := L6.eqStore_any z4' z1' (HZz4'.out.trans HZz1'.out.symm) (by rw [HZz4'.out]; exact HFR.out) _ (Bag.bag_rd S23.out 9 rfl) (Bag.bag_rd S23.out 2 rfl)
  try dsimp only [L6.LS.v, L6.LS.cells, L4.K.v, L4.R.v] at HC
  refine HC.mono ?_
  clear HC
  rintro e w19 ⟨rfl, hb⟩
  clear f0 f1 f2 f3 f4 f5
  have S24 := Lib.hid (show Sl.Sep W _ [_, _, _, _, _, _, _, _, _, _, _, _] from S23.out.keep hb)
  clear S23
  clear hb
  have f0 : World.cell? _ ⟨g1b', 0, none⟩ = some (.int .i64 r1'.kind) := Bag.cell_at S24.out 4 rfl 0 rfl
  have f1 : World.cell? _ ⟨g1b', 1, none⟩ = some (.int .i64 r1'.n) := Bag.cell_at S24.out 4 rfl 1 rfl
  have f2 : World.cell? _ ⟨g1b', 2, none⟩ = some (.string r1'.text) := Bag.cell_at S24.out 4 rfl 2 rfl
  have f3 : World.cell? _ ⟨g3, 0, none⟩ = some (.int .i64 r1'.kind) := Bag.cell_at S24.out 11 rfl 0 rfl
  have f4 : World.cell? _ ⟨g3, 1, none⟩ = some (.int .i64 r1'.n) := Bag.cell_at S24.out 11 rfl 1 rfl
  have f5 : World.cell? _ ⟨g3, 2, none⟩ = some (.string r1'.text) := Bag.cell_at S24.out 11 rfl 2 rfl
  go_wp2_with fail
  go_at_call 46
  have HC := L4.eqKey_any r1' w19
  try dsimp only [L6.LS.v, L6.LS.cells, L4.K.v, L4.R.v] at HC
  refine HC.mono ?_
  clear HC
  rintro e w20 ⟨rfl, hb⟩
  clear f0 f1 f2 f3 f4 f5
  have S25 := Lib.hid (show Sl.Sep W _ [_, _, _, _, _, _, _, _, _, _, _, _] from S24.out.keep hb)
  clear S24
  clear hb
  have HLNz4' := Lib.hid (show ∀ x ∈ z4'.xs, x.l.length ≤ 1048576 from (fun x hx => (show L6.FitS z4'.con from (by rw [HZz4'.out]; exact HFR.out)).items x.con (List.mem_map.2 ⟨x, hx, rfl⟩) |>.len))
  have HNLz4' := Lib.hid (show z4'.xs.length ≤ 1048576 from by have h := (show L6.FitS z4'.con from (by rw [HZz4'.out]; exact HFR.out)).len; simpa [L6.LS.con] using h)
  obtain ⟨Ez4', hE⟩ : ∃ E, L6.endI 1 z4'.xs = E := ⟨_, rfl⟩
  have hEb := (L6.endI_range z4'.xs 1 HLNz4'.out)
  rw [hE] at hEb
  have hEb0 : 1 ≤ Ez4' := hEb.1
  have hEb1 : Ez4' ≤ 4398046511104 := by have := HNLz4'.out; omega
  have HEz4' := Lib.hid hE
  clear hE hEb
  have f0 : World.cell? _ ⟨g4, 0, none⟩ = some (.string z4'.name) := Bag.cell_at S25.out 10 rfl 0 rfl
  have f1 : World.cell? _ ⟨g4, 1, none⟩ = some (.slice z4'.a z4'.xs.length z4'.c) := Bag.cell_at S25.out 10 rfl 1 rfl
  have f2 : World.cell? _ ⟨g4, 2, none⟩ = some (.int .i64 z4'.auto) := Bag.cell_at S25.out 10 rfl 2 rfl
  go_wp2_with fail
  go_at_call 42
  have HC := L6.markStore_any S25.out 9 (y := z4') rfl 1 (by rw [HZz4'.out]; exact HFR.out) (by omega) (by omega)
  try dsimp only [L6.LS.v, L6.LS.cells, L4.K.v, L4.R.v] at HC
  rw [HEz4'.out] at HC
  refine HC.mono ?_
  clear HC
  rintro e w21 ⟨rfl, hS⟩
  clear f0 f1 f2
  have S26 := Lib.hid (show Sl.Sep W _ [_, _, _, _, _, _, _, _, _, Bag.bag ((L6.LS.marked 1 z4').rows), _, _] from hS)
  clear S25
  clear hS
  have f0 : World.cell? _ ⟨g4, 0, none⟩ = some (.string z4'.name) := Bag.cell_at S26.out 10 rfl 0 rfl
  have f1 : World.cell? _ ⟨g4, 1, none⟩ = some (.slice z4'.a z4'.xs.length z4'.c) := Bag.cell_at S26.out 10 rfl 1 rfl
  have f2 : World.cell? _ ⟨g4, 2, none⟩ = some (.int .i64 z4'.auto) := Bag.cell_at S26.out 10 rfl 2 rfl
  go_wp2_with fail
  go_at_call 44
  have HC := L6.heldStore_any z4' 1 (by rw [HZz4'.out]; exact HFR.out) (by omega) (by omega) _ (Bag.bag_rd S26.out 9 rfl)
  try dsimp only [L6.LS.v, L6.LS.cells, L4.K.v, L4.R.v] at HC
  rw [HEz4'.out] at HC
  refine HC.mono ?_
  clear HC
  rintro e w22 ⟨rfl, hb⟩
  clear f0 f1 f2
  have S27 := Lib.hid (show Sl.Sep W _ [_, _, _, _, _, _, _, _, _, _, _, _] from S26.out.keep hb)
  clear S26
  clear hb
  have S28 := Lib.hid (show Sl.Sep W _ [_, _, _, _, _, _, _, _, _, _, _, _] from Bag.take S27.out [0, 1, 2, 3, 4, 5, 6, 7, 8, 9, 10, 11] (by rfl) (by decide))
  clear S27
  have S29 := Lib.hid (show Sl.Sep W _ [L4.boxR W.heap.size 57 #[.string y0.name, .slice y0.a y0.xs.length y0.c, .int .i64 y0.auto], L4.boxR (W.heap.size + 1) 61 #[.slice a1 l1.length c1], Run.allR [Bag.bag z1'.rows, L4.boxR g1a' 26 #[.string z1'.name, .slice z1'.a z1'.xs.length z1'.c, .int .i64 z1'.auto], L4.boxR g1b' 28 #[.int .i64 r1'.kind, .int .i64 r1'.n, .string r1'.text], Bag.bag ((L6.LS.marked 1 z2').rows), L4.boxR g1 26 #[.string z2'.name, .slice z2'.a z2'.xs.length z2'.c, .int .i64 z2'.auto], Sv.ownV 128 2 ax3 cx3 l1.length (cellsF (L5.marksF Ez2' l1.length)), L4.boxR g2 31 #[.slice ax3 l1.length cx3], Bag.bag ((L6.LS.marked 1 z4').rows), L4.boxR g4 26 #[.string z4'.name, .slice z4'.a z4'.xs.length z4'.c, .int .i64 z4'.auto], L4.boxR g3 28 #[.int .i64 r1'.kind, .int .i64 r1'.n, .string r1'.text]]] from Run.packR (us := [L4.boxR W.heap.size 57 #[.string y0.name, .slice y0.a y0.xs.length y0.c, .int .i64 y0.auto], L4.boxR (W.heap.size + 1) 61 #[.slice a1 l1.length c1]]) (vs := [Bag.bag z1'.rows, L4.boxR g1a' 26 #[.string z1'.name, .slice z1'.a z1'.xs.length z1'.c, .int .i64 z1'.auto], L4.boxR g1b' 28 #[.int .i64 r1'.kind, .int .i64 r1'.n, .string r1'.text], Bag.bag ((L6.LS.marked 1 z2').rows), L4.boxR g1 26 #[.string z2'.name, .slice z2'.a z2'.xs.length z2'.c, .int .i64 z2'.auto], Sv.ownV 128 2 ax3 cx3 l1.length (cellsF (L5.marksF Ez2' l1.length)), L4.boxR g2 31 #[.slice ax3 l1.length cx3], Bag.bag ((L6.LS.marked 1 z4').rows), L4.boxR g4 26 #[.string z4'.name, .slice z4'.a z4'.xs.length z4'.c, .int .i64 z4'.auto], L4.boxR g3 28 #[.int .i64 r1'.kind, .int .i64 r1'.n, .string r1'.text]]) S28.out)
  clear S28
  obtain ⟨QQ, hQQ⟩ : ∃ Q, Q = Run.allR [Bag.bag z1'.rows, L4.boxR g1a' 26 #[.string z1'.name, .slice z1'.a z1'.xs.length z1'.c, .int .i64 z1'.auto], L4.boxR g1b' 28 #[.int .i64 r1'.kind, .int .i64 r1'.n, .string r1'.text], Bag.bag ((L6.LS.marked 1 z2').rows), L4.boxR g1 26 #[.string z2'.name, .slice z2'.a z2'.xs.length z2'.c, .int .i64 z2'.auto], Sv.ownV 128 2 ax3 cx3 l1.length (cellsF (L5.marksF Ez2' l1.length)), L4.boxR g2 31 #[.slice ax3 l1.length cx3], Bag.bag ((L6.LS.marked 1 z4').rows), L4.boxR g4 26 #[.string z4'.name, .slice z4'.a z4'.xs.length z4'.c, .int .i64 z4'.auto], L4.boxR g3 28 #[.int .i64 r1'.kind, .int .i64 r1'.n, .string r1'.text]] := ⟨_, rfl⟩
  rw [← hQQ] at S29
  have HQQ := Lib.hid hQQ
  clear hQQ
  go_upto_region 31 with fail
  have HTO0 := Lib.hid (fun w' (h : Below W.heap.size W w') => L6.toStore_any y0 (by rw [HC0.out]; exact HF0.out) w' (HRY0.out w' h))
  try dsimp only [L6.LS.v, L6.LS.cells, L4.K.v, L4.R.v] at HTO0
  have HTO1 := Lib.hid (fun w' (h : Below W.heap.size W w') => L5.toRecord_any a1 c1 l1 (by have := HL1.out.1; omega) w' (HRR1.out w' h))
  try dsimp only [L6.LS.v, L6.LS.cells, L4.K.v, L4.R.v] at HTO1
  go_cut [17, 18, 19] (fun pz0 pz1 qs0 wx => ∃ (g7a' g7b' : Nat) (z7' : L6.LS), pz0 = .pointer (some ⟨g7a', 0, none⟩) ∧ pz1 = .pointer (some ⟨g7b', 0, none⟩) ∧ qs0 = .bool r2' ∧ Hid (z7'.con = r0' ∧ Sl.Sep W wx [L4.boxR W.heap.size 57 #[.string y0.name, .slice y0.a y0.xs.length y0.c, .int .i64 y0.auto], L4.boxR (W.heap.size + 1) 61 #[.slice a1 l1.length c1], QQ, Bag.bag z7'.rows, L4.boxR g7a' 26 #[.string z7'.name, .slice z7'.a z7'.xs.length z7'.c, .int .i64 z7'.auto], L4.boxR g7b' 28 #[.int .i64 r1'.kind, .int .i64 r1'.n, .string r1'.text]]))
  case first =>
   refine wp_region_held_drew (S := (fun w' => w'.cell? ⟨W.heap.size, 0, none⟩ = some (.string y0.name) ∧ w'.cell? ⟨W.heap.size, 1, none⟩ = some (.slice y0.a y0.xs.length y0.c) ∧ w'.cell? ⟨W.heap.size, 2, none⟩ = some (.int .i64 y0.auto) ∧ w'.cell? ⟨W.heap.size + 1, 0, none⟩ = some (.slice a1 l1.length c1))) (by kernel_rfl) ⟨Bag.cell_at S29.out 0 rfl 0 rfl, Bag.cell_at S29.out 0 rfl 1 rfl, Bag.cell_at S29.out 0 rfl 2 rfl, Bag.cell_at S29.out 1 rfl 0 rfl⟩ (fun hS => ?_)
   have S30 := Lib.hid (Bag.drew1 S29.out)
   clear S29
   generalize World.drew _ = w23 at hS S30 ⊢
   apply share7
   case main =>
    intro hrest
    refine tk 0 rfl ?_
    try simp only [zp0, zp1, zp2, zp3, zp4]
    refine tk 2 rfl ?_
    try simp only [zp0, zp1, zp2, zp3, zp4]
    refine wpAnyH_ready (rs := [1, 9, 10]) (by kernel_rfl) (by simp) ?_
    refine Reg.cons_op (i := 1) rfl (fun K hK => ?_) ?_
    go_simp
    go_at_call 37
    refine (HTO0.out _ S30.out.old).mono ?_
    rintro e w24 ⟨zs0, rfl, hcon, ho, hb⟩
    have S31 := Lib.hid (show Sl.Sep W _ [_, _, QQ, Bag.bag zs0.rows] from Bag.push_bag S30.out hb ho)
    clear hb ho
    have HZzs0 := Lib.hid (hcon.trans HC0.out)
    clear hcon
    go_wp2_with fail
    refine hK.out _ _ ⟨Bag.cell_at S31.out 0 rfl 0 rfl, Bag.cell_at S31.out 0 rfl 1 rfl, Bag.cell_at S31.out 0 rfl 2 rfl, Bag.cell_at S31.out 1 rfl 0 rfl⟩ (fun hS => ?_)
    clear hK K
    try simp only [zp0, zp1, zp2, zp3, zp4]
    refine wpAnyH_ready (rs := [3, 9, 10]) (by kernel_rfl) (by simp) ?_
    refine Reg.cons_op (i := 3) rfl (fun K hK => ?_) ?_
    go_simp
    go_at_call 39
    refine (HTO1.out _ S31.out.old).mono ?_
    rintro e w25 ⟨ar1, cr1, rfl, ho, hb⟩
    have S32 := Lib.hid (show Sl.Sep W _ [_, _, QQ, _, Sv.ownV 128 2 ar1 cr1 l1.length (cellsF l1)] from Sv.push_own S31.out hb ho)
    clear S31
    clear hb ho
    go_wp2_with fail
    refine hK.out _ _ ⟨Bag.cell_at S32.out 0 rfl 0 rfl, Bag.cell_at S32.out 0 rfl 1 rfl, Bag.cell_at S32.out 0 rfl 2 rfl, Bag.cell_at S32.out 1 rfl 0 rfl⟩ (fun hS => ?_)
    clear hK K
    try simp only [zp0, zp1, zp2, zp3, zp4]
    refine wpAnyH_ready (rs := [4, 9, 10]) (by kernel_rfl) (by simp) ?_
    refine Reg.cons_op (i := 4) rfl (fun K hK => ?_) ?_
    go_simp
    go_at_call 24
    refine (Cimpl.out zs0 HZzs0.out ar1 cr1 _ (Bag.bag_rd S32.out 3 rfl) (Sv.own_at S32.out 4 rfl).reads).mono ?_
    rintro e w26 ⟨zr, rfl, hcon, ho, hb⟩
    have S33 := Lib.hid (show Sl.Sep W _ [_, _, QQ, _, _, Bag.bag zr.rows] from Bag.push_bag S32.out hb ho)
    clear S32
    clear hb ho
    have HZzr := Lib.hid hcon
    clear hcon
    go_wp2_with fail
    refine hK.out _ _ ⟨Bag.cell_at S33.out 0 rfl 0 rfl, Bag.cell_at S33.out 0 rfl 1 rfl, Bag.cell_at S33.out 0 rfl 2 rfl, Bag.cell_at S33.out 1 rfl 0 rfl⟩ (fun hS => ?_)
    clear hK K
    try simp only [zp0, zp1, zp2, zp3, zp4]
    refine tk 5 rfl ?_
    try simp only [zp0, zp1, zp2, zp3, zp4]
    refine tk 6 rfl ?_
    try simp only [zp0, zp1, zp2, zp3, zp4]
    refine tk 7 rfl ?_
    try simp only [zp0, zp1, zp2, zp3, zp4]
    refine tk 8 rfl ?_
    try simp only [zp0, zp1, zp2, zp3, zp4]
    refine wpAnyH_ready (rs := [9, 10]) (by kernel_rfl) (by simp) ?_
    refine Reg.cons_op (i := 9) rfl (fun K hK => ?_) ?_
    go_simp
    have S34 := Lib.hid (show Sl.Sep W _ [_, _, _, _, _, _, _] from L4.push_box S33.out 26 #[.string ⟨#[]⟩, .slice none 0 0, .int .i64 0] w26.heap.size rfl)
    clear S33
    obtain ⟨gb0, hg⟩ : ∃ g', g' = w26.heap.size := ⟨_, rfl⟩
    rw [← hg] at S34 ⊢
    clear hg
    generalize w26.alloc (.cells #[.string ⟨#[]⟩, .slice none 0 0, .int .i64 0] 26) = w27 at S34 ⊢
    refine hK.out _ _ ⟨Bag.cell_at S34.out 0 rfl 0 rfl, Bag.cell_at S34.out 0 rfl 1 rfl, Bag.cell_at S34.out 0 rfl 2 rfl, Bag.cell_at S34.out 1 rfl 0 rfl⟩ (fun hS => ?_)
    clear hK K
    try simp only [zp0, zp1, zp2, zp3, zp4]
    refine Reg.one_op (i := 10) rfl (by kernel_rfl) (fun K hK => ?_)
    go_simp
    have S35 := Lib.hid (show Sl.Sep W _ [_, _, _, _, _, _, _, _] from L4.push_box S34.out 28 #[.int .i64 0, .int .i64 0, .string ⟨#[]⟩] w27.heap.size rfl)
    clear S34
    obtain ⟨gb1, hg⟩ : ∃ g', g' = w27.heap.size := ⟨_, rfl⟩
    rw [← hg] at S35 ⊢
    clear hg
    generalize w27.alloc (.cells #[.int .i64 0, .int .i64 0, .string ⟨#[]⟩] 28) = w28 at S35 ⊢
    refine hK.out _ _ ⟨Bag.cell_at S35.out 0 rfl 0 rfl, Bag.cell_at S35.out 0 rfl 1 rfl, Bag.cell_at S35.out 0 rfl 2 rfl, Bag.cell_at S35.out 1 rfl 0 rfl⟩ (fun hS => ?_)
    clear hK K
    try simp only [zp0, zp1, zp2, zp3, zp4]
    have S36 := Lib.hid (show Sl.Sep W _ [_, _, QQ, _, _, L4.boxR gb1 28 #[.int .i64 0, .int .i64 0, .string ⟨#[]⟩]] from Bag.take S35.out [0, 1, 2, 5, 6, 7] (by rfl) (by decide))
    clear S35
    revert S36
    revert HZzr
    revert hS
    exact hrest gb0 gb1 zr zs0 ar1 cr1 w28
    refine Reg.cons_op (i := 10) rfl (fun K hK => ?_) ?_
    go_simp
    have S34 := Lib.hid (show Sl.Sep W _ [_, _, _, _, _, _, _] from L4.push_box S33.out 28 #[.int .i64 0, .int .i64 0, .string ⟨#[]⟩] w26.heap.size rfl)
    clear S33
    obtain ⟨gb1, hg⟩ : ∃ g', g' = w26.heap.size := ⟨_, rfl⟩
    rw [← hg] at S34 ⊢
    clear hg
    generalize w26.alloc (.cells #[.int .i64 0, .int .i64 0, .string ⟨#[]⟩] 28) = w27 at S34 ⊢
    refine hK.out _ _ ⟨Bag.cell_at S34.out 0 rfl 0 rfl, Bag.cell_at S34.out 0 rfl 1 rfl, Bag.cell_at S34.out 0 rfl 2 rfl, Bag.cell_at S34.out 1 rfl 0 rfl⟩ (fun hS => ?_)
    clear hK K
    try simp only [zp0, zp1, zp2, zp3, zp4]
    refine Reg.one_op (i := 9) rfl (by kernel_rfl) (fun K hK => ?_)
    go_simp
    have S35 := Lib.hid (show Sl.Sep W _ [_, _, _, _, _, _, _, _] from L4.push_box S34.out 26 #[.string ⟨#[]⟩, .slice none 0 0, .int .i64 0] w27.heap.size rfl)
    clear S34
    obtain ⟨gb0, hg⟩ : ∃ g', g' = w27.heap.size := ⟨_, rfl⟩
    rw [← hg] at S35 ⊢
    clear hg
    generalize w27.alloc (.cells #[.string ⟨#[]⟩, .slice none 0 0, .int .i64 0] 26) = w28 at S35 ⊢
    refine hK.out _ _ ⟨Bag.cell_at S35.out 0 rfl 0 rfl, Bag.cell_at S35.out 0 rfl 1 rfl, Bag.cell_at S35.out 0 rfl 2 rfl, Bag.cell_at S35.out 1 rfl 0 rfl⟩ (fun hS => ?_)
    clear hK K
    try simp only [zp0, zp1, zp2, zp3, zp4]
    have S36 := Lib.hid (show Sl.Sep W _ [_, _, QQ, _, L4.boxR gb0 26 #[.string ⟨#[]⟩, .slice none 0 0, .int .i64 0], _] from Bag.take S35.out [0, 1, 2, 5, 7, 6] (by rfl) (by decide))
    clear S35
    revert S36
    revert HZzr
    revert hS
    exact hrest gb0 gb1 zr zs0 ar1 cr1 w28
    exact AllReadyH.nil
    refine Reg.cons_op (i := 9) rfl (fun K hK => ?_) ?_
    go_simp
    have S33 := Lib.hid (show Sl.Sep W _ [_, _, _, _, _, _] from L4.push_box S32.out 26 #[.string ⟨#[]⟩, .slice none 0 0, .int .i64 0] w25.heap.size rfl)
    clear S32
    obtain ⟨gb0, hg⟩ : ∃ g', g' = w25.heap.size := ⟨_, rfl⟩
    rw [← hg] at S33 ⊢
    clear hg
    generalize w25.alloc (.cells #[.string ⟨#[]⟩, .slice none 0 0, .int .i64 0] 26) = w26 at S33 ⊢
    refine hK.out _ _ ⟨Bag.cell_at S33.out 0 rfl 0 rfl, Bag.cell_at S33.out 0 rfl 1 rfl, Bag.cell_at S33.out 0 rfl 2 rfl, Bag.cell_at S33.out 1 rfl 0 rfl⟩ (fun hS => ?_)
    clear hK K
    try simp only [zp0, zp1, zp2, zp3, zp4]
    refine wpAnyH_ready (rs := [4, 10]) (by kernel_rfl) (by simp) ?_
    refine Reg.cons_op (i := 4) rfl (fun K hK => ?_) ?_
    go_simp
    go_at_call 24
    refine (Cimpl.out zs0 HZzs0.out ar1 cr1 _ (Bag.bag_rd S33.out 3 rfl) (Sv.own_at S33.out 4 rfl).reads).mono ?_
    rintro e w27 ⟨zr, rfl, hcon, ho, hb⟩
    have S34 := Lib.hid (show Sl.Sep W _ [_, _, QQ, _, _, L4.boxR gb0 26 #[.string ⟨#[]⟩, .slice none 0 0, .int .i64 0], Bag.bag zr.rows] from Bag.push_bag S33.out hb ho)
    clear S33
    clear hb ho
    have HZzr := Lib.hid hcon
    clear hcon
    go_wp2_with fail
    refine hK.out _ _ ⟨Bag.cell_at S34.out 0 rfl 0 rfl, Bag.cell_at S34.out 0 rfl 1 rfl, Bag.cell_at S34.out 0 rfl 2 rfl, Bag.cell_at S34.out 1 rfl 0 rfl⟩ (fun hS => ?_)
    clear hK K
    try simp only [zp0, zp1, zp2, zp3, zp4]
    refine tk 5 rfl ?_
    try simp only [zp0, zp1, zp2, zp3, zp4]
    refine tk 6 rfl ?_
    try simp only [zp0, zp1, zp2, zp3, zp4]
    refine tk 7 rfl ?_
    try simp only [zp0, zp1, zp2, zp3, zp4]
    refine tk 8 rfl ?_
    try simp only [zp0, zp1, zp2, zp3, zp4]
    refine Reg.one_op (i := 10) rfl (by kernel_rfl) (fun K hK => ?_)
    go_simp
    have S35 := Lib.hid (show Sl.Sep W _ [_, _, _, _, _, _, _, _] from L4.push_box S34.out 28 #[.int .i64 0, .int .i64 0, .string ⟨#[]⟩] w27.heap.size rfl)
    clear S34
    obtain ⟨gb1, hg⟩ : ∃ g', g' = w27.heap.size := ⟨_, rfl⟩
    rw [← hg] at S35 ⊢
    clear hg
    generalize w27.alloc (.cells #[.int .i64 0, .int .i64 0, .string ⟨#[]⟩] 28) = w28 at S35 ⊢
    refine hK.out _ _ ⟨Bag.cell_at S35.out 0 rfl 0 rfl, Bag.cell_at S35.out 0 rfl 1 rfl, Bag.cell_at S35.out 0 rfl 2 rfl, Bag.cell_at S35.out 1 rfl 0 rfl⟩ (fun hS => ?_)
    clear hK K
    try simp only [zp0, zp1, zp2, zp3, zp4]
    have S36 := Lib.hid (show Sl.Sep W _ [_, _, QQ, _, _, L4.boxR gb1 28 #[.int .i64 0, .int .i64 0, .string ⟨#[]⟩]] from Bag.take S35.out [0, 1, 2, 6, 5, 7] (by rfl) (by decide))
    clear S35
    revert S36
    revert HZzr
    revert hS
    exact hrest gb0 gb1 zr zs0 ar1 cr1 w28
    refine Reg.cons_op (i := 10) rfl (fun K hK => ?_) ?_
    go_simp
    have S34 := Lib.hid (show Sl.Sep W _ [_, _, _, _, _, _, _] from L4.push_box S33.out 28 #[.int .i64 0, .int .i64 0, .string ⟨#[]⟩] w26.heap.size rfl)
    clear S33
    obtain ⟨gb1, hg⟩ : ∃ g', g' = w26.heap.size := ⟨_, rfl⟩
    rw [← hg] at S34 ⊢
    clear hg
    generalize w26.alloc (.cells #[.int .i64 0, .int .i64 0, .string ⟨#[]⟩] 28) = w27 at S34 ⊢
    refine hK.out _ _ ⟨Bag.cell_at S34.out 0 rfl 0 rfl, Bag.cell_at S34.out 0 rfl 1 rfl, Bag.cell_at S34.out 0 rfl 2 rfl, Bag.cell_at S34.out 1 rfl 0 rfl⟩ (fun hS => ?_)
    clear hK K
    try simp only [zp0, zp1, zp2, zp3, zp4]
    refine Reg.one_op (i := 4) rfl (by kernel_rfl) (fun K hK => ?_)
    go_simp
    go_at_call 24
    refine (Cimpl.out zs0 HZzs0.out ar1 cr1 _ (Bag.bag_rd S34.out 3 rfl) (Sv.own_at S34.out 4 rfl).reads).mono ?_
    rintro e w28 ⟨zr, rfl, hcon, ho, hb⟩
    have S35 := Lib.hid (show Sl.Sep W _ [_, _, QQ, _, _, _, L4.boxR gb1 28 #[.int .i64 0, .int .i64 0, .string ⟨#[]⟩], Bag.bag zr.rows] from Bag.push_bag S34.out hb ho)
    clear S34
    clear hb ho
    have HZzr := Lib.hid hcon
    clear hcon
    go_wp2_with fail
    refine hK.out _ _ ⟨Bag.cell_at S35.out 0 rfl 0 rfl, Bag.cell_at S35.out 0 rfl 1 rfl, Bag.cell_at S35.out 0 rfl 2 rfl, Bag.cell_at S35.out 1 rfl 0 rfl⟩ (fun hS => ?_)
    clear hK K
    try simp only [zp0, zp1, zp2, zp3, zp4]
    refine tk 5 rfl ?_
    try simp only [zp0, zp1, zp2, zp3, zp4]
    refine tk 6 rfl ?_
    try simp only [zp0, zp1, zp2, zp3, zp4]
    refine tk 7 rfl ?_
    try simp only [zp0, zp1, zp2, zp3, zp4]
    refine tk 8 rfl ?_
    try simp only [zp0, zp1, zp2, zp3, zp4]
    have S36 := Lib.hid (show Sl.Sep W _ [_, _, QQ, _, _, _] from Bag.take S35.out [0, 1, 2, 7, 5, 6] (by rfl) (by decide))
    clear S35
    revert S36
    revert HZzr
    revert hS
    exact hrest gb0 gb1 zr zs0 ar1 cr1 w28
    exact AllReadyH.nil
    refine Reg.cons_op (i := 10) rfl (fun K hK => ?_) ?_
    go_simp
    have S33 := Lib.hid (show Sl.Sep W _ [_, _, _, _, _, _] from L4.push_box S32.out 28 #[.int .i64 0, .int .i64 0, .string ⟨#[]⟩] w25.heap.size rfl)
    clear S32
    obtain ⟨gb1, hg⟩ : ∃ g', g' = w25.heap.size := ⟨_, rfl⟩
    rw [← hg] at S33 ⊢
    clear hg
    generalize w25.alloc (.cells #[.int .i64 0, .int .i64 0, .string ⟨#[]⟩] 28) = w26 at S33 ⊢
    refine hK.out _ _ ⟨Bag.cell_at S33.out 0 rfl 0 rfl, Bag.cell_at S33.out 0 rfl 1 rfl, Bag.cell_at S33.out 0 rfl 2 rfl, Bag.cell_at S33.out 1 rfl 0 rfl⟩ (fun hS => ?_)
    clear hK K
    try simp only [zp0, zp1, zp2, zp3, zp4]
    refine wpAnyH_ready (rs := [4, 9]) (by kernel_rfl) (by simp) ?_
    refine Reg.cons_op (i := 4) rfl (fun K hK => ?_) ?_
    go_simp
    go_at_call 24
    refine (Cimpl.out zs0 HZzs0.out ar1 cr1 _ (Bag.bag_rd S33.out 3 rfl) (Sv.own_at S33.out 4 rfl).reads).mono ?_
    rintro e w27 ⟨zr, rfl, hcon, ho, hb⟩
    have S34 := Lib.hid (show Sl.Sep W _ [_, _, QQ, _, _, L4.boxR gb1 28 #[.int .i64 0, .int .i64 0, .string ⟨#[]⟩], Bag.bag zr.rows] from Bag.push_bag S33.out hb ho)
    clear S33
    clear hb ho
    have HZzr := Lib.hid hcon
    clear hcon
    go_wp2_with fail
    refine hK.out _ _ ⟨Bag.cell_at S34.out 0 rfl 0 rfl, Bag.cell_at S34.out 0 rfl 1 rfl, Bag.cell_at S34.out 0 rfl 2 rfl, Bag.cell_at S34.out 1 rfl 0 rfl⟩ (fun hS => ?_)
    clear hK K
    try simp only [zp0, zp1, zp2, zp3, zp4]
    refine tk 5 rfl ?_
    try simp only [zp0, zp1, zp2, zp3, zp4]
    refine tk 6 rfl ?_
    try simp only [zp0, zp1, zp2, zp3, zp4]
    refine tk 7 rfl ?_
    try simp only [zp0, zp1, zp2, zp3, zp4]
    refine tk 8 rfl ?_
    try simp only [zp0, zp1, zp2, zp3, zp4]
    refine Reg.one_op (i := 9) rfl (by kernel_rfl) (fun K hK => ?_)
    go_simp
    have S35 := Lib.hid (show Sl.Sep W _ [_, _, _, _, _, _, _, _] from L4.push_box S34.out 26 #[.string ⟨#[]⟩, .slice none 0 0, .int .i64 0] w27.heap.size rfl)
    clear S34
    obtain ⟨gb0, hg⟩ : ∃ g', g' = w27.heap.size := ⟨_, rfl⟩
    rw [← hg] at S35 ⊢
    clear hg
    generalize w27.alloc (.cells #[.string ⟨#[]⟩, .slice none 0 0, .int .i64 0] 26) = w28 at S35 ⊢
    refine hK.out _ _ ⟨Bag.cell_at S35.out 0 rfl 0 rfl, Bag.cell_at S35.out 0 rfl 1 rfl, Bag.cell_at S35.out 0 rfl 2 rfl, Bag.cell_at S35.out 1 rfl 0 rfl⟩ (fun hS => ?_)
    clear hK K
    try simp only [zp0, zp1, zp2, zp3, zp4]
    have S36 := Lib.hid (show Sl.Sep W _ [_, _, QQ, _, L4.boxR gb0 26 #[.string ⟨#[]⟩, .slice none 0 0, .int .i64 0], _] from Bag.take S35.out [0, 1, 2, 6, 7, 5] (by rfl) (by decide))
    clear S35
    revert S36
    revert HZzr
    revert hS
    exact hrest gb0 gb1 zr zs0 ar1 cr1 w28
    refine Reg.cons_op (i := 9) rfl (fun K hK => ?_) ?_
    go_simp
    have S34 := Lib.hid (show Sl.Sep W _ [_, _, _, _, _, _, _] from L4.push_box S33.out 26 #[.string ⟨#[]⟩, .slice none 0 0, .int .i64 0] w26.heap.size rfl)
    clear S33
    obtain ⟨gb0, hg⟩ : ∃ g', g' = w26.heap.size := ⟨_, rfl⟩
    rw [← hg] at S34 ⊢
    clear hg
    generalize w26.alloc (.cells #[.string ⟨#[]⟩, .slice none 0 0, .int .i64 0] 26) = w27 at S34 ⊢
    refine hK.out _ _ ⟨Bag.cell_at S34.out 0 rfl 0 rfl, Bag.cell_at S34.out 0 rfl 1 rfl, Bag.cell_at S34.out 0 rfl 2 rfl, Bag.cell_at S34.out 1 rfl 0 rfl⟩ (fun hS => ?_)
    clear hK K
    try simp only [zp0, zp1, zp2, zp3, zp4]
    refine Reg.one_op (i := 4) rfl (by kernel_rfl) (fun K hK => ?_)
    go_simp
    go_at_call 24
    refine (Cimpl.out zs0 HZzs0.out ar1 cr1 _ (Bag.bag_rd S34.out 3 rfl) (Sv.own_at S34.out 4 rfl).reads).mono ?_
    rintro e w28 ⟨zr, rfl, hcon, ho, hb⟩
    have S35 := Lib.hid (show Sl.Sep W _ [_, _, QQ, _, _, _, L4.boxR gb0 26 #[.string ⟨#[]⟩, .slice none 0 0, .int .i64 0], Bag.bag zr.rows] from Bag.push_bag S34.out hb ho)
    clear S34
    clear hb ho
    have HZzr := Lib.hid hcon
    clear hcon
    go_wp2_with fail
    refine hK.out _ _ ⟨Bag.cell_at S35.out 0 rfl 0 rfl, Bag.cell_at S35.out 0 rfl 1 rfl, Bag.cell_at S35.out 0 rfl 2 rfl, Bag.cell_at S35.out 1 rfl 0 rfl⟩ (fun hS => ?_)
    clear hK K
    try simp only [zp0, zp1, zp2, zp3, zp4]
    refine tk 5 rfl ?_
    try simp only [zp0, zp1, zp2, zp3, zp4]
    refine tk 6 rfl ?_
    try simp only [zp0, zp1, zp2, zp3, zp4]
    refine tk 7 rfl ?_
    try simp only [zp0, zp1, zp2, zp3, zp4]
    refine tk 8 rfl ?_
    try simp only [zp0, zp1, zp2, zp3, zp4]
    have S36 := Lib.hid (show Sl.Sep W _ [_, _, QQ, _, _, _] from Bag.take S35.out [0, 1, 2, 7, 6, 5] (by rfl) (by decide))
    clear S35
    revert S36
    revert HZzr
    revert hS
    exact hrest gb0 gb1 zr zs0 ar1 cr1 w28
    exact AllReadyH.nil
    exact AllReadyH.nil
    refine Reg.cons_op (i := 9) rfl (fun K hK => ?_) ?_
    go_simp
    have S32 := Lib.hid (show Sl.Sep W _ [_, _, _, _, _] from L4.push_box S31.out 26 #[.string ⟨#[]⟩, .slice none 0 0, .int .i64 0] w24.heap.size rfl)
    clear S31
    obtain ⟨gb0, hg⟩ : ∃ g', g' = w24.heap.size := ⟨_, rfl⟩
    rw [← hg] at S32 ⊢
    clear hg
    generalize w24.alloc (.cells #[.string ⟨#[]⟩, .slice none 0 0, .int .i64 0] 26) = w25 at S32 ⊢
    refine hK.out _ _ ⟨Bag.cell_at S32.out 0 rfl 0 rfl, Bag.cell_at S32.out 0 rfl 1 rfl, Bag.cell_at S32.out 0 rfl 2 rfl, Bag.cell_at S32.out 1 rfl 0 rfl⟩ (fun hS => ?_)
    clear hK K
    try simp only [zp0, zp1, zp2, zp3, zp4]
    refine wpAnyH_ready (rs := [3, 10]) (by kernel_rfl) (by simp) ?_
    refine Reg.cons_op (i := 3) rfl (fun K hK => ?_) ?_
    go_simp
    go_at_call 39
    refine (HTO1.out _ S32.out.old).mono ?_
    rintro e w26 ⟨ar1, cr1, rfl, ho, hb⟩
    have S33 := Lib.hid (show Sl.Sep W _ [_, _, QQ, _, L4.boxR gb0 26 #[.string ⟨#[]⟩, .slice none 0 0, .int .i64 0], Sv.ownV 128 2 ar1 cr1 l1.length (cellsF l1)] from Sv.push_own S32.out hb ho)
    clear S32
    clear hb ho
    go_wp2_with fail
    refine hK.out _ _ ⟨Bag.cell_at S33.out 0 rfl 0 rfl, Bag.cell_at S33.out 0 rfl 1 rfl, Bag.cell_at S33.out 0 rfl 2 rfl, Bag.cell_at S33.out 1 rfl 0 rfl⟩ (fun hS => ?_)
    clear hK K
    try simp only [zp0, zp1, zp2, zp3, zp4]
    refine wpAnyH_ready (rs := [4, 10]) (by kernel_rfl) (by simp) ?_
    refine Reg.cons_op (i := 4) rfl (fun K hK => ?_) ?_
    go_simp
    go_at_call 24
    refine (Cimpl.out zs0 HZzs0.out ar1 cr1 _ (Bag.bag_rd S33.out 3 rfl) (Sv.own_at S33.out 5 rfl).reads).mono ?_
    rintro e w27 ⟨zr, rfl, hcon, ho, hb⟩
    have S34 := Lib.hid (show Sl.Sep W _ [_, _, QQ, _, _, _, Bag.bag zr.rows] from Bag.push_bag S33.out hb ho)
    clear S33
    clear hb ho
    have HZzr := Lib.hid hcon
    clear hcon
    go_wp2_with fail
    refine hK.out _ _ ⟨Bag.cell_at S34.out 0 rfl 0 rfl, Bag.cell_at S34.out 0 rfl 1 rfl, Bag.cell_at S34.out 0 rfl 2 rfl, Bag.cell_at S34.out 1 rfl 0 rfl⟩ (fun hS => ?_)
    clear hK K
    try simp only [zp0, zp1, zp2, zp3, zp4]
    refine tk 5 rfl ?_
    try simp only [zp0, zp1, zp2, zp3, zp4]
    refine tk 6 rfl ?_
    try simp only [zp0, zp1, zp2, zp3, zp4]
    refine tk 7 rfl ?_
    try simp only [zp0, zp1, zp2, zp3, zp4]
    refine tk 8 rfl ?_
    try simp only [zp0, zp1, zp2, zp3, zp4]
    refine Reg.one_op (i := 10) rfl (by kernel_rfl) (fun K hK => ?_)
    go_simp
    have S35 := Lib.hid (show Sl.Sep W _ [_, _, _, _, _, _, _, _] from L4.push_box S34.out 28 #[.int .i64 0, .int .i64 0, .string ⟨#[]⟩] w27.heap.size rfl)
    clear S34
    obtain ⟨gb1, hg⟩ : ∃ g', g' = w27.heap.size := ⟨_, rfl⟩
    rw [← hg] at S35 ⊢
    clear hg
    generalize w27.alloc (.cells #[.int .i64 0, .int .i64 0, .string ⟨#[]⟩] 28) = w28 at S35 ⊢
    refine hK.out _ _ ⟨Bag.cell_at S35.out 0 rfl 0 rfl, Bag.cell_at S35.out 0 rfl 1 rfl, Bag.cell_at S35.out 0 rfl 2 rfl, Bag.cell_at S35.out 1 rfl 0 rfl⟩ (fun hS => ?_)
    clear hK K
    try simp only [zp0, zp1, zp2, zp3, zp4]
    have S36 := Lib.hid (show Sl.Sep W _ [_, _, QQ, _, _, L4.boxR gb1 28 #[.int .i64 0, .int .i64 0, .string ⟨#[]⟩]] from Bag.take S35.out [0, 1, 2, 6, 4, 7] (by rfl) (by decide))
    clear S35
    revert S36
    revert HZzr
    revert hS
    exact hrest gb0 gb1 zr zs0 ar1 cr1 w28
    refine Reg.cons_op (i := 10) rfl (fun K hK => ?_) ?_
    go_simp
    have S34 := Lib.hid (show Sl.Sep W _ [_, _, _, _, _, _, _] from L4.push_box S33.out 28 #[.int .i64 0, .int .i64 0, .string ⟨#[]⟩] w26.heap.size rfl)
    clear S33
    obtain ⟨gb1, hg⟩ : ∃ g', g' = w26.heap.size := ⟨_, rfl⟩
    rw [← hg] at S34 ⊢
    clear hg
    generalize w26.alloc (.cells #[.int .i64 0, .int .i64 0, .string ⟨#[]⟩] 28) = w27 at S34 ⊢
    refine hK.out _ _ ⟨Bag.cell_at S34.out 0 rfl 0 rfl, Bag.cell_at S34.out 0 rfl 1 rfl, Bag.cell_at S34.out 0 rfl 2 rfl, Bag.cell_at S34.out 1 rfl 0 rfl⟩ (fun hS => ?_)
    clear hK K
    try simp only [zp0, zp1, zp2, zp3, zp4]
    refine Reg.one_op (i := 4) rfl (by kernel_rfl) (fun K hK => ?_)
    go_simp
    go_at_call 24
    refine (Cimpl.out zs0 HZzs0.out ar1 cr1 _ (Bag.bag_rd S34.out 3 rfl) (Sv.own_at S34.out 5 rfl).reads).mono ?_
    rintro e w28 ⟨zr, rfl, hcon, ho, hb⟩
    have S35 := Lib.hid (show Sl.Sep W _ [_, _, QQ, _, _, _, L4.boxR gb1 28 #[.int .i64 0, .int .i64 0, .string ⟨#[]⟩], Bag.bag zr.rows] from Bag.push_bag S34.out hb ho)
    clear S34
    clear hb ho
    have HZzr := Lib.hid hcon
    clear hcon
    go_wp2_with fail
    refine hK.out _ _ ⟨Bag.cell_at S35.out 0 rfl 0 rfl, Bag.cell_at S35.out 0 rfl 1 rfl, Bag.cell_at S35.out 0 rfl 2 rfl, Bag.cell_at S35.out 1 rfl 0 rfl⟩ (fun hS => ?_)
    clear hK K
    try simp only [zp0, zp1, zp2, zp3, zp4]
    refine tk 5 rfl ?_
    try simp only [zp0, zp1, zp2, zp3, zp4]
    refine tk 6 rfl ?_
    try simp only [zp0, zp1, zp2, zp3, zp4]
    refine tk 7 rfl ?_
    try simp only [zp0, zp1, zp2, zp3, zp4]
    refine tk 8 rfl ?_
    try simp only [zp0, zp1, zp2, zp3, zp4]
    have S36 := Lib.hid (show Sl.Sep W _ [_, _, QQ, _, _, _] from Bag.take S35.out [0, 1, 2, 7, 4, 6] (by rfl) (by decide))
    clear S35
    revert S36
    revert HZzr
    revert hS
    exact hrest gb0 gb1 zr zs0 ar1 cr1 w28
    exact AllReadyH.nil
    refine Reg.cons_op (i := 10) rfl (fun K hK => ?_) ?_
    go_simp
    have S33 := Lib.hid (show Sl.Sep W _ [_, _, _, _, _, _] from L4.push_box S32.out 28 #[.int .i64 0, .int .i64 0, .string ⟨#[]⟩] w25.heap.size rfl)
    clear S32
    obtain ⟨gb1, hg⟩ : ∃ g', g' = w25.heap.size := ⟨_, rfl⟩
    rw [← hg] at S33 ⊢
    clear hg
    generalize w25.alloc (.cells #[.int .i64 0, .int .i64 0, .string ⟨#[]⟩] 28) = w26 at S33 ⊢
    refine hK.out _ _ ⟨Bag.cell_at S33.out 0 rfl 0 rfl, Bag.cell_at S33.out 0 rfl 1 rfl, Bag.cell_at S33.out 0 rfl 2 rfl, Bag.cell_at S33.out 1 rfl 0 rfl⟩ (fun hS => ?_)
    clear hK K
    try simp only [zp0, zp1, zp2, zp3, zp4]
    refine Reg.one_op (i := 3) rfl (by kernel_rfl) (fun K hK => ?_)
    go_simp
    go_at_call 39
    refine (HTO1.out _ S33.out.old).mono ?_
    rintro e w27 ⟨ar1, cr1, rfl, ho, hb⟩
    have S34 := Lib.hid (show Sl.Sep W _ [_, _, QQ, _, _, L4.boxR gb1 28 #[.int .i64 0, .int .i64 0, .string ⟨#[]⟩], Sv.ownV 128 2 ar1 cr1 l1.length (cellsF l1)] from Sv.push_own S33.out hb ho)
    clear S33
    clear hb ho
    go_wp2_with fail
    refine hK.out _ _ ⟨Bag.cell_at S34.out 0 rfl 0 rfl, Bag.cell_at S34.out 0 rfl 1 rfl, Bag.cell_at S34.out 0 rfl 2 rfl, Bag.cell_at S34.out 1 rfl 0 rfl⟩ (fun hS => ?_)
    clear hK K
    try simp only [zp0, zp1, zp2, zp3, zp4]
    refine Reg.one_op (i := 4) rfl (by kernel_rfl) (fun K hK => ?_)
    go_simp
    go_at_call 24
    refine (Cimpl.out zs0 HZzs0.out ar1 cr1 _ (Bag.bag_rd S34.out 3 rfl) (Sv.own_at S34.out 6 rfl).reads).mono ?_
    rintro e w28 ⟨zr, rfl, hcon, ho, hb⟩
    have S35 := Lib.hid (show Sl.Sep W _ [_, _, QQ, _, _, _, _, Bag.bag zr.rows] from Bag.push_bag S34.out hb ho)
    clear S34
    clear hb ho
    have HZzr := Lib.hid hcon
    clear hcon
    go_wp2_with fail
    refine hK.out _ _ ⟨Bag.cell_at S35.out 0 rfl 0 rfl, Bag.cell_at S35.out 0 rfl 1 rfl, Bag.cell_at S35.out 0 rfl 2 rfl, Bag.cell_at S35.out 1 rfl 0 rfl⟩ (fun hS => ?_)
    clear hK K
    try simp only [zp0, zp1, zp2, zp3, zp4]
    refine tk 5 rfl ?_
    try simp only [zp0, zp1, zp2, zp3, zp4]
    refine tk 6 rfl ?_
    try simp only [zp0, zp1, zp2, zp3, zp4]
    refine tk 7 rfl ?_
    try simp only [zp0, zp1, zp2, zp3, zp4]
    refine tk 8 rfl ?_
    try simp only [zp0, zp1, zp2, zp3, zp4]
    have S36 := Lib.hid (show Sl.Sep W _ [_, _, QQ, _, _, _] from Bag.take S35.out [0, 1, 2, 7, 4, 5] (by rfl) (by decide))
    clear S35
    revert S36
    revert HZzr
    revert hS
    exact hrest gb0 gb1 zr zs0 ar1 cr1 w28
    exact AllReadyH.nil
    refine Reg.cons_op (i := 10) rfl (fun K hK => ?_) ?_
    go_simp
    have S32 := Lib.hid (show Sl.Sep W _ [_, _, _, _, _] from L4.push_box S31.out 28 #[.int .i64 0, .int .i64 0, .string ⟨#[]⟩] w24.heap.size rfl)
    clear S31
    obtain ⟨gb1, hg⟩ : ∃ g', g' = w24.heap.size := ⟨_, rfl⟩
    rw [← hg] at S32 ⊢
    clear hg
    generalize w24.alloc (.cells #[.int .i64 0, .int .i64 0, .string ⟨#[]⟩] 28) = w25 at S32 ⊢
    refine hK.out _ _ ⟨Bag.cell_at S32.out 0 rfl 0 rfl, Bag.cell_at S32.out 0 rfl 1 rfl, Bag.cell_at S32.out 0 rfl 2 rfl, Bag.cell_at S32.out 1 rfl 0 rfl⟩ (fun hS => ?_)
    clear hK K
    try simp only [zp0, zp1, zp2, zp3, zp4]
    refine wpAnyH_ready (rs := [3, 9]) (by kernel_rfl) (by simp) ?_
    refine Reg.cons_op (i := 3) rfl (fun K hK => ?_) ?_
    go_simp
    go_at_call 39
    refine (HTO1.out _ S32.out.old).mono ?_
    rintro e w26 ⟨ar1, cr1, rfl, ho, hb⟩
    have S33 := Lib.hid (show Sl.Sep W _ [_, _, QQ, _, L4.boxR gb1 28 #[.int .i64 0, .int .i64 0, .string ⟨#[]⟩], Sv.ownV 128 2 ar1 cr1 l1.length (cellsF l1)] from Sv.push_own S32.out hb ho)
    clear S32
    clear hb ho
    go_wp2_with fail
    refine hK.out _ _ ⟨Bag.cell_at S33.out 0 rfl 0 rfl, Bag.cell_at S33.out 0 rfl 1 rfl, Bag.cell_at S33.out 0 rfl 2 rfl, Bag.cell_at S33.out 1 rfl 0 rfl⟩ (fun hS => ?_)
    clear hK K
    try simp only [zp0, zp1, zp2, zp3, zp4]
    refine wpAnyH_ready (rs := [4, 9]) (by kernel_rfl) (by simp) ?_
    refine Reg.cons_op (i := 4) rfl (fun K hK => ?_) ?_
    go_simp
    go_at_call 24
    refine (Cimpl.out zs0 HZzs0.out ar1 cr1 _ (Bag.bag_rd S33.out 3 rfl) (Sv.own_at S33.out 5 rfl).reads).mono ?_
    rintro e w27 ⟨zr, rfl, hcon, ho, hb⟩
    have S34 := Lib.hid (show Sl.Sep W _ [_, _, QQ, _, _, _, Bag.bag zr.rows] from Bag.push_bag S33.out hb ho)
    clear S33
    clear hb ho
    have HZzr := Lib.hid hcon
    clear hcon
    go_wp2_with fail
    refine hK.out _ _ ⟨Bag.cell_at S34.out 0 rfl 0 rfl, Bag.cell_at S34.out 0 rfl 1 rfl, Bag.cell_at S34.out 0 rfl 2 rfl, Bag.cell_at S34.out 1 rfl 0 rfl⟩ (fun hS => ?_)
    clear hK K
    try simp only [zp0, zp1, zp2, zp3, zp4]
    refine tk 5 rfl ?_
    try simp only [zp0, zp1, zp2, zp3, zp4]
    refine tk 6 rfl ?_
    try simp only [zp0, zp1, zp2, zp3, zp4]
    refine tk 7 rfl ?_
    try simp only [zp0, zp1, zp2, zp3, zp4]
    refine tk 8 rfl ?_
    try simp only [zp0, zp1, zp2, zp3, zp4]
    refine Reg.one_op (i := 9) rfl (by kernel_rfl) (fun K hK => ?_)
    go_simp
    have S35 := Lib.hid (show Sl.Sep W _ [_, _, _, _, _, _, _, _] from L4.push_box S34.out 26 #[.string ⟨#[]⟩, .slice none 0 0, .int .i64 0] w27.heap.size rfl)
    clear S34
    obtain ⟨gb0, hg⟩ : ∃ g', g' = w27.heap.size := ⟨_, rfl⟩
    rw [← hg] at S35 ⊢
    clear hg
    generalize w27.alloc (.cells #[.string ⟨#[]⟩, .slice none 0 0, .int .i64 0] 26) = w28 at S35 ⊢
    refine hK.out _ _ ⟨Bag.cell_at S35.out 0 rfl 0 rfl, Bag.cell_at S35.out 0 rfl 1 rfl, Bag.cell_at S35.out 0 rfl 2 rfl, Bag.cell_at S35.out 1 rfl 0 rfl⟩ (fun hS => ?_)
    clear hK K
    try simp only [zp0, zp1, zp2, zp3, zp4]
    have S36 := Lib.hid (show Sl.Sep W _ [_, _, QQ, _, L4.boxR gb0 26 #[.string ⟨#[]⟩, .slice none 0 0, .int .i64 0], _] from Bag.take S35.out [0, 1, 2, 6, 7, 4] (by rfl) (by decide))
    clear S35
    revert S36
    revert HZzr
    revert hS
    exact hrest gb0 gb1 zr zs0 ar1 cr1 w28
    refine Reg.cons_op (i := 9) rfl (fun K hK => ?_) ?_
    go_simp
    have S34 := Lib.hid (show Sl.Sep W _ [_, _, _, _, _, _, _] from L4.push_box S33.out 26 #[.string ⟨#[]⟩, .slice none 0 0, .int .i64 0] w26.heap.size rfl)
    clear S33
    obtain ⟨gb0, hg⟩ : ∃ g', g' = w26.heap.size := ⟨_, rfl⟩
    rw [← hg] at S34 ⊢
    clear hg
    generalize w26.alloc (.cells #[.string ⟨#[]⟩, .slice none 0 0, .int .i64 0] 26) = w27 at S34 ⊢
    refine hK.out _ _ ⟨Bag.cell_at S34.out 0 rfl 0 rfl, Bag.cell_at S34.out 0 rfl 1 rfl, Bag.cell_at S34.out 0 rfl 2 rfl, Bag.cell_at S34.out 1 rfl 0 rfl⟩ (fun hS => ?_)
    clear hK K
    try simp only [zp0, zp1, zp2, zp3, zp4]
    refine Reg.one_op (i := 4) rfl (by kernel_rfl) (fun K hK => ?_)
    go_simp
    go_at_call 24
    refine (Cimpl.out zs0 HZzs0.out ar1 cr1 _ (Bag.bag_rd S34.out 3 rfl) (Sv.own_at S34.out 5 rfl).reads).mono ?_
    rintro e w28 ⟨zr, rfl, hcon, ho, hb⟩
    have S35 := Lib.hid (show Sl.Sep W _ [_, _, QQ, _, _, _, L4.boxR gb0 26 #[.string ⟨#[]⟩, .slice none 0 0, .int .i64 0], Bag.bag zr.rows] from Bag.push_bag S34.out hb ho)
    clear S34
    clear hb ho
    have HZzr := Lib.hid hcon
    clear hcon
    go_wp2_with fail
    refine hK.out _ _ ⟨Bag.cell_at S35.out 0 rfl 0 rfl, Bag.cell_at S35.out 0 rfl 1 rfl, Bag.cell_at S35.out 0 rfl 2 rfl, Bag.cell_at S35.out 1 rfl 0 rfl⟩ (fun hS => ?_)
    clear hK K
    try simp only [zp0, zp1, zp2, zp3, zp4]
    refine tk 5 rfl ?_
    try simp only [zp0, zp1, zp2, zp3, zp4]
    refine tk 6 rfl ?_
    try simp only [zp0, zp1, zp2, zp3, zp4]
    refine tk 7 rfl ?_
    try simp only [zp0, zp1, zp2, zp3, zp4]
    refine tk 8 rfl ?_
    try simp only [zp0, zp1, zp2, zp3, zp4]
    have S36 := Lib.hid (show Sl.Sep W _ [_, _, QQ, _, _, _] from Bag.take S35.out [0, 1, 2, 7, 6, 4] (by rfl) (by decide))
    clear S35
    revert S36
    revert HZzr
    revert hS
    exact hrest gb0 gb1 zr zs0 ar1 cr1 w28
    exact AllReadyH.nil
    refine Reg.cons_op (i := 9) rfl (fun K hK => ?_) ?_
    go_simp
    have S33 := Lib.hid (show Sl.Sep W _ [_, _, _, _, _, _] from L4.push_box S32.out 26 #[.string ⟨#[]⟩, .slice none 0 0, .int .i64 0] w25.heap.size rfl)
    clear S32
    obtain ⟨gb0, hg⟩ : ∃ g', g' = w25.heap.size := ⟨_, rfl⟩
    rw [← hg] at S33 ⊢
    clear hg
    generalize w25.alloc (.cells #[.string ⟨#[]⟩, .slice none 0 0, .int .i64 0] 26) = w26 at S33 ⊢
    refine hK.out _ _ ⟨Bag.cell_at S33.out 0 rfl 0 rfl, Bag.cell_at S33.out 0 rfl 1 rfl, Bag.cell_at S33.out 0 rfl 2 rfl, Bag.cell_at S33.out 1 rfl 0 rfl⟩ (fun hS => ?_)
    clear hK K
    try simp only [zp0, zp1, zp2, zp3, zp4]
    refine Reg.one_op (i := 3) rfl (by kernel_rfl) (fun K hK => ?_)
    go_simp
    go_at_call 39
    refine (HTO1.out _ S33.out.old).mono ?_
    rintro e w27 ⟨ar1, cr1, rfl, ho, hb⟩
    have S34 := Lib.hid (show Sl.Sep W _ [_, _, QQ, _, _, L4.boxR gb0 26 #[.string ⟨#[]⟩, .slice none 0 0, .int .i64 0], Sv.ownV 128 2 ar1 cr1 l1.length (cellsF l1)] from Sv.push_own S33.out hb ho)
    clear S33
    clear hb ho
    go_wp2_with fail
    refine hK.out _ _ ⟨Bag.cell_at S34.out 0 rfl 0 rfl, Bag.cell_at S34.out 0 rfl 1 rfl, Bag.cell_at S34.out 0 rfl 2 rfl, Bag.cell_at S34.out 1 rfl 0 rfl⟩ (fun hS => ?_)
    clear hK K
    try simp only [zp0, zp1, zp2, zp3, zp4]
    refine Reg.one_op (i := 4) rfl (by kernel_rfl) (fun K hK => ?_)
    go_simp
    go_at_call 24
    refine (Cimpl.out zs0 HZzs0.out ar1 cr1 _ (Bag.bag_rd S34.out 3 rfl) (Sv.own_at S34.out 6 rfl).reads).mono ?_
    rintro e w28 ⟨zr, rfl, hcon, ho, hb⟩
    have S35 := Lib.hid (show Sl.Sep W _ [_, _, QQ, _, _, _, _, Bag.bag zr.rows] from Bag.push_bag S34.out hb ho)
    clear S34
    clear hb ho
    have HZzr := Lib.hid hcon
    clear hcon
    go_wp2_with fail
    refine hK.out _ _ ⟨Bag.cell_at S35.out 0 rfl 0 rfl, Bag.cell_at S35.out 0 rfl 1 rfl, Bag.cell_at S35.out 0 rfl 2 rfl, Bag.cell_at S35.out 1 rfl 0 rfl⟩ (fun hS => ?_)
    clear hK K
    try simp only [zp0, zp1, zp2, zp3, zp4]
    refine tk 5 rfl ?_
    try simp only [zp0, zp1, zp2, zp3, zp4]
    refine tk 6 rfl ?_
    try simp only [zp0, zp1, zp2, zp3, zp4]
    refine tk 7 rfl ?_
    try simp only [zp0, zp1, zp2, zp3, zp4]
    refine tk 8 rfl ?_
    try simp only [zp0, zp1, zp2, zp3, zp4]
    have S36 := Lib.hid (show Sl.Sep W _ [_, _, QQ, _, _, _] from Bag.take S35.out [0, 1, 2, 7, 5, 4] (by rfl) (by decide))
    clear S35
    revert S36
    revert HZzr
    revert hS
    exact hrest gb0 gb1 zr zs0 ar1 cr1 w28
    exact AllReadyH.nil
    exact AllReadyH.nil
    refine Reg.cons_op (i := 9) rfl (fun K hK => ?_) ?_
    go_simp
    have S31 := Lib.hid (show Sl.Sep W _ [_, _, _, _] from L4.push_box S30.out 26 #[.string ⟨#[]⟩, .slice none 0 0, .int .i64 0] w23.heap.size rfl)
    obtain ⟨gb0, hg⟩ : ∃ g', g' = w23.heap.size := ⟨_, rfl⟩
    rw [← hg] at S31 ⊢
    clear hg
    generalize w23.alloc (.cells #[.string ⟨#[]⟩, .slice none 0 0, .int .i64 0] 26) = w24 at S31 ⊢
    refine hK.out _ _ ⟨Bag.cell_at S31.out 0 rfl 0 rfl, Bag.cell_at S31.out 0 rfl 1 rfl, Bag.cell_at S31.out 0 rfl 2 rfl, Bag.cell_at S31.out 1 rfl 0 rfl⟩ (fun hS => ?_)
    clear hK K
    try simp only [zp0, zp1, zp2, zp3, zp4]
    refine wpAnyH_ready (rs := [1, 10]) (by kernel_rfl) (by simp) ?_
    refine Reg.cons_op (i := 1) rfl (fun K hK => ?_) ?_
    go_simp
    go_at_call 37
    refine (HTO0.out _ S31.out.old).mono ?_
    rintro e w25 ⟨zs0, rfl, hcon, ho, hb⟩
    have S32 := Lib.hid (show Sl.Sep W _ [_, _, QQ, L4.boxR gb0 26 #[.string ⟨#[]⟩, .slice none 0 0, .int .i64 0], Bag.bag zs0.rows] from Bag.push_bag S31.out hb ho)
    clear S31
    clear hb ho
    have HZzs0 := Lib.hid (hcon.trans HC0.out)
    clear hcon
    go_wp2_with fail
    refine hK.out _ _ ⟨Bag.cell_at S32.out 0 rfl 0 rfl, Bag.cell_at S32.out 0 rfl 1 rfl, Bag.cell_at S32.out 0 rfl 2 rfl, Bag.cell_at S32.out 1 rfl 0 rfl⟩ (fun hS => ?_)
    clear hK K
    try simp only [zp0, zp1, zp2, zp3, zp4]
    refine wpAnyH_ready (rs := [3, 10]) (by kernel_rfl) (by simp) ?_
    refine Reg.cons_op (i := 3) rfl (fun K hK => ?_) ?_
    go_simp
    go_at_call 39
    refine (HTO1.out _ S32.out.old).mono ?_
    rintro e w26 ⟨ar1, cr1, rfl, ho, hb⟩
    have S33 := Lib.hid (show Sl.Sep W _ [_, _, QQ, _, _, Sv.ownV 128 2 ar1 cr1 l1.length (cellsF l1)] from Sv.push_own S32.out hb ho)
    clear S32
    clear hb ho
    go_wp2_with fail
    refine hK.out _ _ ⟨Bag.cell_at S33.out 0 rfl 0 rfl, Bag.cell_at S33.out 0 rfl 1 rfl, Bag.cell_at S33.out 0 rfl 2 rfl, Bag.cell_at S33.out 1 rfl 0 rfl⟩ (fun hS => ?_)
    clear hK K
    try simp only [zp0, zp1, zp2, zp3, zp4]
    refine wpAnyH_ready (rs := [4, 10]) (by kernel_rfl) (by simp) ?_
    refine Reg.cons_op (i := 4) rfl (fun K hK => ?_) ?_
    go_simp
    go_at_call 24
    refine (Cimpl.out zs0 HZzs0.out ar1 cr1 _ (Bag.bag_rd S33.out 4 rfl) (Sv.own_at S33.out 5 rfl).reads).mono ?_
    rintro e w27 ⟨zr, rfl, hcon, ho, hb⟩
    have S34 := Lib.hid (show Sl.Sep W _ [_, _, QQ, _, _, _, Bag.bag zr.rows] from Bag.push_bag S33.out hb ho)
    clear S33
    clear hb ho
    have HZzr := Lib.hid hcon
    clear hcon
    go_wp2_with fail
    refine hK.out _ _ ⟨Bag.cell_at S34.out 0 rfl 0 rfl, Bag.cell_at S34.out 0 rfl 1 rfl, Bag.cell_at S34.out 0 rfl 2 rfl, Bag.cell_at S34.out 1 rfl 0 rfl⟩ (fun hS => ?_)
    clear hK K
    try simp only [zp0, zp1, zp2, zp3, zp4]
    refine tk 5 rfl ?_
    try simp only [zp0, zp1, zp2, zp3, zp4]
    refine tk 6 rfl ?_
    try simp only [zp0, zp1, zp2, zp3, zp4]
    refine tk 7 rfl ?_
    try simp only [zp0, zp1, zp2, zp3, zp4]
    refine tk 8 rfl ?_
    try simp only [zp0, zp1, zp2, zp3, zp4]
    refine Reg.one_op (i := 10) rfl (by kernel_rfl) (fun K hK => ?_)
    go_simp
    have S35 := Lib.hid (show Sl.Sep W _ [_, _, _, _, _, _, _, _] from L4.push_box S34.out 28 #[.int .i64 0, .int .i64 0, .string ⟨#[]⟩] w27.heap.size rfl)
    clear S34
    obtain ⟨gb1, hg⟩ : ∃ g', g' = w27.heap.size := ⟨_, rfl⟩
    rw [← hg] at S35 ⊢
    clear hg
    generalize w27.alloc (.cells #[.int .i64 0, .int .i64 0, .string ⟨#[]⟩] 28) = w28 at S35 ⊢
    refine hK.out _ _ ⟨Bag.cell_at S35.out 0 rfl 0 rfl, Bag.cell_at S35.out 0 rfl 1 rfl, Bag.cell_at S35.out 0 rfl 2 rfl, Bag.cell_at S35.out 1 rfl 0 rfl⟩ (fun hS => ?_)
    clear hK K
    try simp only [zp0, zp1, zp2, zp3, zp4]
    have S36 := Lib.hid (show Sl.Sep W _ [_, _, QQ, _, _, L4.boxR gb1 28 #[.int .i64 0, .int .i64 0, .string ⟨#[]⟩]] from Bag.take S35.out [0, 1, 2, 6, 3, 7] (by rfl) (by decide))
    clear S35
    revert S36
    revert HZzr
    revert hS
    exact hrest gb0 gb1 zr zs0 ar1 cr1 w28
    refine Reg.cons_op (i := 10) rfl (fun K hK => ?_) ?_
    go_simp
    have S34 := Lib.hid (show Sl.Sep W _ [_, _, _, _, _, _, _] from L4.push_box S33.out 28 #[.int .i64 0, .int .i64 0, .string ⟨#[]⟩] w26.heap.size rfl)
    clear S33
    obtain ⟨gb1, hg⟩ : ∃ g', g' = w26.heap.size := ⟨_, rfl⟩
    rw [← hg] at S34 ⊢
    clear hg
    generalize w26.alloc (.cells #[.int .i64 0, .int .i64 0, .string ⟨#[]⟩] 28) = w27 at S34 ⊢
    refine hK.out _ _ ⟨Bag.cell_at S34.out 0 rfl 0 rfl, Bag.cell_at S34.out 0 rfl 1 rfl, Bag.cell_at S34.out 0 rfl 2 rfl, Bag.cell_at S34.out 1 rfl 0 rfl⟩ (fun hS => ?_)
    clear hK K
    try simp only [zp0, zp1, zp2, zp3, zp4]
    refine Reg.one_op (i := 4) rfl (by kernel_rfl) (fun K hK => ?_)
    go_simp
    go_at_call 24
    refine (Cimpl.out zs0 HZzs0.out ar1 cr1 _ (Bag.bag_rd S34.out 4 rfl) (Sv.own_at S34.out 5 rfl).reads).mono ?_
    rintro e w28 ⟨zr, rfl, hcon, ho, hb⟩
    have S35 := Lib.hid (show Sl.Sep W _ [_, _, QQ, _, _, _, L4.boxR gb1 28 #[.int .i64 0, .int .i64 0, .string ⟨#[]⟩], Bag.bag zr.rows] from Bag.push_bag S34.out hb ho)
    clear S34
    clear hb ho
    have HZzr := Lib.hid hcon
    clear hcon
    go_wp2_with fail
    refine hK.out _ _ ⟨Bag.cell_at S35.out 0 rfl 0 rfl, Bag.cell_at S35.out 0 rfl 1 rfl, Bag.cell_at S35.out 0 rfl 2 rfl, Bag.cell_at S35.out 1 rfl 0 rfl⟩ (fun hS => ?_)
    clear hK K
    try simp only [zp0, zp1, zp2, zp3, zp4]
    refine tk 5 rfl ?_
    try simp only [zp0, zp1, zp2, zp3, zp4]
    refine tk 6 rfl ?_
    try simp only [zp0, zp1, zp2, zp3, zp4]
    refine tk 7 rfl ?_
    try simp only [zp0, zp1, zp2, zp3, zp4]
    refine tk 8 rfl ?_
    try simp only [zp0, zp1, zp2, zp3, zp4]
    have S36 := Lib.hid (show Sl.Sep W _ [_, _, QQ, _, _, _] from Bag.take S35.out [0, 1, 2, 7, 3, 6] (by rfl) (by decide))
    clear S35
    revert S36
    revert HZzr
    revert hS
    exact hrest gb0 gb1 zr zs0 ar1 cr1 w28
    exact AllReadyH.nil
    refine Reg.cons_op (i := 10) rfl (fun K hK => ?_) ?_
    go_simp
    have S33 := Lib.hid (show Sl.Sep W _ [_, _, _, _, _, _] from L4.push_box S32.out 28 #[.int .i64 0, .int .i64 0, .string ⟨#[]⟩] w25.heap.size rfl)
    clear S32
    obtain ⟨gb1, hg⟩ : ∃ g', g' = w25.heap.size := ⟨_, rfl⟩
    rw [← hg] at S33 ⊢
    clear hg
    generalize w25.alloc (.cells #[.int .i64 0, .int .i64 0, .string ⟨#[]⟩] 28) = w26 at S33 ⊢
    refine hK.out _ _ ⟨Bag.cell_at S33.out 0 rfl 0 rfl, Bag.cell_at S33.out 0 rfl 1 rfl, Bag.cell_at S33.out 0 rfl 2 rfl, Bag.cell_at S33.out 1 rfl 0 rfl⟩ (fun hS => ?_)
    clear hK K
    try simp only [zp0, zp1, zp2, zp3, zp4]
    refine Reg.one_op (i := 3) rfl (by kernel_rfl) (fun K hK => ?_)
    go_simp
    go_at_call 39
    refine (HTO1.out _ S33.out.old).mono ?_
    rintro e w27 ⟨ar1, cr1, rfl, ho, hb⟩
    have S34 := Lib.hid (show Sl.Sep W _ [_, _, QQ, _, _, L4.boxR gb1 28 #[.int .i64 0, .int .i64 0, .string ⟨#[]⟩], Sv.ownV 128 2 ar1 cr1 l1.length (cellsF l1)] from Sv.push_own S33.out hb ho)
    clear S33
    clear hb ho
    go_wp2_with fail
    refine hK.out _ _ ⟨Bag.cell_at S34.out 0 rfl 0 rfl, Bag.cell_at S34.out 0 rfl 1 rfl, Bag.cell_at S34.out 0 rfl 2 rfl, Bag.cell_at S34.out 1 rfl 0 rfl⟩ (fun hS => ?_)
    clear hK K
    try simp only [zp0, zp1, zp2, zp3, zp4]
    refine Reg.one_op (i := 4) rfl (by kernel_rfl) (fun K hK => ?_)
    go_simp
    go_at_call 24
    refine (Cimpl.out zs0 HZzs0.out ar1 cr1 _ (Bag.bag_rd S34.out 4 rfl) (Sv.own_at S34.out 6 rfl).reads).mono ?_
    rintro e w28 ⟨zr, rfl, hcon, ho, hb⟩
    have S35 := Lib.hid (show Sl.Sep W _ [_, _, QQ, _, _, _, _, Bag.bag zr.rows] from Bag.push_bag S34.out hb ho)
    clear S34
    clear hb ho
    have HZzr := Lib.hid hcon
    clear hcon
    go_wp2_with fail
    refine hK.out _ _ ⟨Bag.cell_at S35.out 0 rfl 0 rfl, Bag.cell_at S35.out 0 rfl 1 rfl, Bag.cell_at S35.out 0 rfl 2 rfl, Bag.cell_at S35.out 1 rfl 0 rfl⟩ (fun hS => ?_)
    clear hK K
    try simp only [zp0, zp1, zp2, zp3, zp4]
    refine tk 5 rfl ?_
    try simp only [zp0, zp1, zp2, zp3, zp4]
    refine tk 6 rfl ?_
    try simp only [zp0, zp1, zp2, zp3, zp4]
    refine tk 7 rfl ?_
    try simp only [zp0, zp1, zp2, zp3, zp4]
    refine tk 8 rfl ?_
    try simp only [zp0, zp1, zp2, zp3, zp4]
    have S36 := Lib.hid (show Sl.Sep W _ [_, _, QQ, _, _, _] from Bag.take S35.out [0, 1, 2, 7, 3, 5] (by rfl) (by decide))
    clear S35
    revert S36
    revert HZzr
    revert hS
    exact hrest gb0 gb1 zr zs0 ar1 cr1 w28
    exact AllReadyH.nil
    refine Reg.cons_op (i := 10) rfl (fun K hK => ?_) ?_
    go_simp
    have S32 := Lib.hid (show Sl.Sep W _ [_, _, _, _, _] from L4.push_box S31.out 28 #[.int .i64 0, .int .i64 0, .string ⟨#[]⟩] w24.heap.size rfl)
    clear S31
    obtain ⟨gb1, hg⟩ : ∃ g', g' = w24.heap.size := ⟨_, rfl⟩
    rw [← hg] at S32 ⊢
    clear hg
    generalize w24.alloc (.cells #[.int .i64 0, .int .i64 0, .string ⟨#[]⟩] 28) = w25 at S32 ⊢
    refine hK.out _ _ ⟨Bag.cell_at S32.out 0 rfl 0 rfl, Bag.cell_at S32.out 0 rfl 1 rfl, Bag.cell_at S32.out 0 rfl 2 rfl, Bag.cell_at S32.out 1 rfl 0 rfl⟩ (fun hS => ?_)
    clear hK K
    try simp only [zp0, zp1, zp2, zp3, zp4]
    refine Reg.one_op (i := 1) rfl (by kernel_rfl) (fun K hK => ?_)
    go_simp
    go_at_call 37
    refine (HTO0.out _ S32.out.old).mono ?_
    rintro e w26 ⟨zs0, rfl, hcon, ho, hb⟩
    have S33 := Lib.hid (show Sl.Sep W _ [_, _, QQ, _, L4.boxR gb1 28 #[.int .i64 0, .int .i64 0, .string ⟨#[]⟩], Bag.bag zs0.rows] from Bag.push_bag S32.out hb ho)
    clear S32
    clear hb ho
    have HZzs0 := Lib.hid (hcon.trans HC0.out)
    clear hcon
    go_wp2_with fail
    refine hK.out _ _ ⟨Bag.cell_at S33.out 0 rfl 0 rfl, Bag.cell_at S33.out 0 rfl 1 rfl, Bag.cell_at S33.out 0 rfl 2 rfl, Bag.cell_at S33.out 1 rfl 0 rfl⟩ (fun hS => ?_)
    clear hK K
    try simp only [zp0, zp1, zp2, zp3, zp4]
    refine Reg.one_op (i := 3) rfl (by kernel_rfl) (fun K hK => ?_)
    go_simp
    go_at_call 39
    refine (HTO1.out _ S33.out.old).mono ?_
    rintro e w27 ⟨ar1, cr1, rfl, ho, hb⟩
    have S34 := Lib.hid (show Sl.Sep W _ [_, _, QQ, _, _, _, Sv.ownV 128 2 ar1 cr1 l1.length (cellsF l1)] from Sv.push_own S33.out hb ho)
    clear S33
    clear hb ho
    go_wp2_with fail
    refine hK.out _ _ ⟨Bag.cell_at S34.out 0 rfl 0 rfl, Bag.cell_at S34.out 0 rfl 1 rfl, Bag.cell_at S34.out 0 rfl 2 rfl, Bag.cell_at S34.out 1 rfl 0 rfl⟩ (fun hS => ?_)
    clear hK K
    try simp only [zp0, zp1, zp2, zp3, zp4]
    refine Reg.one_op (i := 4) rfl (by kernel_rfl) (fun K hK => ?_)
    go_simp
    go_at_call 24
    refine (Cimpl.out zs0 HZzs0.out ar1 cr1 _ (Bag.bag_rd S34.out 5 rfl) (Sv.own_at S34.out 6 rfl).reads).mono ?_
    rintro e w28 ⟨zr, rfl, hcon, ho, hb⟩
    have S35 := Lib.hid (show Sl.Sep W _ [_, _, QQ, _, _, _, _, Bag.bag zr.rows] from Bag.push_bag S34.out hb ho)
    clear S34
    clear hb ho
    have HZzr := Lib.hid hcon
    clear hcon
    go_wp2_with fail
    refine hK.out _ _ ⟨Bag.cell_at S35.out 0 rfl 0 rfl, Bag.cell_at S35.out 0 rfl 1 rfl, Bag.cell_at S35.out 0 rfl 2 rfl, Bag.cell_at S35.out 1 rfl 0 rfl⟩ (fun hS => ?_)
    clear hK K
    try simp only [zp0, zp1, zp2, zp3, zp4]
    refine tk 5 rfl ?_
    try simp only [zp0, zp1, zp2, zp3, zp4]
    refine tk 6 rfl ?_
    try simp only [zp0, zp1, zp2, zp3, zp4]
    refine tk 7 rfl ?_
    try simp only [zp0, zp1, zp2, zp3, zp4]
    refine tk 8 rfl ?_
    try simp only [zp0, zp1, zp2, zp3, zp4]
    have S36 := Lib.hid (show Sl.Sep W _ [_, _, QQ, _, _, _] from Bag.take S35.out [0, 1, 2, 7, 3, 4] (by rfl) (by decide))
    clear S35
    revert S36
    revert HZzr
    revert hS
    exact hrest gb0 gb1 zr zs0 ar1 cr1 w28
    exact AllReadyH.nil
    refine Reg.cons_op (i := 10) rfl (fun K hK => ?_) ?_
    go_simp
    have S31 := Lib.hid (show Sl.Sep W _ [_, _, _, _] from L4.push_box S30.out 28 #[.int .i64 0, .int .i64 0, .string ⟨#[]⟩] w23.heap.size rfl)
    obtain ⟨gb1, hg⟩ : ∃ g', g' = w23.heap.size := ⟨_, rfl⟩
    rw [← hg] at S31 ⊢
    clear hg
    generalize w23.alloc (.cells #[.int .i64 0, .int .i64 0, .string ⟨#[]⟩] 28) = w24 at S31 ⊢
    refine hK.out _ _ ⟨Bag.cell_at S31.out 0 rfl 0 rfl, Bag.cell_at S31.out 0 rfl 1 rfl, Bag.cell_at S31.out 0 rfl 2 rfl, Bag.cell_at S31.out 1 rfl 0 rfl⟩ (fun hS => ?_)
    clear hK K
    try simp only [zp0, zp1, zp2, zp3, zp4]
    refine wpAnyH_ready (rs := [1, 9]) (by kernel_rfl) (by simp) ?_
    refine Reg.cons_op (i := 1) rfl (fun K hK => ?_) ?_
    go_simp
    go_at_call 37
    refine (HTO0.out _ S31.out.old).mono ?_
    rintro e w25 ⟨zs0, rfl, hcon, ho, hb⟩
    have S32 := Lib.hid (show Sl.Sep W _ [_, _, QQ, L4.boxR gb1 28 #[.int .i64 0, .int .i64 0, .string ⟨#[]⟩], Bag.bag zs0.rows] from Bag.push_bag S31.out hb ho)
    clear S31
    clear hb ho
    have HZzs0 := Lib.hid (hcon.trans HC0.out)
    clear hcon
    go_wp2_with fail
    refine hK.out _ _ ⟨Bag.cell_at S32.out 0 rfl 0 rfl, Bag.cell_at S32.out 0 rfl 1 rfl, Bag.cell_at S32.out 0 rfl 2 rfl, Bag.cell_at S32.out 1 rfl 0 rfl⟩ (fun hS => ?_)
    clear hK K
    try simp only [zp0, zp1, zp2, zp3, zp4]
    refine wpAnyH_ready (rs := [3, 9]) (by kernel_rfl) (by simp) ?_
    refine Reg.cons_op (i := 3) rfl (fun K hK => ?_) ?_
    go_simp
    go_at_call 39
    refine (HTO1.out _ S32.out.old).mono ?_
    rintro e w26 ⟨ar1, cr1, rfl, ho, hb⟩
    have S33 := Lib.hid (show Sl.Sep W _ [_, _, QQ, _, _, Sv.ownV 128 2 ar1 cr1 l1.length (cellsF l1)] from Sv.push_own S32.out hb ho)
    clear S32
    clear hb ho
    go_wp2_with fail
    refine hK.out _ _ ⟨Bag.cell_at S33.out 0 rfl 0 rfl, Bag.cell_at S33.out 0 rfl 1 rfl, Bag.cell_at S33.out 0 rfl 2 rfl, Bag.cell_at S33.out 1 rfl 0 rfl⟩ (fun hS => ?_)
    clear hK K
    try simp only [zp0, zp1, zp2, zp3, zp4]
    refine wpAnyH_ready (rs := [4, 9]) (by kernel_rfl) (by simp) ?_
    refine Reg.cons_op (i := 4) rfl (fun K hK => ?_) ?_
    go_simp
    go_at_call 24
    refine (Cimpl.out zs0 HZzs0.out ar1 cr1 _ (Bag.bag_rd S33.out 4 rfl) (Sv.own_at S33.out 5 rfl).reads).mono ?_
    rintro e w27 ⟨zr, rfl, hcon, ho, hb⟩
    have S34 := Lib.hid (show Sl.Sep W _ [_, _, QQ, _, _, _, Bag.bag zr.rows] from Bag.push_bag S33.out hb ho)
    clear S33
    clear hb ho
    have HZzr := Lib.hid hcon
    clear hcon
    go_wp2_with fail
    refine hK.out _ _ ⟨Bag.cell_at S34.out 0 rfl 0 rfl, Bag.cell_at S34.out 0 rfl 1 rfl, Bag.cell_at S34.out 0 rfl 2 rfl, Bag.cell_at S34.out 1 rfl 0 rfl⟩ (fun hS => ?_)
    clear hK K
    try simp only [zp0, zp1, zp2, zp3, zp4]
    refine tk 5 rfl ?_
    try simp only [zp0, zp1, zp2, zp3, zp4]
    refine tk 6 rfl ?_
    try simp only [zp0, zp1, zp2, zp3, zp4]
    refine tk 7 rfl ?_
    try simp only [zp0, zp1, zp2, zp3, zp4]
    refine tk 8 rfl ?_
    try simp only [zp0, zp1, zp2, zp3, zp4]
    refine Reg.one_op (i := 9) rfl (by kernel_rfl) (fun K hK => ?_)
    go_simp
    have S35 := Lib.hid (show Sl.Sep W _ [_, _, _, _, _, _, _, _] from L4.push_box S34.out 26 #[.string ⟨#[]⟩, .slice none 0 0, .int .i64 0] w27.heap.size rfl)
    clear S34
    obtain ⟨gb0, hg⟩ : ∃ g', g' = w27.heap.size := ⟨_, rfl⟩
    rw [← hg] at S35 ⊢
    clear hg
    generalize w27.alloc (.cells #[.string ⟨#[]⟩, .slice none 0 0, .int .i64 0] 26) = w28 at S35 ⊢
    refine hK.out _ _ ⟨Bag.cell_at S35.out 0 rfl 0 rfl, Bag.cell_at S35.out 0 rfl 1 rfl, Bag.cell_at S35.out 0 rfl 2 rfl, Bag.cell_at S35.out 1 rfl 0 rfl⟩ (fun hS => ?_)
    clear hK K
    try simp only [zp0, zp1, zp2, zp3, zp4]
    have S36 := Lib.hid (show Sl.Sep W _ [_, _, QQ, _, L4.boxR gb0 26 #[.string ⟨#[]⟩, .slice none 0 0, .int .i64 0], _] from Bag.take S35.out [0, 1, 2, 6, 7, 3] (by rfl) (by decide))
    clear S35
    revert S36
    revert HZzr
    revert hS
    exact hrest gb0 gb1 zr zs0 ar1 cr1 w28
    refine Reg.cons_op (i := 9) rfl (fun K hK => ?_) ?_
    go_simp
    have S34 := Lib.hid (show Sl.Sep W _ [_, _, _, _, _, _, _] from L4.push_box S33.out 26 #[.string ⟨#[]⟩, .slice none 0 0, .int .i64 0] w26.heap.size rfl)
    clear S33
    obtain ⟨gb0, hg⟩ : ∃ g', g' = w26.heap.size := ⟨_, rfl⟩
    rw [← hg] at S34 ⊢
    clear hg
    generalize w26.alloc (.cells #[.string ⟨#[]⟩, .slice none 0 0, .int .i64 0] 26) = w27 at S34 ⊢
    refine hK.out _ _ ⟨Bag.cell_at S34.out 0 rfl 0 rfl, Bag.cell_at S34.out 0 rfl 1 rfl, Bag.cell_at S34.out 0 rfl 2 rfl, Bag.cell_at S34.out 1 rfl 0 rfl⟩ (fun hS => ?_)
    clear hK K
    try simp only [zp0, zp1, zp2, zp3, zp4]
    refine Reg.one_op (i := 4) rfl (by kernel_rfl) (fun K hK => ?_)
    go_simp
    go_at_call 24
    refine (Cimpl.out zs0 HZzs0.out ar1 cr1 _ (Bag.bag_rd S34.out 4 rfl) (Sv.own_at S34.out 5 rfl).reads).mono ?_
    rintro e w28 ⟨zr, rfl, hcon, ho, hb⟩
    have S35 := Lib.hid (show Sl.Sep W _ [_, _, QQ, _, _, _, L4.boxR gb0 26 #[.string ⟨#[]⟩, .slice none 0 0, .int .i64 0], Bag.bag zr.rows] from Bag.push_bag S34.out hb ho)
    clear S34
    clear hb ho
    have HZzr := Lib.hid hcon
    clear hcon
    go_wp2_with fail
    refine hK.out _ _ ⟨Bag.cell_at S35.out 0 rfl 0 rfl, Bag.cell_at S35.out 0 rfl 1 rfl, Bag.cell_at S35.out 0 rfl 2 rfl, Bag.cell_at S35.out 1 rfl 0 rfl⟩ (fun hS => ?_)
    clear hK K
    try simp only [zp0, zp1, zp2, zp3, zp4]
    refine tk 5 rfl ?_
    try simp only [zp0, zp1, zp2, zp3, zp4]
    refine tk 6 rfl ?_
    try simp only [zp0, zp1, zp2, zp3, zp4]
    refine tk 7 rfl ?_
    try simp only [zp0, zp1, zp2, zp3, zp4]
    refine tk 8 rfl ?_
    try simp only [zp0, zp1, zp2, zp3, zp4]
    have S36 := Lib.hid (show Sl.Sep W _ [_, _, QQ, _, _, _] from Bag.take S35.out [0, 1, 2, 7, 6, 3] (by rfl) (by decide))
    clear S35
    revert S36
    revert HZzr
    revert hS
    exact hrest gb0 gb1 zr zs0 ar1 cr1 w28
    exact AllReadyH.nil
    refine Reg.cons_op (i := 9) rfl (fun K hK => ?_) ?_
    go_simp
    have S33 := Lib.hid (show Sl.Sep W _ [_, _, _, _, _, _] from L4.push_box S32.out 26 #[.string ⟨#[]⟩, .slice none 0 0, .int .i64 0] w25.heap.size rfl)
    clear S32
    obtain ⟨gb0, hg⟩ : ∃ g', g' = w25.heap.size := ⟨_, rfl⟩
    rw [← hg] at S33 ⊢
    clear hg
    generalize w25.alloc (.cells #[.string ⟨#[]⟩, .slice none 0 0, .int .i64 0] 26) = w26 at S33 ⊢
    refine hK.out _ _ ⟨Bag.cell_at S33.out 0 rfl 0 rfl, Bag.cell_at S33.out 0 rfl 1 rfl, Bag.cell_at S33.out 0 rfl 2 rfl, Bag.cell_at S33.out 1 rfl 0 rfl⟩ (fun hS => ?_)
    clear hK K
    try simp only [zp0, zp1, zp2, zp3, zp4]
    refine Reg.one_op (i := 3) rfl (by kernel_rfl) (fun K hK => ?_)
    go_simp
    go_at_call 39
    refine (HTO1.out _ S33.out.old).mono ?_
    rintro e w27 ⟨ar1, cr1, rfl, ho, hb⟩
    have S34 := Lib.hid (show Sl.Sep W _ [_, _, QQ, _, _, L4.boxR gb0 26 #[.string ⟨#[]⟩, .slice none 0 0, .int .i64 0], Sv.ownV 128 2 ar1 cr1 l1.length (cellsF l1)] from Sv.push_own S33.out hb ho)
    clear S33
    clear hb ho
    go_wp2_with fail
    refine hK.out _ _ ⟨Bag.cell_at S34.out 0 rfl 0 rfl, Bag.cell_at S34.out 0 rfl 1 rfl, Bag.cell_at S34.out 0 rfl 2 rfl, Bag.cell_at S34.out 1 rfl 0 rfl⟩ (fun hS => ?_)
    clear hK K
    try simp only [zp0, zp1, zp2, zp3, zp4]
    refine Reg.one_op (i := 4) rfl (by kernel_rfl) (fun K hK => ?_)
    go_simp
    go_at_call 24
    refine (Cimpl.out zs0 HZzs0.out ar1 cr1 _ (Bag.bag_rd S34.out 4 rfl) (Sv.own_at S34.out 6 rfl).reads).mono ?_
    rintro e w28 ⟨zr, rfl, hcon, ho, hb⟩
    have S35 := Lib.hid (show Sl.Sep W _ [_, _, QQ, _, _, _, _, Bag.bag zr.rows] from Bag.push_bag S34.out hb ho)
    clear S34
    clear hb ho
    have HZzr := Lib.hid hcon
    clear hcon
    go_wp2_with fail
    refine hK.out _ _ ⟨Bag.cell_at S35.out 0 rfl 0 rfl, Bag.cell_at S35.out 0 rfl 1 rfl, Bag.cell_at S35.out 0 rfl 2 rfl, Bag.cell_at S35.out 1 rfl 0 rfl⟩ (fun hS => ?_)
    clear hK K
    try simp only [zp0, zp1, zp2, zp3, zp4]
    refine tk 5 rfl ?_
    try simp only [zp0, zp1, zp2, zp3, zp4]
    refine tk 6 rfl ?_
    try simp only [zp0, zp1, zp2, zp3, zp4]
    refine tk 7 rfl ?_
    try simp only [zp0, zp1, zp2, zp3, zp4]
    refine tk 8 rfl ?_
    try simp only [zp0, zp1, zp2, zp3, zp4]
    have S36 := Lib.hid (show Sl.Sep W _ [_, _, QQ, _, _, _] from Bag.take S35.out [0, 1, 2, 7, 5, 3] (by rfl) (by decide))
    clear S35
    revert S36
    revert HZzr
    revert hS
    exact hrest gb0 gb1 zr zs0 ar1 cr1 w28
    exact AllReadyH.nil
    refine Reg.cons_op (i := 9) rfl (fun K hK => ?_) ?_
    go_simp
    have S32 := Lib.hid (show Sl.Sep W _ [_, _, _, _, _] from L4.push_box S31.out 26 #[.string ⟨#[]⟩, .slice none 0 0, .int .i64 0] w24.heap.size rfl)
    clear S31
    obtain ⟨gb0, hg⟩ : ∃ g', g' = w24.heap.size := ⟨_, rfl⟩
    rw [← hg] at S32 ⊢
    clear hg
    generalize w24.alloc (.cells #[.string ⟨#[]⟩, .slice none 0 0, .int .i64 0] 26) = w25 at S32 ⊢
    refine hK.out _ _ ⟨Bag.cell_at S32.out 0 rfl 0 rfl, Bag.cell_at S32.out 0 rfl 1 rfl, Bag.cell_at S32.out 0 rfl 2 rfl, Bag.cell_at S32.out 1 rfl 0 rfl⟩ (fun hS => ?_)
    clear hK K
    try simp only [zp0, zp1, zp2, zp3, zp4]
    refine Reg.one_op (i := 1) rfl (by kernel_rfl) (fun K hK => ?_)
    go_simp
    go_at_call 37
    refine (HTO0.out _ S32.out.old).mono ?_
    rintro e w26 ⟨zs0, rfl, hcon, ho, hb⟩
    have S33 := Lib.hid (show Sl.Sep W _ [_, _, QQ, _, L4.boxR gb0 26 #[.string ⟨#[]⟩, .slice none 0 0, .int .i64 0], Bag.bag zs0.rows] from Bag.push_bag S32.out hb ho)
    clear S32
    clear hb ho
    have HZzs0 := Lib.hid (hcon.trans HC0.out)
    clear hcon
    go_wp2_with fail
    refine hK.out _ _ ⟨Bag.cell_at S33.out 0 rfl 0 rfl, Bag.cell_at S33.out 0 rfl 1 rfl, Bag.cell_at S33.out 0 rfl 2 rfl, Bag.cell_at S33.out 1 rfl 0 rfl⟩ (fun hS => ?_)
    clear hK K
    try simp only [zp0, zp1, zp2, zp3, zp4]
    refine Reg.one_op (i := 3) rfl (by kernel_rfl) (fun K hK => ?_)
    go_simp
    go_at_call 39
    refine (HTO1.out _ S33.out.old).mono ?_
    rintro e w27 ⟨ar1, cr1, rfl, ho, hb⟩
    have S34 := Lib.hid (show Sl.Sep W _ [_, _, QQ, _, _, _, Sv.ownV 128 2 ar1 cr1 l1.length (cellsF l1)] from Sv.push_own S33.out hb ho)
    clear S33
    clear hb ho
    go_wp2_with fail
    refine hK.out _ _ ⟨Bag.cell_at S34.out 0 rfl 0 rfl, Bag.cell_at S34.out 0 rfl 1 rfl, Bag.cell_at S34.out 0 rfl 2 rfl, Bag.cell_at S34.out 1 rfl 0 rfl⟩ (fun hS => ?_)
    clear hK K
    try simp only [zp0, zp1, zp2, zp3, zp4]
    refine Reg.one_op (i := 4) rfl (by kernel_rfl) (fun K hK => ?_)
    go_simp
    go_at_call 24
    refine (Cimpl.out zs0 HZzs0.out ar1 cr1 _ (Bag.bag_rd S34.out 5 rfl) (Sv.own_at S34.out 6 rfl).reads).mono ?_
    rintro e w28 ⟨zr, rfl, hcon, ho, hb⟩
    have S35 := Lib.hid (show Sl.Sep W _ [_, _, QQ, _, _, _, _, Bag.bag zr.rows] from Bag.push_bag S34.out hb ho)
    clear S34
    clear hb ho
    have HZzr := Lib.hid hcon
    clear hcon
    go_wp2_with fail
    refine hK.out _ _ ⟨Bag.cell_at S35.out 0 rfl 0 rfl, Bag.cell_at S35.out 0 rfl 1 rfl, Bag.cell_at S35.out 0 rfl 2 rfl, Bag.cell_at S35.out 1 rfl 0 rfl⟩ (fun hS => ?_)
    clear hK K
    try simp only [zp0, zp1, zp2, zp3, zp4]
    refine tk 5 rfl ?_
    try simp only [zp0, zp1, zp2, zp3, zp4]
    refine tk 6 rfl ?_
    try simp only [zp0, zp1, zp2, zp3, zp4]
    refine tk 7 rfl ?_
    try simp only [zp0, zp1, zp2, zp3, zp4]
    refine tk 8 rfl ?_
    try simp only [zp0, zp1, zp2, zp3, zp4]
    have S36 := Lib.hid (show Sl.Sep W _ [_, _, QQ, _, _, _] from Bag.take S35.out [0, 1, 2, 7, 4, 3] (by rfl) (by decide))
    clear S35
    revert S36
    revert HZzr
    revert hS
    exact hrest gb0 gb1 zr zs0 ar1 cr1 w28
    exact AllReadyH.nil
    exact AllReadyH.nil
   case pf =>
    intro gb0 gb1 zr zs0 ar1 cr1 w28 hS HZzr S36
    refine Reg.one_op (i := 11) rfl (by kernel_rfl) (fun K hK => ?_)
    have f0 : World.cell? _ ⟨gb0, 0, none⟩ = some (.string ⟨#[]⟩) := Bag.cell_at S36.out 4 rfl 0 rfl
    have f1 : World.cell? _ ⟨gb0, 1, none⟩ = some (.slice none 0 0) := Bag.cell_at S36.out 4 rfl 1 rfl
    have f2 : World.cell? _ ⟨gb0, 2, none⟩ = some (.int .i64 0) := Bag.cell_at S36.out 4 rfl 2 rfl
    have z0 := Bag.free_at S36.out 4 rfl 0
    have z1 := Bag.free_at S36.out 4 rfl 1
    have z2 := Bag.free_at S36.out 4 rfl 2
    go_simp
    clear f0 f1 f2 z0 z1 z2
    have S37 := Lib.hid (show Sl.Sep W _ [_, _, QQ, _, L4.boxR gb0 26 #[.string zr.name, .slice zr.a zr.xs.length zr.c, .int .i64 zr.auto], _] from L5.put_box5 (L5.put_box5 (L5.put_box5 (S36.out) 4 rfl 0 (.string zr.name)) 4 rfl 1 (.slice zr.a zr.xs.length zr.c)) 4 rfl 2 (.int .i64 zr.auto))
    clear S36
    refine hK.out _ _ ⟨Bag.cell_at S37.out 0 rfl 0 rfl, Bag.cell_at S37.out 0 rfl 1 rfl, Bag.cell_at S37.out 0 rfl 2 rfl, Bag.cell_at S37.out 1 rfl 0 rfl⟩ (fun hS => ?_)
    clear hK K
    try simp only [zp0, zp1, zp2, zp3, zp4]
    refine Reg.one_op (i := 12) rfl (by kernel_rfl) (fun K hK => ?_)
    have f0 : World.cell? _ ⟨gb1, 0, none⟩ = some (.int .i64 0) := Bag.cell_at S37.out 5 rfl 0 rfl
    have f1 : World.cell? _ ⟨gb1, 1, none⟩ = some (.int .i64 0) := Bag.cell_at S37.out 5 rfl 1 rfl
    have f2 : World.cell? _ ⟨gb1, 2, none⟩ = some (.string ⟨#[]⟩) := Bag.cell_at S37.out 5 rfl 2 rfl
    have z0 := Bag.free_at S37.out 5 rfl 0
    have z1 := Bag.free_at S37.out 5 rfl 1
    have z2 := Bag.free_at S37.out 5 rfl 2
    go_simp
    clear f0 f1 f2 z0 z1 z2
    have S38 := Lib.hid (show Sl.Sep W _ [_, _, QQ, _, _, L4.boxR gb1 28 #[.int .i64 r1'.kind, .int .i64 r1'.n, .string r1'.text]] from L5.put_box5 (L5.put_box5 (L5.put_box5 (S37.out) 5 rfl 0 (.int .i64 r1'.kind)) 5 rfl 1 (.int .i64 r1'.n)) 5 rfl 2 (.string r1'.text))
    clear S37
    refine hK.out _ _ ⟨Bag.cell_at S38.out 0 rfl 0 rfl, Bag.cell_at S38.out 0 rfl 1 rfl, Bag.cell_at S38.out 0 rfl 2 rfl, Bag.cell_at S38.out 1 rfl 0 rfl⟩ (fun hS => ?_)
    clear hK K
    try simp only [zp0, zp1, zp2, zp3, zp4]
    refine tk 13 rfl ?_
    try simp only [zp0, zp1, zp2, zp3, zp4]
    refine wpAnyH_done (by kernel_rfl) ?_ _
    go_wp2_with fail
    go_meet
    case rel =>
     exact ⟨gb0, gb1, zr, rfl, rfl, rfl, And.intro HZzr.out S38.out⟩
  case rest =>
   obtain ⟨g7a', g7b', z7', rfl, rfl, rfl, hq⟩ := hcut
   have HZz7' := Lib.hid hq.out.1
   have S30 := Lib.hid hq.out.2
   clear hq S29 HTO0 HTO1
   have S31 := Lib.hid (show Sl.Sep W _ [L4.boxR W.heap.size 57 #[.string y0.name, .slice y0.a y0.xs.length y0.c, .int .i64 y0.auto], L4.boxR (W.heap.size + 1) 61 #[.slice a1 l1.length c1], Bag.bag z7'.rows, L4.boxR g7a' 26 #[.string z7'.name, .slice z7'.a z7'.xs.length z7'.c, .int .i64 z7'.auto], L4.boxR g7b' 28 #[.int .i64 r1'.kind, .int .i64 r1'.n, .string r1'.text], QQ] from Bag.take S30.out [0, 1, 3, 4, 5, 2] (by rfl) (by decide))
   clear S30
   have S32 := Lib.hid (show Sl.Sep W _ [L4.boxR W.heap.size 57 #[.string y0.name, .slice y0.a y0.xs.length y0.c, .int .i64 y0.auto], L4.boxR (W.heap.size + 1) 61 #[.slice a1 l1.length c1], Bag.bag z7'.rows, L4.boxR g7a' 26 #[.string z7'.name, .slice z7'.a z7'.xs.length z7'.c, .int .i64 z7'.auto], L4.boxR g7b' 28 #[.int .i64 r1'.kind, .int .i64 r1'.n, .string r1'.text], Bag.bag z1'.rows, L4.boxR g1a' 26 #[.string z1'.name, .slice z1'.a z1'.xs.length z1'.c, .int .i64 z1'.auto], L4.boxR g1b' 28 #[.int .i64 r1'.kind, .int .i64 r1'.n, .string r1'.text], Bag.bag ((L6.LS.marked 1 z2').rows), L4.boxR g1 26 #[.string z2'.name, .slice z2'.a z2'.xs.length z2'.c, .int .i64 z2'.auto], Sv.ownV 128 2 ax3 cx3 l1.length (cellsF (L5.marksF Ez2' l1.length)), L4.boxR g2 31 #[.slice ax3 l1.length cx3], Bag.bag ((L6.LS.marked 1 z4').rows), L4.boxR g4 26 #[.string z4'.name, .slice z4'.a z4'.xs.length z4'.c, .int .i64 z4'.auto], L4.boxR g3 28 #[.int .i64 r1'.kind, .int .i64 r1'.n, .string r1'.text]] from (by have h := S31.out; rw [HQQ.out] at h; exact Run.unpackR (us := [L4.boxR W.heap.size 57 #[.string y0.name, .slice y0.a y0.xs.length y0.c, .int .i64 y0.auto], L4.boxR (W.heap.size + 1) 61 #[.slice a1 l1.length c1], Bag.bag z7'.rows, L4.boxR g7a' 26 #[.string z7'.name, .slice z7'.a z7'.xs.length z7'.c, .int .i64 z7'.auto], L4.boxR g7b' 28 #[.int .i64 r1'.kind, .int .i64 r1'.n, .string r1'.text]]) (vs := [Bag.bag z1'.rows, L4.boxR g1a' 26 #[.string z1'.name, .slice z1'.a z1'.xs.length z1'.c, .int .i64 z1'.auto], L4.boxR g1b' 28 #[.int .i64 r1'.kind, .int .i64 r1'.n, .string r1'.text], Bag.bag ((L6.LS.marked 1 z2').rows), L4.boxR g1 26 #[.string z2'.name, .slice z2'.a z2'.xs.length z2'.c, .int .i64 z2'.auto], Sv.ownV 128 2 ax3 cx3 l1.length (cellsF (L5.marksF Ez2' l1.length)), L4.boxR g2 31 #[.slice ax3 l1.length cx3], Bag.bag ((L6.LS.marked 1 z4').rows), L4.boxR g4 26 #[.string z4'.name, .slice z4'.a z4'.xs.length z4'.c, .int .i64 z4'.auto], L4.boxR g3 28 #[.int .i64 r1'.kind, .int .i64 r1'.n, .string r1'.text]]) h))
   clear S31
   clear HQQ QQ
   have f0 : World.cell? _ ⟨g7a', 0, none⟩ = some (.string z7'.name) := Bag.cell_at S32.out 3 rfl 0 rfl
   have f1 : World.cell? _ ⟨g7a', 1, none⟩ = some (.slice z7'.a z7'.xs.length z7'.c) := Bag.cell_at S32.out 3 rfl 1 rfl
   have f2 : World.cell? _ ⟨g7a', 2, none⟩ = some (.int .i64 z7'.auto) := Bag.cell_at S32.out 3 rfl 2 rfl
   have f3 : World.cell? _ ⟨g1a', 0, none⟩ = some (.string z1'.name) := Bag.cell_at S32.out 6 rfl 0 rfl
   have f4 : World.cell? _ ⟨g1a', 1, none⟩ = some (.slice z1'.a z1'.xs.length z1'.c) := Bag.cell_at S32.out 6 rfl 1 rfl
   have f5 : World.cell? _ ⟨g1a', 2, none⟩ = some (.int .i64 z1'.auto) := Bag.cell_at S32.out 6 rfl 2 rfl
   go_wp2_with fail
   go_at_call 40
   have HC := L6.eqStore_any z7' z1' (HZz7'.out.trans HZz1'.out.symm) (by rw [HZz7'.out]; exact HFR.out) _ (Bag.bag_rd S32.out 2 rfl) (Bag.bag_rd S32.out 5 rfl)
   try dsimp only [L6.LS.v, L6.LS.cells, L4.K.v, L4.R.v] at HC
   refine HC.mono ?_
   clear HC
   rintro e w23 ⟨rfl, hb⟩
   clear f0 f1 f2 f3 f4 f5
   have S33 := Lib.hid (show Sl.Sep W _ [_, _, _, _, _, _, _, _, _, _, _, _, _, _, _] from S32.out.keep hb)
   clear S32
   clear hb
   have f0 : World.cell? _ ⟨g7b', 0, none⟩ = some (.int .i64 r1'.kind) := Bag.cell_at S33.out 4 rfl 0 rfl
   have f1 : World.cell? _ ⟨g7b', 1, none⟩ = some (.int .i64 r1'.n) := Bag.cell_at S33.out 4 rfl 1 rfl
   have f2 : World.cell? _ ⟨g7b', 2, none⟩ = some (.string r1'.text) := Bag.cell_at S33.out 4 rfl 2 rfl
   have f3 : World.cell? _ ⟨g1b', 0, none⟩ = some (.int .i64 r1'.kind) := Bag.cell_at S33.out 7 rfl 0 rfl
   have f4 : World.cell? _ ⟨g1b', 1, none⟩ = some (.int .i64 r1'.n) := Bag.cell_at S33.out 7 rfl 1 rfl
   have f5 : World.cell? _ ⟨g1b', 2, none⟩ = some (.string r1'.text) := Bag.cell_at S33.out 7 rfl 2 rfl
   go_wp2_with fail
   go_at_call 46
   have HC := L4.eqKey_any r1' w23
   try dsimp only [L6.LS.v, L6.LS.cells, L4.K.v, L4.R.v] at HC
   refine HC.mono ?_
   clear HC
   rintro e w24 ⟨rfl, hb⟩
   clear f0 f1 f2 f3 f4 f5
   have S34 := Lib.hid (show Sl.Sep W _ [_, _, _, _, _, _, _, _, _, _, _, _, _, _, _] from S33.out.keep hb)
   clear S33
   clear hb
   have f0 : World.cell? _ ⟨g4, 0, none⟩ = some (.string z4'.name) := Bag.cell_at S34.out 13 rfl 0 rfl
   have f1 : World.cell? _ ⟨g4, 1, none⟩ = some (.slice z4'.a z4'.xs.length z4'.c) := Bag.cell_at S34.out 13 rfl 1 rfl
   have f2 : World.cell? _ ⟨g4, 2, none⟩ = some (.int .i64 z4'.auto) := Bag.cell_at S34.out 13 rfl 2 rfl
   go_wp2_with fail
   go_at_call 44
   have HC := L6.heldStore_any z4' 1 (by rw [HZz4'.out]; exact HFR.out) (by omega) (by omega) _ (Bag.bag_rd S34.out 12 rfl)
   try dsimp only [L6.LS.v, L6.LS.cells, L4.K.v, L4.R.v] at HC
   rw [HEz4'.out] at HC
   refine HC.mono ?_
   clear HC
   rintro e w25 ⟨rfl, hb⟩
   clear f0 f1 f2
   have S35 := Lib.hid (show Sl.Sep W _ [_, _, _, _, _, _, _, _, _, _, _, _, _, _, _] from S34.out.keep hb)
   clear S34
   clear hb
   go_wp2_with fail
   go_ret
   exact ⟨rfl, S35.out.old⟩

set_option maxRecDepth 100000 in
theorem lifted (os : Os) (started : os.Started) (H : Type) (enc : TypeId × Value → H) :
  ReturnsInHanded {} Try.checked os 7 .any (Rows.fnExactAutoItemSpec.pre6 enc Try.prog Try.f7 Rows.fnExactAutoItemRow.domain false) (Rows.fnExactAutoItemSpec.post enc Try.prog Try.f7 false true false false) := by
 refine returnsInHanded_of_change_sized (C := Try.checked) own started (by kernel_rfl) Try.func7
  (ChangeSpec.witness6 (enc := enc) (C := Try.checked) false ⟨#[], #[.agg #[.string ⟨#[]⟩, .slice none 0 0, .int .i64 0], .agg #[.slice none 0 0]], []⟩ 8 (by kernel_rfl) (by kernel_rfl) (by kernel_rfl) (by kernel_rfl)) ?_
 intro W base args ds gs before hval0 hW _ hsz0 _
 have hval : ∀ (j : Nat) t v, Try.f7.params[j]? = some t → args[j]? = some v → Value.okWide Try.prog W .any base t v := hval0
 have hW' := hW
 obtain ⟨p, q, hA0, hV, rfl, _, _⟩ := hW
 have hA : DataW.TrodAll enc Try.prog W 0 (fun _ => true) true Try.f7.params.toList args.toList ds p := hA0
 obtain ⟨rfl, rfl⟩ := trodVars_none hV
 have hlt : ∀ x ∈ p, x.block < W.heap.size := fun x hx => hW'.lt x (by simpa using hx)
 simp only [List.append_nil] at hW'
 have hw := walk H enc W base args ds p hval hA hlt hsz0
 have hA1 := hA
 clear hA0 hval0 hsz0 hval hlt
 rw [Try.params7] at hA
 obtain ⟨v0, vs0, d0, ds0, p0, q0, e0, rfl, rfl, h0, hr0⟩ := trodAll_cons hA
 obtain ⟨v1, vs1, d1, ds1, p1, q1, e1, rfl, rfl, h1, hr1⟩ := trodAll_cons hr0
 obtain ⟨e2, rfl, rfl⟩ := trodAll_nil hr1
 refine hw.mono fun e W' ⟨he, hb⟩ => ?_
 subst he
 exact ⟨_, rfl, Frame.law_post (tb := 4) rfl hW' hA1 rfl rfl rfl laidOut (by kernel_rfl) (by kernel_rfl) Try.underlying4 hb⟩

theorem closedFacts : joinedFacts Try.pinned.checked.prog 7 Try.f7 Rows.fnExactAutoItemSpec Rows.fnExactAutoItemRow = true := by
 have h1 : Try.pinned.checked.prog.mayEnter = true := Closed.mayIn
 have h2 : (Rows.fnExactAutoItemRow.lifted == Try.pinned.checked.prog.liftsFinal) = true := by
  rw [show Try.pinned.checked.prog.liftsFinal = false from Closed.liftsNone]; rfl
 have h3 : (Try.pinned.checked.prog.make == some Rows.fnExactAutoItemRow.make) = true := by
  rw [show Try.pinned.checked.prog.make = some .cut from Closed.makeIs]; rfl
 unfold joinedFacts
 rw [h1, h2, h3]
 change _ = true
 kernel_rfl
theorem holds : Rows.FnExactAutoItemSaid :=
 OpenClaim.holds_of_wide 7 Try.f7 rfl rfl rfl rfl rfl rfl rfl ⟨rfl, rfl, rfl, rfl, rfl⟩ rfl rfl rfl rfl rfl (by kernel_rfl) Try.func7 closedFacts
  (of_decide_eq_true (by kernel_rfl)) (by unfold Func.isWrapper; first | (rw [if_pos (by decide +kernel)]; kernel_rfl) | (rw [if_neg (by decide +kernel)]; exact ⟨rfl, rfl⟩))
  (fun os started H enc _ => lifted os started H enc)

#print axioms holds
end Go.Proofs.Ytojcdmgcbgpdmaa.lawFnExactAutoItem
