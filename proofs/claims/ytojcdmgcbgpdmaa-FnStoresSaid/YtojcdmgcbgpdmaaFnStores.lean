import Derived.Test.YtojcdmgcbgpdmaaFnStoresP4
import Derived.Test.YtojcdmgcbgpdmaaClosed
import Derived.JoinedOf
import Derived.SizedLaws
import Derived.LaidLaws
import Derived.ShutString
import Derived.Stop.LaidErr
import Derived.Lib.LaidTab
set_option linter.unusedSimpArgs false
namespace Go.Proofs.Ytojcdmgcbgpdmaa.lawFnStores
open Go.ChangeShapes Go.WideShapes Go.ChangeAt Go.RowKit
open Go.ChangeMaps (open_string shut_string)
theorem own : ownKnob Try.prog.godebug = none := by kernel_rfl
theorem laidOut : laidOutB Try.prog = true := by kernel_rfl
open Mem Sl Ex Sd L2 Sv Bag
open L4 (K isK cmpK R inR encU)
open L5 (F isR isN cellsF encR eqR Small Tame)
open L6
theorem later {w w' : World} {a : Addr} {v : Value} (h : Below w.heap.size w w') (hc : w.cell? a = some v) : w'.cell? a = some v := by
 rw [h.cell (World.block_lt_of_cell? w a hc)]
 exact hc
theorem eqR_self (l : List L5.F) : L5.eqR l l = true := L5.eqR_iff.2 rfl
set_option maxRecDepth 100000 in
set_option maxHeartbeats 8000000 in
theorem walk (H : Type) (enc : TypeId × Value → H) (W : World) (base : Nat) (args : Array Value) (ds : List (DataW H)) (p : List MemPlace)
  (hval : ∀ (j : Nat) t v, Try.f3.params[j]? = some t → args[j]? = some v → Value.okWide Try.prog W .any base t v)
  (hA : DataW.TrodAll enc Try.prog W 0 (fun _ => true) true Try.f3.params.toList args.toList ds p)
  (hlt : ∀ x ∈ p, x.block < W.heap.size)
  (hsz : (DataW.weightsEach Try.prog (Try.f3.params.toList ++ Rows.fnStoresSpec.plain.varTypes Try.prog) (ds ++ [])).all (· ≤ reachBytes) = true) :
  Calls Try.prog 3 args W fun e w' => e = .returned (.bool true) ∧ Below W.heap.size W w' := by
 rw [Try.params3] at hA hval hsz
 obtain ⟨v0, d0, rfl, rfl, h0⟩ := trodAll_one hA
 obtain ⟨a0, l0, c0, rfl, hC0, -, hR0, hW0⟩ := Law.open_list Try.underlying22 Try.underlying5 (by kernel_rfl) (hval 0 22 v0 rfl rfl) h0 hlt
 have hby : Mem.Bytes W W.heap.size a0 l0.length := fun j hj => by
  obtain ⟨ad, he, hb, hc⟩ := hR0.int j hj
  have := Law.wf_u8 (hW0 l0[j] (List.getElem_mem hj))
  exact ⟨ad, _, he, hb, hc, this.1, this.2⟩
 obtain ⟨n0, hn0⟩ : ∃ n, n = l0.length := ⟨_, rfl⟩
 rw [← hn0] at hby hC0 ⊢
 clear hn0 hR0 hW0 hA hval hlt hsz h0
 have S0 := Sl.Sep.start W
 by_cases hbig : n0 > 1048576
 ·
  go_enter Try.func3, Try.ntmps3
  go_wp2_with (go_at_call 15; refine (big_s _ S0).mono ?_; rw [decide_eq_true hbig]; rintro e w1 ⟨rfl, S1⟩)
  go_ret
  exact ⟨rfl, S1.old⟩
 ·
  have hsm : n0 ≤ 4611686018427387904 := by omega
  go_enter Try.func3, Try.ntmps3
  go_wp2_with fail
  go_at_call 15
  refine (big_s _ S0).mono ?_
  rw [decide_eq_false hbig]
  rintro e w1 ⟨rfl, S1⟩
  clear S0 l0
  go_wp2_with fail
  go_at_call 16
  refine (drawPutItem_q _ hsm hby S1).mono ?_
  rintro e w2 ⟨y, ⟨kd, n, t⟩, A, C, l, rfl, hF, hk, hT, hS⟩
  have HFY := Lib.hid hF
  have HK := Lib.hid (show t.size ≤ 13 from hk)
  have HT := Lib.hid hT
  clear hF hk hT S1
  have S2 := Lib.hid (show Sl.Sep W _ [Bag.bag y.rows, Sv.ownV 128 2 A C l.length (cellsF l)] from hS)
  clear hS
  dsimp only [LS.v, LS.cells, L4.K.v]
  go_upto_region 4 with fail
  have S3 := Lib.hid (show Sl.Sep W _ [_, _, _, _, _] from L4.push_box (L4.push_box (L4.push_box (S2.out) 26 #[.string y.name, .slice y.a y.xs.length y.c, .int .i64 y.auto] (w2.heap.size) (by simp)) 28 #[.int .i64 kd, .int .i64 n, .string t] (w2.heap.size + 1) (by simp)) 31 #[.slice A l.length C] (w2.heap.size + 1 + 1) (by simp))
  clear S2
  obtain ⟨g1, hg⟩ : ∃ g', g' = w2.heap.size := ⟨_, rfl⟩
  rw [← hg] at S3 ⊢
  clear hg
  obtain ⟨g2, hg⟩ : ∃ g', g' = g1 + 1 := ⟨_, rfl⟩
  (try rw [← hg] at S3); (try rw [← hg])
  clear hg
  obtain ⟨g3, hg⟩ : ∃ g', g' = g2 + 1 := ⟨_, rfl⟩
  (try rw [← hg] at S3); (try rw [← hg])
  clear hg
  obtain ⟨w3, hw⟩ : ∃ uu, uu = (((w2.alloc (.cells #[.string y.name, .slice y.a y.xs.length y.c, .int .i64 y.auto] 26)).alloc (.cells #[.int .i64 kd, .int .i64 n, .string t] 28)).alloc (.cells #[.slice A l.length C] 31)) := ⟨_, rfl⟩
  rw [← hw] at S3 ⊢
  clear hw
  have HY := Lib.hid (fun w' (h : Below w3.heap.size w3 w') => (Bag.bag_rd S3.out 0 rfl).below h)
  have HR := Lib.hid (fun w' (h : Below w3.heap.size w3 w') => ((Sv.own_at S3.out 1 rfl).reads).below h)
  have HBS := Lib.hid (fun w' (h : Below w3.heap.size w3 w') => (show w'.cell? ⟨g1, 0, none⟩ = some (.string y.name) ∧ w'.cell? ⟨g1, 1, none⟩ = some (.slice y.a y.xs.length y.c) ∧ w'.cell? ⟨g1, 2, none⟩ = some (.int .i64 y.auto) from ⟨later h (Bag.cell_at S3.out 2 rfl 0 rfl), later h (Bag.cell_at S3.out 2 rfl 1 rfl), later h (Bag.cell_at S3.out 2 rfl 2 rfl)⟩))
  have HBK := Lib.hid (fun w' (h : Below w3.heap.size w3 w') => (show w'.cell? ⟨g2, 0, none⟩ = some (.int .i64 kd) ∧ w'.cell? ⟨g2, 1, none⟩ = some (.int .i64 n) ∧ w'.cell? ⟨g2, 2, none⟩ = some (.string t) from ⟨later h (Bag.cell_at S3.out 3 rfl 0 rfl), later h (Bag.cell_at S3.out 3 rfl 1 rfl), later h (Bag.cell_at S3.out 3 rfl 2 rfl)⟩))
  have HBR := Lib.hid (fun w' (h : Below w3.heap.size w3 w') => (show w'.cell? ⟨g3, 0, none⟩ = some (.slice A l.length C) from later h (Bag.cell_at S3.out 4 rfl 0 rfl)))
  have HW := Lib.hid S3.out.old
  have S4 := Lib.hid (Sl.Sep.start w3)
  clear S3
  have HZ := Lib.hid (show FitI ⟨⟨kd, n, t⟩, l⟩ from ⟨by have := HK.out; show t.size ≤ _; omega, by have := HT.out.1; show l.length ≤ _; omega, HT.out.2⟩)
  cases hok : (putI y.con ⟨kd, n, t⟩ l).2 with
  | false =>
   have HOK := Lib.hid hok
   clear hok
   have f0 : World.cell? _ (⟨g1, 0, none⟩) = some (.string y.name) := (HBS.out _ S4.out.old).1
   have f1 : World.cell? _ (⟨g1, 1, none⟩) = some (.slice y.a y.xs.length y.c) := (HBS.out _ S4.out.old).2.1
   have f2 : World.cell? _ (⟨g1, 2, none⟩) = some (.int .i64 y.auto) := (HBS.out _ S4.out.old).2.2
   have f3 : World.cell? _ (⟨g2, 0, none⟩) = some (.int .i64 kd) := (HBK.out _ S4.out.old).1
   have f4 : World.cell? _ (⟨g2, 1, none⟩) = some (.int .i64 n) := (HBK.out _ S4.out.old).2.1
   have f5 : World.cell? _ (⟨g2, 2, none⟩) = some (.string t) := (HBK.out _ S4.out.old).2.2
   have f6 : World.cell? _ (⟨g3, 0, none⟩) = some (.slice A l.length C) := (And.intro (HBR.out _ S4.out.old) trivial).1
   have HC := putItem_any y ⟨kd, n, t⟩ A C l HFY.out HZ.out.text HZ.out.len HZ.out.small _ ((HY.out _ S4.out.old).more S4.out.old.size) ((HR.out _ S4.out.old).more S4.out.old.size)
   rw [putI_false HOK.out, HOK.out] at HC
   try dsimp only [LS.v, LS.cells, L4.K.v, L4.R.v] at HC
   go_wp2_with fail
   go_at_call 17
   refine HC.mono ?_
   clear HC
   rintro e w4 ⟨x, rfl, hcon, ho, hb⟩
   clear f0 f1 f2 f3 f4 f5 f6
   have S5 := Lib.hid (show Sl.Sep w3 _ [Bag.bag x.rows] from Bag.push_bag S4.out hb ho)
   clear S4
   clear ho hb
   try dsimp only [LS.v, LS.cells, L4.K.v]
   have HX := Lib.hid hcon
   clear hcon
   go_upto_region 5 with fail
   have S6 := Lib.hid (show Sl.Sep w3 _ [_, _] from L4.push_box (S5.out) 26 #[.string x.name, .slice x.a x.xs.length x.c, .int .i64 x.auto] (w4.heap.size) (by simp))
   clear S5
   obtain ⟨g4, hg⟩ : ∃ g', g' = w4.heap.size := ⟨_, rfl⟩
   rw [← hg] at S6 ⊢
   clear hg
   obtain ⟨w5, hw⟩ : ∃ uu, uu = (w4.alloc (.cells #[.string x.name, .slice x.a x.xs.length x.c, .int .i64 x.auto] 26)) := ⟨_, rfl⟩
   rw [← hw] at S6 ⊢
   clear hw
   have f0 : World.cell? _ (⟨g1, 0, none⟩) = some (.string y.name) := (HBS.out _ S6.out.old).1
   have f1 : World.cell? _ (⟨g1, 1, none⟩) = some (.slice y.a y.xs.length y.c) := (HBS.out _ S6.out.old).2.1
   have f2 : World.cell? _ (⟨g1, 2, none⟩) = some (.int .i64 y.auto) := (HBS.out _ S6.out.old).2.2
   have f3 : World.cell? _ (⟨g2, 0, none⟩) = some (.int .i64 kd) := (HBK.out _ S6.out.old).1
   have f4 : World.cell? _ (⟨g2, 1, none⟩) = some (.int .i64 n) := (HBK.out _ S6.out.old).2.1
   have f5 : World.cell? _ (⟨g2, 2, none⟩) = some (.string t) := (HBK.out _ S6.out.old).2.2
   have f6 : World.cell? _ (⟨g3, 0, none⟩) = some (.slice A l.length C) := (And.intro (HBR.out _ S6.out.old) trivial).1
   have HC := addItem_any y ⟨kd, n, t⟩ A C l HFY.out HZ.out.text HZ.out.len HZ.out.small _ ((HY.out _ S6.out.old).more S6.out.old.size) ((HR.out _ S6.out.old).more S6.out.old.size)
   rw [addI_off HOK.out, addI_two, HOK.out, Bool.false_and] at HC
   try dsimp only [LS.v, LS.cells, L4.K.v, L4.R.v] at HC
   go_wp2_with fail
   go_at_call 18
   refine HC.mono ?_
   clear HC
   rintro e w6 ⟨z, rfl, hcon, ho, hb⟩
   clear f0 f1 f2 f3 f4 f5 f6
   have S7 := Lib.hid (show Sl.Sep w3 _ [_, L4.boxR g4 26 #[.string x.name, .slice x.a x.xs.length x.c, .int .i64 x.auto], Bag.bag z.rows] from Bag.push_bag S6.out hb ho)
   clear S6
   clear ho hb
   try dsimp only [LS.v, LS.cells, L4.K.v]
   have HZC := Lib.hid hcon
   clear hcon
   go_upto_region 6 with fail
   have S8 := Lib.hid (show Sl.Sep w3 _ [_, _, _, _] from L4.push_box (S7.out) 26 #[.string z.name, .slice z.a z.xs.length z.c, .int .i64 z.auto] (w6.heap.size) (by simp))
   clear S7
   obtain ⟨g5, hg⟩ : ∃ g', g' = w6.heap.size := ⟨_, rfl⟩
   rw [← hg] at S8 ⊢
   clear hg
   obtain ⟨w7, hw⟩ : ∃ uu, uu = (w6.alloc (.cells #[.string z.name, .slice z.a z.xs.length z.c, .int .i64 z.auto] 26)) := ⟨_, rfl⟩
   rw [← hw] at S8 ⊢
   clear hw
   have f0 : World.cell? _ (⟨g1, 0, none⟩) = some (.string y.name) := (HBS.out _ S8.out.old).1
   have f1 : World.cell? _ (⟨g1, 1, none⟩) = some (.slice y.a y.xs.length y.c) := (HBS.out _ S8.out.old).2.1
   have f2 : World.cell? _ (⟨g1, 2, none⟩) = some (.int .i64 y.auto) := (HBS.out _ S8.out.old).2.2
   have f3 : World.cell? _ (⟨g2, 0, none⟩) = some (.int .i64 kd) := (HBK.out _ S8.out.old).1
   have f4 : World.cell? _ (⟨g2, 1, none⟩) = some (.int .i64 n) := (HBK.out _ S8.out.old).2.1
   have f5 : World.cell? _ (⟨g2, 2, none⟩) = some (.string t) := (HBK.out _ S8.out.old).2.2
   have f6 : World.cell? _ (⟨g3, 0, none⟩) = some (.slice A l.length C) := (And.intro (HBR.out _ S8.out.old) trivial).1
   have HC := specPutItem_any y ⟨kd, n, t⟩ A C l HFY.out HZ.out.text HZ.out.len HZ.out.small _ ((HY.out _ S8.out.old).more S8.out.old.size) ((HR.out _ S8.out.old).more S8.out.old.size)
   rw [HOK.out] at HC
   try dsimp only [LS.v, LS.cells, L4.K.v, L4.R.v] at HC
   go_wp2_with fail
   go_at_call 19
   refine HC.mono ?_
   clear HC
   rintro e w8 ⟨u, rfl, hcon, ho, hb⟩
   clear f0 f1 f2 f3 f4 f5 f6
   have S9 := Lib.hid (show Sl.Sep w3 _ [_, _, _, L4.boxR g5 26 #[.string z.name, .slice z.a z.xs.length z.c, .int .i64 z.auto], Bag.bag u.rows] from Bag.push_bag S8.out hb ho)
   clear S8
   clear ho hb
   try dsimp only [LS.v, LS.cells, L4.K.v]
   clear hcon
   go_upto_region 7 with fail
   have S10 := Lib.hid (show Sl.Sep w3 _ [_, _, _, _, _, _] from L4.push_box (S9.out) 26 #[.string u.name, .slice u.a u.xs.length u.c, .int .i64 u.auto] (w8.heap.size) (by simp))
   clear S9
   obtain ⟨g6, hg⟩ : ∃ g', g' = w8.heap.size := ⟨_, rfl⟩
   rw [← hg] at S10 ⊢
   clear hg
   obtain ⟨w9, hw⟩ : ∃ uu, uu = (w8.alloc (.cells #[.string u.name, .slice u.a u.xs.length u.c, .int .i64 u.auto] 26)) := ⟨_, rfl⟩
   rw [← hw] at S10 ⊢
   clear hw
   have HFX := Lib.hid (show FitS x.con from by rw [HX.out]; exact HFY.out)
   have HFZ := Lib.hid (show FitS z.con from by rw [HZC.out]; exact HFY.out)
   have f0 : World.cell? _ ⟨g4, 0, none⟩ = some (.string x.name) := Bag.cell_at S10.out 1 rfl 0 rfl
   have f1 : World.cell? _ ⟨g4, 1, none⟩ = some (.slice x.a x.xs.length x.c) := Bag.cell_at S10.out 1 rfl 1 rfl
   have f2 : World.cell? _ ⟨g4, 2, none⟩ = some (.int .i64 x.auto) := Bag.cell_at S10.out 1 rfl 2 rfl
   have f3 : World.cell? _ ⟨g5, 0, none⟩ = some (.string z.name) := Bag.cell_at S10.out 3 rfl 0 rfl
   have f4 : World.cell? _ ⟨g5, 1, none⟩ = some (.slice z.a z.xs.length z.c) := Bag.cell_at S10.out 3 rfl 1 rfl
   have f5 : World.cell? _ ⟨g5, 2, none⟩ = some (.int .i64 z.auto) := Bag.cell_at S10.out 3 rfl 2 rfl
   have f6 : World.cell? _ (⟨g1, 0, none⟩) = some (.string y.name) := (HBS.out _ S10.out.old).1
   have f7 : World.cell? _ (⟨g1, 1, none⟩) = some (.slice y.a y.xs.length y.c) := (HBS.out _ S10.out.old).2.1
   have f8 : World.cell? _ (⟨g1, 2, none⟩) = some (.int .i64 y.auto) := (HBS.out _ S10.out.old).2.2
   have f9 : World.cell? _ (⟨g2, 0, none⟩) = some (.int .i64 kd) := (HBK.out _ S10.out.old).1
   have f10 : World.cell? _ (⟨g2, 1, none⟩) = some (.int .i64 n) := (HBK.out _ S10.out.old).2.1
   have f11 : World.cell? _ (⟨g2, 2, none⟩) = some (.string t) := (HBK.out _ S10.out.old).2.2
   have f12 : World.cell? _ (⟨g3, 0, none⟩) = some (.slice A l.length C) := (And.intro (HBR.out _ S10.out.old) trivial).1
   have HC := equalStores_any x y HFX.out HFY.out _ (Bag.bag_rd S10.out 0 rfl) ((HY.out _ S10.out.old).more S10.out.old.size)
   rw [HX.out, eqS_self] at HC
   try dsimp only [LS.v, LS.cells, L4.K.v, L4.R.v] at HC
   go_wp2_with fail
   go_at_call 21
   refine HC.mono ?_
   clear HC
   rintro e w10 ⟨rfl, hb⟩
   clear f0 f1 f2 f3 f4 f5 f6 f7 f8 f9 f10 f11 f12
   have S11 := Lib.hid (show Sl.Sep w3 _ [_, _, _, _, _, L4.boxR g6 26 #[.string u.name, .slice u.a u.xs.length u.c, .int .i64 u.auto]] from S10.out.keep hb)
   clear S10
   clear hb
   try dsimp only [LS.v, LS.cells, L4.K.v]
   have f0 : World.cell? _ ⟨g4, 0, none⟩ = some (.string x.name) := Bag.cell_at S11.out 1 rfl 0 rfl
   have f1 : World.cell? _ ⟨g4, 1, none⟩ = some (.slice x.a x.xs.length x.c) := Bag.cell_at S11.out 1 rfl 1 rfl
   have f2 : World.cell? _ ⟨g4, 2, none⟩ = some (.int .i64 x.auto) := Bag.cell_at S11.out 1 rfl 2 rfl
   have f3 : World.cell? _ ⟨g5, 0, none⟩ = some (.string z.name) := Bag.cell_at S11.out 3 rfl 0 rfl
   have f4 : World.cell? _ ⟨g5, 1, none⟩ = some (.slice z.a z.xs.length z.c) := Bag.cell_at S11.out 3 rfl 1 rfl
   have f5 : World.cell? _ ⟨g5, 2, none⟩ = some (.int .i64 z.auto) := Bag.cell_at S11.out 3 rfl 2 rfl
   have f6 : World.cell? _ (⟨g1, 0, none⟩) = some (.string y.name) := (HBS.out _ S11.out.old).1
   have f7 : World.cell? _ (⟨g1, 1, none⟩) = some (.slice y.a y.xs.length y.c) := (HBS.out _ S11.out.old).2.1
   have f8 : World.cell? _ (⟨g1, 2, none⟩) = some (.int .i64 y.auto) := (HBS.out _ S11.out.old).2.2
   have f9 : World.cell? _ (⟨g2, 0, none⟩) = some (.int .i64 kd) := (HBK.out _ S11.out.old).1
   have f10 : World.cell? _ (⟨g2, 1, none⟩) = some (.int .i64 n) := (HBK.out _ S11.out.old).2.1
   have f11 : World.cell? _ (⟨g2, 2, none⟩) = some (.string t) := (HBK.out _ S11.out.old).2.2
   have f12 : World.cell? _ (⟨g3, 0, none⟩) = some (.slice A l.length C) := (And.intro (HBR.out _ S11.out.old) trivial).1
   have HC := equalStores_any z y HFZ.out HFY.out _ (Bag.bag_rd S11.out 2 rfl) ((HY.out _ S11.out.old).more S11.out.old.size)
   rw [HZC.out, eqS_self] at HC
   try dsimp only [LS.v, LS.cells, L4.K.v, L4.R.v] at HC
   go_wp2_with fail
   go_at_call 21
   refine HC.mono ?_
   clear HC
   rintro e w11 ⟨rfl, hb⟩
   clear f0 f1 f2 f3 f4 f5 f6 f7 f8 f9 f10 f11 f12
   have S12 := Lib.hid (show Sl.Sep w3 _ [_, _, _, _, _, _] from S11.out.keep hb)
   clear S11
   clear hb
   try dsimp only [LS.v, LS.cells, L4.K.v]
   go_wp2_with fail
   go_ret
   exact ⟨rfl, HW.out.trans (S12.out.old.mono HW.out.size)⟩
  | true =>
   have HOK := Lib.hid hok
   clear hok
   obtain ⟨q, hq⟩ : ∃ q, fndI y.con.items ⟨kd, n, t⟩ = q := ⟨_, rfl⟩
   have HQ := Lib.hid hq
   clear hq
   have f0 : World.cell? _ (⟨g1, 0, none⟩) = some (.string y.name) := (HBS.out _ S4.out.old).1
   have f1 : World.cell? _ (⟨g1, 1, none⟩) = some (.slice y.a y.xs.length y.c) := (HBS.out _ S4.out.old).2.1
   have f2 : World.cell? _ (⟨g1, 2, none⟩) = some (.int .i64 y.auto) := (HBS.out _ S4.out.old).2.2
   have f3 : World.cell? _ (⟨g2, 0, none⟩) = some (.int .i64 kd) := (HBK.out _ S4.out.old).1
   have f4 : World.cell? _ (⟨g2, 1, none⟩) = some (.int .i64 n) := (HBK.out _ S4.out.old).2.1
   have f5 : World.cell? _ (⟨g2, 2, none⟩) = some (.string t) := (HBK.out _ S4.out.old).2.2
   have f6 : World.cell? _ (⟨g3, 0, none⟩) = some (.slice A l.length C) := (And.intro (HBR.out _ S4.out.old) trivial).1
   have HC := putItem_any y ⟨kd, n, t⟩ A C l HFY.out HZ.out.text HZ.out.len HZ.out.small _ ((HY.out _ S4.out.old).more S4.out.old.size) ((HR.out _ S4.out.old).more S4.out.old.size)
   rw [HOK.out] at HC
   try dsimp only [LS.v, LS.cells, L4.K.v, L4.R.v] at HC
   go_wp2_with fail
   go_at_call 17
   refine HC.mono ?_
   clear HC
   rintro e w4 ⟨⟨xn, xa, xc, xs, xu⟩, rfl, hcon, ho, hb⟩
   clear f0 f1 f2 f3 f4 f5 f6
   have S5 := Lib.hid (show Sl.Sep w3 _ [Bag.bag (LS.rows ⟨xn, xa, xc, xs, xu⟩)] from Bag.push_bag S4.out hb ho)
   clear S4
   clear ho hb
   try dsimp only [LS.v, LS.cells, L4.K.v]
   have HX := Lib.hid hcon
   clear hcon
   go_upto_region 5 with fail
   have S6 := Lib.hid (show Sl.Sep w3 _ [_, _] from L4.push_box (S5.out) 26 #[.string xn, .slice xa xs.length xc, .int .i64 xu] (w4.heap.size) (by simp))
   clear S5
   obtain ⟨g4, hg⟩ : ∃ g', g' = w4.heap.size := ⟨_, rfl⟩
   rw [← hg] at S6 ⊢
   clear hg
   obtain ⟨w5, hw⟩ : ∃ uu, uu = (w4.alloc (.cells #[.string xn, .slice xa xs.length xc, .int .i64 xu] 26)) := ⟨_, rfl⟩
   rw [← hw] at S6 ⊢
   clear hw
   have f0 : World.cell? _ (⟨g1, 0, none⟩) = some (.string y.name) := (HBS.out _ S6.out.old).1
   have f1 : World.cell? _ (⟨g1, 1, none⟩) = some (.slice y.a y.xs.length y.c) := (HBS.out _ S6.out.old).2.1
   have f2 : World.cell? _ (⟨g1, 2, none⟩) = some (.int .i64 y.auto) := (HBS.out _ S6.out.old).2.2
   have f3 : World.cell? _ (⟨g2, 0, none⟩) = some (.int .i64 kd) := (HBK.out _ S6.out.old).1
   have f4 : World.cell? _ (⟨g2, 1, none⟩) = some (.int .i64 n) := (HBK.out _ S6.out.old).2.1
   have f5 : World.cell? _ (⟨g2, 2, none⟩) = some (.string t) := (HBK.out _ S6.out.old).2.2
   have f6 : World.cell? _ (⟨g3, 0, none⟩) = some (.slice A l.length C) := (And.intro (HBR.out _ S6.out.old) trivial).1
   have HC := addItem_any y ⟨kd, n, t⟩ A C l HFY.out HZ.out.text HZ.out.len HZ.out.small _ ((HY.out _ S6.out.old).more S6.out.old.size) ((HR.out _ S6.out.old).more S6.out.old.size)
   rw [addI_two, HOK.out, Bool.true_and, HQ.out] at HC
   try dsimp only [LS.v, LS.cells, L4.K.v, L4.R.v] at HC
   go_wp2_with fail
   go_at_call 18
   refine HC.mono ?_
   clear HC
   rintro e w6 ⟨z, rfl, hcon, ho, hb⟩
   clear f0 f1 f2 f3 f4 f5 f6
   have S7 := Lib.hid (show Sl.Sep w3 _ [_, L4.boxR g4 26 #[.string xn, .slice xa xs.length xc, .int .i64 xu], Bag.bag z.rows] from Bag.push_bag S6.out hb ho)
   clear S6
   clear ho hb
   try dsimp only [LS.v, LS.cells, L4.K.v]
   clear hcon
   go_upto_region 6 with fail
   have S8 := Lib.hid (show Sl.Sep w3 _ [_, _, _, _] from L4.push_box (S7.out) 26 #[.string z.name, .slice z.a z.xs.length z.c, .int .i64 z.auto] (w6.heap.size) (by simp))
   clear S7
   obtain ⟨g5, hg⟩ : ∃ g', g' = w6.heap.size := ⟨_, rfl⟩
   rw [← hg] at S8 ⊢
   clear hg
   obtain ⟨w7, hw⟩ : ∃ uu, uu = (w6.alloc (.cells #[.string z.name, .slice z.a z.xs.length z.c, .int .i64 z.auto] 26)) := ⟨_, rfl⟩
   rw [← hw] at S8 ⊢
   clear hw
   have f0 : World.cell? _ (⟨g1, 0, none⟩) = some (.string y.name) := (HBS.out _ S8.out.old).1
   have f1 : World.cell? _ (⟨g1, 1, none⟩) = some (.slice y.a y.xs.length y.c) := (HBS.out _ S8.out.old).2.1
   have f2 : World.cell? _ (⟨g1, 2, none⟩) = some (.int .i64 y.auto) := (HBS.out _ S8.out.old).2.2
   have f3 : World.cell? _ (⟨g2, 0, none⟩) = some (.int .i64 kd) := (HBK.out _ S8.out.old).1
   have f4 : World.cell? _ (⟨g2, 1, none⟩) = some (.int .i64 n) := (HBK.out _ S8.out.old).2.1
   have f5 : World.cell? _ (⟨g2, 2, none⟩) = some (.string t) := (HBK.out _ S8.out.old).2.2
   have f6 : World.cell? _ (⟨g3, 0, none⟩) = some (.slice A l.length C) := (And.intro (HBR.out _ S8.out.old) trivial).1
   have HC := specPutItem_any y ⟨kd, n, t⟩ A C l HFY.out HZ.out.text HZ.out.len HZ.out.small _ ((HY.out _ S8.out.old).more S8.out.old.size) ((HR.out _ S8.out.old).more S8.out.old.size)
   rw [HOK.out] at HC
   try dsimp only [LS.v, LS.cells, L4.K.v, L4.R.v] at HC
   go_wp2_with fail
   go_at_call 19
   refine HC.mono ?_
   clear HC
   rintro e w8 ⟨u, rfl, hcon, ho, hb⟩
   clear f0 f1 f2 f3 f4 f5 f6
   have S9 := Lib.hid (show Sl.Sep w3 _ [_, _, _, L4.boxR g5 26 #[.string z.name, .slice z.a z.xs.length z.c, .int .i64 z.auto], Bag.bag u.rows] from Bag.push_bag S8.out hb ho)
   clear S8
   clear ho hb
   try dsimp only [LS.v, LS.cells, L4.K.v]
   clear hcon
   go_upto_region 7 with fail
   have S10 := Lib.hid (show Sl.Sep w3 _ [_, _, _, _, _, _] from L4.push_box (S9.out) 26 #[.string u.name, .slice u.a u.xs.length u.c, .int .i64 u.auto] (w8.heap.size) (by simp))
   clear S9
   obtain ⟨g6, hg⟩ : ∃ g', g' = w8.heap.size := ⟨_, rfl⟩
   rw [← hg] at S10 ⊢
   clear hg
   obtain ⟨w9, hw⟩ : ∃ uu, uu = (w8.alloc (.cells #[.string u.name, .slice u.a u.xs.length u.c, .int .i64 u.auto] 26)) := ⟨_, rfl⟩
   rw [← hw] at S10 ⊢
   clear hw
   obtain ⟨hv, hau, i, xi, hi, hxi, hl⟩ := putI_found HOK.out
   rw [← HX.out] at hv hau hi hxi
   have HV := Lib.hid hv
   have HFX := Lib.hid (show FitS (LS.con ⟨xn, xa, xc, xs, xu⟩) from by rw [HX.out]; exact FitS_put HFY.out HZ.out)
   replace HY := Lib.hid (fun w' (h : Below w9.heap.size w9 w') => (HY.out w' (S10.out.old.trans (h.mono S10.out.old.size))).more S10.out.old.size)
   replace HR := Lib.hid (fun w' (h : Below w9.heap.size w9 w') => (HR.out w' (S10.out.old.trans (h.mono S10.out.old.size))).more S10.out.old.size)
   replace HBS := Lib.hid (fun w' (h : Below w9.heap.size w9 w') => HBS.out w' (S10.out.old.trans (h.mono S10.out.old.size)))
   replace HBK := Lib.hid (fun w' (h : Below w9.heap.size w9 w') => HBK.out w' (S10.out.old.trans (h.mono S10.out.old.size)))
   replace HBR := Lib.hid (fun w' (h : Below w9.heap.size w9 w') => HBR.out w' (S10.out.old.trans (h.mono S10.out.old.size)))
   have HXR := Lib.hid (fun w' (h : Below w9.heap.size w9 w') => (Bag.bag_rd S10.out 0 rfl).below h)
   have HBX := Lib.hid (fun w' (h : Below w9.heap.size w9 w') => (show w'.cell? ⟨g4, 0, none⟩ = some (.string xn) ∧ w'.cell? ⟨g4, 1, none⟩ = some (.slice xa xs.length xc) ∧ w'.cell? ⟨g4, 2, none⟩ = some (.int .i64 xu) from ⟨later h (Bag.cell_at S10.out 1 rfl 0 rfl), later h (Bag.cell_at S10.out 1 rfl 1 rfl), later h (Bag.cell_at S10.out 1 rfl 2 rfl)⟩))
   replace HW := Lib.hid (HW.out.trans (S10.out.old.mono HW.out.size))
   have S11 := Lib.hid (Sl.Sep.start w9)
   clear S10
   have f0 : World.cell? _ (⟨g1, 0, none⟩) = some (.string y.name) := (HBS.out _ S11.out.old).1
   have f1 : World.cell? _ (⟨g1, 1, none⟩) = some (.slice y.a y.xs.length y.c) := (HBS.out _ S11.out.old).2.1
   have f2 : World.cell? _ (⟨g1, 2, none⟩) = some (.int .i64 y.auto) := (HBS.out _ S11.out.old).2.2
   have f3 : World.cell? _ (⟨g2, 0, none⟩) = some (.int .i64 kd) := (HBK.out _ S11.out.old).1
   have f4 : World.cell? _ (⟨g2, 1, none⟩) = some (.int .i64 n) := (HBK.out _ S11.out.old).2.1
   have f5 : World.cell? _ (⟨g2, 2, none⟩) = some (.string t) := (HBK.out _ S11.out.old).2.2
   have f6 : World.cell? _ (⟨g3, 0, none⟩) = some (.slice A l.length C) := (And.intro (HBR.out _ S11.out.old) trivial).1
   have f7 : World.cell? _ (⟨g4, 0, none⟩) = some (.string xn) := (HBX.out _ S11.out.old).1
   have f8 : World.cell? _ (⟨g4, 1, none⟩) = some (.slice xa xs.length xc) := (HBX.out _ S11.out.old).2.1
   have f9 : World.cell? _ (⟨g4, 2, none⟩) = some (.int .i64 xu) := (HBX.out _ S11.out.old).2.2
   have HC := findItem_any y ⟨kd, n, t⟩ HFY.out _ ((HY.out _ S11.out.old).more S11.out.old.size)
   rw [HQ.out] at HC
   try dsimp only [LS.v, LS.cells, L4.K.v, L4.R.v] at HC
   go_wp2_with fail
   go_at_call 20
   refine HC.mono ?_
   clear HC
   rintro e w10 ⟨rfl, hb⟩
   clear f0 f1 f2 f3 f4 f5 f6 f7 f8 f9
   have S12 := Lib.hid (show Sl.Sep w9 _ [] from S11.out.keep hb)
   clear S11
   clear hb
   try dsimp only [LS.v, LS.cells, L4.K.v]
   obtain ⟨⟨⟨ik, im, is⟩, ia, ic, il⟩, hit, rfl⟩ : ∃ it : LI, xs[i]? = some it ∧ it.con = xi := by
    have h := hxi
    unfold LS.con conI at h
    dsimp only at h
    rw [List.getElem?_map, Option.map_eq_some_iff] at h
    exact h
   have hl' : il = l := hl
   subst hl'
   have hltN : i < xs.length := (List.getElem?_eq_some_iff.1 hit).1
   have hlt : (i : Int) < (xs.length : Int) := by omega
   have hge : ¬ (xs.length : Int) ≤ (i : Int) := by omega
   have hgN : ¬ xs.length ≤ i := by omega
   have hi0 : ¬ (i : Int) < 0 := by omega
   have hau' : ¬ xu < y.auto := by have h : y.con.auto ≤ xu := hau; have : y.con.auto = y.auto := rfl; omega
   obtain ⟨ad, x', e', -⟩ := readsI_some (LS.outer (HXR.out _ S12.out.old)) i (List.getElem?_eq_some_iff.1 hit).1
   have e'' : xa = some ad := e'
   subst e''
   clear e' x'
   have HXK := Lib.hid (fun w' (h : Below w9.heap.size w9 w') => readsI_at (LS.outer (HXR.out _ h)) i _ hit)
   try dsimp only at HXK
   have HXI := Lib.hid (fun w' (h : Below w9.heap.size w9 w') => ((LS.inner (HXR.out _ h)).at_ (rowsI_mem hit)).reads)
   have HI := Lib.hid hi
   clear hi hv hau hxi hl hit
   have f0 : World.cell? _ (⟨g1, 0, none⟩) = some (.string y.name) := (HBS.out _ S12.out.old).1
   have f1 : World.cell? _ (⟨g1, 1, none⟩) = some (.slice y.a y.xs.length y.c) := (HBS.out _ S12.out.old).2.1
   have f2 : World.cell? _ (⟨g1, 2, none⟩) = some (.int .i64 y.auto) := (HBS.out _ S12.out.old).2.2
   have f3 : World.cell? _ (⟨g2, 0, none⟩) = some (.int .i64 kd) := (HBK.out _ S12.out.old).1
   have f4 : World.cell? _ (⟨g2, 1, none⟩) = some (.int .i64 n) := (HBK.out _ S12.out.old).2.1
   have f5 : World.cell? _ (⟨g2, 2, none⟩) = some (.string t) := (HBK.out _ S12.out.old).2.2
   have f6 : World.cell? _ (⟨g3, 0, none⟩) = some (.slice A il.length C) := (And.intro (HBR.out _ S12.out.old) trivial).1
   have f7 : World.cell? _ (⟨g4, 0, none⟩) = some (.string xn) := (HBX.out _ S12.out.old).1
   have f8 : World.cell? _ (⟨g4, 1, none⟩) = some (.slice (some ad) xs.length xc) := (HBX.out _ S12.out.old).2.1
   have f9 : World.cell? _ (⟨g4, 2, none⟩) = some (.int .i64 xu) := (HBX.out _ S12.out.old).2.2
   have f10 : World.cell? _ (ad.add (i * 4)) = some (.int .i64 ik) := (HXK.out _ S12.out.old).1
   have f11 : World.cell? _ (⟨(ad.add (i * 4)).block, (ad.add (i * 4)).off + 1, none⟩) = some (.int .i64 im) := (HXK.out _ S12.out.old).2.1
   have f12 : World.cell? _ (⟨(ad.add (i * 4)).block, (ad.add (i * 4)).off + 2, none⟩) = some (.string is) := (HXK.out _ S12.out.old).2.2.1
   have f13 : World.cell? _ (⟨(ad.add (i * 4)).block, (ad.add (i * 4)).off + 3, none⟩) = some (.slice ia il.length ic) := (HXK.out _ S12.out.old).2.2.2
   have HC := findItem_any ⟨xn, some ad, xc, xs, xu⟩ ⟨kd, n, t⟩ HFX.out _ ((HXR.out _ S12.out.old).more S12.out.old.size)
   rw [fndI_at HI.out] at HC
   try dsimp only [LS.v, LS.cells, L4.K.v, L4.R.v] at HC
   go_wp2_with fail
   go_at_call 20
   refine HC.mono ?_
   clear HC
   rintro e w11 ⟨rfl, hb⟩
   clear f0 f1 f2 f3 f4 f5 f6 f7 f8 f9 f10 f11 f12 f13
   have S13 := Lib.hid (show Sl.Sep w9 _ [] from S12.out.keep hb)
   clear S12
   clear hb
   try dsimp only [LS.v, LS.cells, L4.K.v]
   go_upto_region 12 with fail
   refine wp_region_held_drew (S := (fun w' => w'.cell? (⟨g1, 0, none⟩) = some (.string y.name) ∧ w'.cell? (⟨g1, 1, none⟩) = some (.slice y.a y.xs.length y.c) ∧ w'.cell? (⟨g1, 2, none⟩) = some (.int .i64 y.auto) ∧ w'.cell? (⟨g2, 0, none⟩) = some (.int .i64 kd) ∧ w'.cell? (⟨g2, 1, none⟩) = some (.int .i64 n) ∧ w'.cell? (⟨g2, 2, none⟩) = some (.string t) ∧ w'.cell? (⟨g3, 0, none⟩) = some (.slice A il.length C) ∧ w'.cell? (⟨g4, 0, none⟩) = some (.string xn) ∧ w'.cell? (⟨g4, 1, none⟩) = some (.slice (some ad) xs.length xc) ∧ w'.cell? (⟨g4, 2, none⟩) = some (.int .i64 xu) ∧ w'.cell? (ad.add (i * 4)) = some (.int .i64 ik) ∧ w'.cell? (⟨(ad.add (i * 4)).block, (ad.add (i * 4)).off + 1, none⟩) = some (.int .i64 im) ∧ w'.cell? (⟨(ad.add (i * 4)).block, (ad.add (i * 4)).off + 2, none⟩) = some (.string is) ∧ w'.cell? (⟨(ad.add (i * 4)).block, (ad.add (i * 4)).off + 3, none⟩) = some (.slice ia il.length ic))) (by kernel_rfl) ⟨(HBS.out _ S13.out.old).1, (HBS.out _ S13.out.old).2.1, (HBS.out _ S13.out.old).2.2, (HBK.out _ S13.out.old).1, (HBK.out _ S13.out.old).2.1, (HBK.out _ S13.out.old).2.2, (And.intro (HBR.out _ S13.out.old) trivial).1, (HBX.out _ S13.out.old).1, (HBX.out _ S13.out.old).2.1, (HBX.out _ S13.out.old).2.2, (HXK.out _ S13.out.old).1, (HXK.out _ S13.out.old).2.1, (HXK.out _ S13.out.old).2.2.1, (HXK.out _ S13.out.old).2.2.2⟩ (fun hS => ?_)
   have S14 := Lib.hid (Bag.drew1 S13.out)
   clear S13
   generalize World.drew _ = w12 at hS S14 ⊢
   refine tk 0 rfl ?_
   try simp only [zp0, zp1, zp2, zp3, zp4]
   refine tk 1 rfl ?_
   try simp only [zp0, zp1, zp2, zp3, zp4]
   refine tk 2 rfl ?_
   try simp only [zp0, zp1, zp2, zp3, zp4]
   refine tk 3 rfl ?_
   try simp only [zp0, zp1, zp2, zp3, zp4]
   refine tk 4 rfl ?_
   try simp only [zp0, zp1, zp2, zp3, zp4]
   refine tk 5 rfl ?_
   try simp only [zp0, zp1, zp2, zp3, zp4]
   refine tk 6 rfl ?_
   try simp only [zp0, zp1, zp2, zp3, zp4]
   refine tk 7 rfl ?_
   try simp only [zp0, zp1, zp2, zp3, zp4]
   refine tk 8 rfl ?_
   try simp only [zp0, zp1, zp2, zp3, zp4]
   refine tk 9 rfl ?_
   try simp only [zp0, zp1, zp2, zp3, zp4]
   refine tk 10 rfl ?_
   try simp only [zp0, zp1, zp2, zp3, zp4]
   refine tk 11 rfl ?_
   try simp only [zp0, zp1, zp2, zp3, zp4]
   refine tk 12 rfl ?_
   try simp only [zp0, zp1, zp2, zp3, zp4]
   refine tk 13 rfl ?_
   try simp only [zp0, zp1, zp2, zp3, zp4]
   refine tk 14 rfl ?_
   try simp only [zp0, zp1, zp2, zp3, zp4]
   refine tk 15 rfl ?_
   try simp only [zp0, zp1, zp2, zp3, zp4]
   refine tk 16 rfl ?_
   try simp only [zp0, zp1, zp2, zp3, zp4]
   refine Reg.one_op (i := 17) rfl (by kernel_rfl) (fun K hK => ?_)
   go_simp
   have HC := L5.equalRecords_any ia A ic C il il (by have := HT.out.1; omega) (by have := HT.out.1; omega) _ ((HXI.out _ S14.out.old).more S14.out.old.size) ((HR.out _ S14.out.old).more S14.out.old.size)
   rw [eqR_self] at HC
   try dsimp only [LS.v, LS.cells, L4.K.v, L4.R.v] at HC
   go_at_call 22
   refine HC.mono ?_
   clear HC
   rintro e w13 ⟨rfl, hb⟩
   have S15 := Lib.hid (show Sl.Sep w9 _ [] from S14.out.keep hb)
   clear S14
   clear hb
   try dsimp only [LS.v, LS.cells, L4.K.v]
   go_wp2_with fail
   refine hK.out _ _ ⟨(HBS.out _ S15.out.old).1, (HBS.out _ S15.out.old).2.1, (HBS.out _ S15.out.old).2.2, (HBK.out _ S15.out.old).1, (HBK.out _ S15.out.old).2.1, (HBK.out _ S15.out.old).2.2, (And.intro (HBR.out _ S15.out.old) trivial).1, (HBX.out _ S15.out.old).1, (HBX.out _ S15.out.old).2.1, (HBX.out _ S15.out.old).2.2, (HXK.out _ S15.out.old).1, (HXK.out _ S15.out.old).2.1, (HXK.out _ S15.out.old).2.2.1, (HXK.out _ S15.out.old).2.2.2⟩ (fun hS => ?_)
   clear hK K
   try simp only [zp0, zp1, zp2, zp3, zp4]
   refine tk 18 rfl ?_
   try simp only [zp0, zp1, zp2, zp3, zp4]
   refine tk 19 rfl ?_
   try simp only [zp0, zp1, zp2, zp3, zp4]
   refine tk 20 rfl ?_
   try simp only [zp0, zp1, zp2, zp3, zp4]
   refine tk 21 rfl ?_
   try simp only [zp0, zp1, zp2, zp3, zp4]
   refine Reg.one_op (i := 22) rfl (by kernel_rfl) (fun K hK => ?_)
   go_simp
   have HC := isStore_any ⟨xn, some ad, xc, xs, xu⟩ HFX.out _ ((HXR.out _ S15.out.old).more S15.out.old.size)
   rw [HV.out] at HC
   try dsimp only [LS.v, LS.cells, L4.K.v, L4.R.v] at HC
   go_at_call 23
   refine HC.mono ?_
   clear HC
   rintro e w14 ⟨rfl, hb⟩
   have S16 := Lib.hid (show Sl.Sep w9 _ [] from S15.out.keep hb)
   clear S15
   clear hb
   try dsimp only [LS.v, LS.cells, L4.K.v]
   go_wp2_with fail
   refine hK.out _ _ ⟨(HBS.out _ S16.out.old).1, (HBS.out _ S16.out.old).2.1, (HBS.out _ S16.out.old).2.2, (HBK.out _ S16.out.old).1, (HBK.out _ S16.out.old).2.1, (HBK.out _ S16.out.old).2.2, (And.intro (HBR.out _ S16.out.old) trivial).1, (HBX.out _ S16.out.old).1, (HBX.out _ S16.out.old).2.1, (HBX.out _ S16.out.old).2.2, (HXK.out _ S16.out.old).1, (HXK.out _ S16.out.old).2.1, (HXK.out _ S16.out.old).2.2.1, (HXK.out _ S16.out.old).2.2.2⟩ (fun hS => ?_)
   clear hK K
   try simp only [zp0, zp1, zp2, zp3, zp4]
   refine tk 23 rfl ?_
   try simp only [zp0, zp1, zp2, zp3, zp4]
   refine tk 24 rfl ?_
   try simp only [zp0, zp1, zp2, zp3, zp4]
   refine tk 25 rfl ?_
   try simp only [zp0, zp1, zp2, zp3, zp4]
   refine tk 26 rfl ?_
   try simp only [zp0, zp1, zp2, zp3, zp4]
   refine tk 27 rfl ?_
   try simp only [zp0, zp1, zp2, zp3, zp4]
   refine tk 28 rfl ?_
   try simp only [zp0, zp1, zp2, zp3, zp4]
   refine tk 29 rfl ?_
   try simp only [zp0, zp1, zp2, zp3, zp4]
   refine tk 30 rfl ?_
   try simp only [zp0, zp1, zp2, zp3, zp4]
   refine tk 31 rfl ?_
   try simp only [zp0, zp1, zp2, zp3, zp4]
   refine wpAnyH_done (by kernel_rfl) ?_ _
   have f0 : World.cell? _ (⟨g1, 0, none⟩) = some (.string y.name) := (HBS.out _ S16.out.old).1
   have f1 : World.cell? _ (⟨g1, 1, none⟩) = some (.slice y.a y.xs.length y.c) := (HBS.out _ S16.out.old).2.1
   have f2 : World.cell? _ (⟨g1, 2, none⟩) = some (.int .i64 y.auto) := (HBS.out _ S16.out.old).2.2
   have f3 : World.cell? _ (⟨g2, 0, none⟩) = some (.int .i64 kd) := (HBK.out _ S16.out.old).1
   have f4 : World.cell? _ (⟨g2, 1, none⟩) = some (.int .i64 n) := (HBK.out _ S16.out.old).2.1
   have f5 : World.cell? _ (⟨g2, 2, none⟩) = some (.string t) := (HBK.out _ S16.out.old).2.2
   have f6 : World.cell? _ (⟨g3, 0, none⟩) = some (.slice A il.length C) := (And.intro (HBR.out _ S16.out.old) trivial).1
   have f7 : World.cell? _ (⟨g4, 0, none⟩) = some (.string xn) := (HBX.out _ S16.out.old).1
   have f8 : World.cell? _ (⟨g4, 1, none⟩) = some (.slice (some ad) xs.length xc) := (HBX.out _ S16.out.old).2.1
   have f9 : World.cell? _ (⟨g4, 2, none⟩) = some (.int .i64 xu) := (HBX.out _ S16.out.old).2.2
   have f10 : World.cell? _ (ad.add (i * 4)) = some (.int .i64 ik) := (HXK.out _ S16.out.old).1
   have f11 : World.cell? _ (⟨(ad.add (i * 4)).block, (ad.add (i * 4)).off + 1, none⟩) = some (.int .i64 im) := (HXK.out _ S16.out.old).2.1
   have f12 : World.cell? _ (⟨(ad.add (i * 4)).block, (ad.add (i * 4)).off + 2, none⟩) = some (.string is) := (HXK.out _ S16.out.old).2.2.1
   have f13 : World.cell? _ (⟨(ad.add (i * 4)).block, (ad.add (i * 4)).off + 3, none⟩) = some (.slice ia il.length ic) := (HXK.out _ S16.out.old).2.2.2
   clear f0 f1 f2 f3 f4 f5 f6 f7 f8 f9 f10 f11 f12 f13
   obtain ⟨⟨ak, an, at0⟩, hak⟩ : ∃ K, autoR (LS.con ⟨xn, some ad, xc, xs, xu⟩) il = K := ⟨_, rfl⟩
   have HAK := Lib.hid hak
   have h0u : 0 ≤ xu := (isS_iff.1 HV.out).2.2.2.1
   cases hb : autoB (LS.con ⟨xn, some ad, xc, xs, xu⟩) il with
   | false =>
    have HB := Lib.hid hb
    clear hak hb
    have f0 : World.cell? _ (⟨g1, 0, none⟩) = some (.string y.name) := (HBS.out _ S16.out.old).1
    have f1 : World.cell? _ (⟨g1, 1, none⟩) = some (.slice y.a y.xs.length y.c) := (HBS.out _ S16.out.old).2.1
    have f2 : World.cell? _ (⟨g1, 2, none⟩) = some (.int .i64 y.auto) := (HBS.out _ S16.out.old).2.2
    have f3 : World.cell? _ (⟨g2, 0, none⟩) = some (.int .i64 kd) := (HBK.out _ S16.out.old).1
    have f4 : World.cell? _ (⟨g2, 1, none⟩) = some (.int .i64 n) := (HBK.out _ S16.out.old).2.1
    have f5 : World.cell? _ (⟨g2, 2, none⟩) = some (.string t) := (HBK.out _ S16.out.old).2.2
    have f6 : World.cell? _ (⟨g3, 0, none⟩) = some (.slice A il.length C) := (And.intro (HBR.out _ S16.out.old) trivial).1
    have f7 : World.cell? _ (⟨g4, 0, none⟩) = some (.string xn) := (HBX.out _ S16.out.old).1
    have f8 : World.cell? _ (⟨g4, 1, none⟩) = some (.slice (some ad) xs.length xc) := (HBX.out _ S16.out.old).2.1
    have f9 : World.cell? _ (⟨g4, 2, none⟩) = some (.int .i64 xu) := (HBX.out _ S16.out.old).2.2
    have HC := autoItem_any ⟨xn, some ad, xc, xs, xu⟩ A C il HFX.out (by show -9223372036854775808 ≤ xu; omega) HZ.out.len HZ.out.small _ ((HXR.out _ S16.out.old).more S16.out.old.size) ((HR.out _ S16.out.old).more S16.out.old.size)
    rw [HB.out, HAK.out] at HC
    try dsimp only [LS.v, LS.cells, L4.K.v, L4.R.v] at HC
    go_wp2_with fail
    go_at_call 24
    refine HC.mono ?_
    clear HC
    rintro e w15 ⟨z, rfl, hcon, ho, hb⟩
    clear f0 f1 f2 f3 f4 f5 f6 f7 f8 f9
    have S17 := Lib.hid (show Sl.Sep w9 _ [Bag.bag z.rows] from Bag.push_bag S16.out hb ho)
    clear S16
    clear ho hb
    try dsimp only [LS.v, LS.cells, L4.K.v]
    have HZC := Lib.hid hcon
    clear hcon
    go_upto_region 15 with fail
    have S18 := Lib.hid (show Sl.Sep w9 _ [_, _, _] from L4.push_box (L4.push_box (S17.out) 26 #[.string z.name, .slice z.a z.xs.length z.c, .int .i64 z.auto] (w15.heap.size) (by simp)) 28 #[.int .i64 ak, .int .i64 an, .string at0] (w15.heap.size + 1) (by simp))
    clear S17
    obtain ⟨g7, hg⟩ : ∃ g', g' = w15.heap.size := ⟨_, rfl⟩
    rw [← hg] at S18 ⊢
    clear hg
    obtain ⟨g8, hg⟩ : ∃ g', g' = g7 + 1 := ⟨_, rfl⟩
    (try rw [← hg] at S18); (try rw [← hg])
    clear hg
    obtain ⟨w16, hw⟩ : ∃ uu, uu = ((w15.alloc (.cells #[.string z.name, .slice z.a z.xs.length z.c, .int .i64 z.auto] 26)).alloc (.cells #[.int .i64 ak, .int .i64 an, .string at0] 28)) := ⟨_, rfl⟩
    rw [← hw] at S18 ⊢
    clear hw
    have f0 : World.cell? _ ⟨g7, 0, none⟩ = some (.string z.name) := Bag.cell_at S18.out 1 rfl 0 rfl
    have f1 : World.cell? _ ⟨g7, 1, none⟩ = some (.slice z.a z.xs.length z.c) := Bag.cell_at S18.out 1 rfl 1 rfl
    have f2 : World.cell? _ ⟨g7, 2, none⟩ = some (.int .i64 z.auto) := Bag.cell_at S18.out 1 rfl 2 rfl
    have f3 : World.cell? _ ⟨g8, 0, none⟩ = some (.int .i64 ak) := Bag.cell_at S18.out 2 rfl 0 rfl
    have f4 : World.cell? _ ⟨g8, 1, none⟩ = some (.int .i64 an) := Bag.cell_at S18.out 2 rfl 1 rfl
    have f5 : World.cell? _ ⟨g8, 2, none⟩ = some (.string at0) := Bag.cell_at S18.out 2 rfl 2 rfl
    have f6 : World.cell? _ (⟨g1, 0, none⟩) = some (.string y.name) := (HBS.out _ S18.out.old).1
    have f7 : World.cell? _ (⟨g1, 1, none⟩) = some (.slice y.a y.xs.length y.c) := (HBS.out _ S18.out.old).2.1
    have f8 : World.cell? _ (⟨g1, 2, none⟩) = some (.int .i64 y.auto) := (HBS.out _ S18.out.old).2.2
    have f9 : World.cell? _ (⟨g2, 0, none⟩) = some (.int .i64 kd) := (HBK.out _ S18.out.old).1
    have f10 : World.cell? _ (⟨g2, 1, none⟩) = some (.int .i64 n) := (HBK.out _ S18.out.old).2.1
    have f11 : World.cell? _ (⟨g2, 2, none⟩) = some (.string t) := (HBK.out _ S18.out.old).2.2
    have f12 : World.cell? _ (⟨g3, 0, none⟩) = some (.slice A il.length C) := (And.intro (HBR.out _ S18.out.old) trivial).1
    have f13 : World.cell? _ (⟨g4, 0, none⟩) = some (.string xn) := (HBX.out _ S18.out.old).1
    have f14 : World.cell? _ (⟨g4, 1, none⟩) = some (.slice (some ad) xs.length xc) := (HBX.out _ S18.out.old).2.1
    have f15 : World.cell? _ (⟨g4, 2, none⟩) = some (.int .i64 xu) := (HBX.out _ S18.out.old).2.2
    have HC := specAutoItem_any ⟨xn, some ad, xc, xs, xu⟩ A C il HFX.out (by show -9223372036854775808 ≤ xu; omega) HZ.out.len HZ.out.small _ ((HXR.out _ S18.out.old).more S18.out.old.size) ((HR.out _ S18.out.old).more S18.out.old.size)
    rw [HB.out, HAK.out] at HC
    try dsimp only [LS.v, LS.cells, L4.K.v, L4.R.v] at HC
    go_wp2_with fail
    go_at_call 25
    refine HC.mono ?_
    clear HC
    rintro e w17 ⟨u, rfl, hcon, ho, hb⟩
    clear f0 f1 f2 f3 f4 f5 f6 f7 f8 f9 f10 f11 f12 f13 f14 f15
    have S19 := Lib.hid (show Sl.Sep w9 _ [_, L4.boxR g7 26 #[.string z.name, .slice z.a z.xs.length z.c, .int .i64 z.auto], L4.boxR g8 28 #[.int .i64 ak, .int .i64 an, .string at0], Bag.bag u.rows] from Bag.push_bag S18.out hb ho)
    clear S18
    clear ho hb
    try dsimp only [LS.v, LS.cells, L4.K.v]
    clear hcon
    go_upto_region 16 with fail
    have S20 := Lib.hid (show Sl.Sep w9 _ [_, _, _, _, _, _] from L4.push_box (L4.push_box (S19.out) 26 #[.string u.name, .slice u.a u.xs.length u.c, .int .i64 u.auto] (w17.heap.size) (by simp)) 28 #[.int .i64 ak, .int .i64 an, .string at0] (w17.heap.size + 1) (by simp))
    clear S19
    obtain ⟨g9, hg⟩ : ∃ g', g' = w17.heap.size := ⟨_, rfl⟩
    rw [← hg] at S20 ⊢
    clear hg
    obtain ⟨g10, hg⟩ : ∃ g', g' = g9 + 1 := ⟨_, rfl⟩
    (try rw [← hg] at S20); (try rw [← hg])
    clear hg
    obtain ⟨w18, hw⟩ : ∃ uu, uu = ((w17.alloc (.cells #[.string u.name, .slice u.a u.xs.length u.c, .int .i64 u.auto] 26)).alloc (.cells #[.int .i64 ak, .int .i64 an, .string at0] 28)) := ⟨_, rfl⟩
    rw [← hw] at S20 ⊢
    clear hw
    have S21 := Lib.hid (show Sl.Sep w9 _ [_, _, _] from Bag.take S20.out [0, 1, 2] (by rfl) (by decide))
    clear S20
    have f0 : World.cell? _ ⟨g7, 0, none⟩ = some (.string z.name) := Bag.cell_at S21.out 1 rfl 0 rfl
    have f1 : World.cell? _ ⟨g7, 1, none⟩ = some (.slice z.a z.xs.length z.c) := Bag.cell_at S21.out 1 rfl 1 rfl
    have f2 : World.cell? _ ⟨g7, 2, none⟩ = some (.int .i64 z.auto) := Bag.cell_at S21.out 1 rfl 2 rfl
    have f3 : World.cell? _ ⟨g8, 0, none⟩ = some (.int .i64 ak) := Bag.cell_at S21.out 2 rfl 0 rfl
    have f4 : World.cell? _ ⟨g8, 1, none⟩ = some (.int .i64 an) := Bag.cell_at S21.out 2 rfl 1 rfl
    have f5 : World.cell? _ ⟨g8, 2, none⟩ = some (.string at0) := Bag.cell_at S21.out 2 rfl 2 rfl
    have f6 : World.cell? _ (⟨g1, 0, none⟩) = some (.string y.name) := (HBS.out _ S21.out.old).1
    have f7 : World.cell? _ (⟨g1, 1, none⟩) = some (.slice y.a y.xs.length y.c) := (HBS.out _ S21.out.old).2.1
    have f8 : World.cell? _ (⟨g1, 2, none⟩) = some (.int .i64 y.auto) := (HBS.out _ S21.out.old).2.2
    have f9 : World.cell? _ (⟨g2, 0, none⟩) = some (.int .i64 kd) := (HBK.out _ S21.out.old).1
    have f10 : World.cell? _ (⟨g2, 1, none⟩) = some (.int .i64 n) := (HBK.out _ S21.out.old).2.1
    have f11 : World.cell? _ (⟨g2, 2, none⟩) = some (.string t) := (HBK.out _ S21.out.old).2.2
    have f12 : World.cell? _ (⟨g3, 0, none⟩) = some (.slice A il.length C) := (And.intro (HBR.out _ S21.out.old) trivial).1
    have f13 : World.cell? _ (⟨g4, 0, none⟩) = some (.string xn) := (HBX.out _ S21.out.old).1
    have f14 : World.cell? _ (⟨g4, 1, none⟩) = some (.slice (some ad) xs.length xc) := (HBX.out _ S21.out.old).2.1
    have f15 : World.cell? _ (⟨g4, 2, none⟩) = some (.int .i64 xu) := (HBX.out _ S21.out.old).2.2
    go_wp2_with fail
    go_ret
    exact ⟨rfl, HW.out.trans (S21.out.old.mono HW.out.size)⟩
   | true =>
    have HB := Lib.hid hb
    obtain ⟨e1, e2, e3, e4⟩ := auto_new hb
    rw [hak] at e1
    rw [← e1] at e2 e3
    have han : xu < an := by
     have e5 : (⟨ak, an, at0⟩ : K).n = (autoK (LS.con ⟨xn, some ad, xc, xs, xu⟩)).n := by rw [e1]
     have e6 : an = xu + 1 := e5
     omega
    have HE := Lib.hid (And.intro e2 (And.intro e3 e4))
    clear e1 e2 e3 e4
    clear hak hb
    have f0 : World.cell? _ (⟨g1, 0, none⟩) = some (.string y.name) := (HBS.out _ S16.out.old).1
    have f1 : World.cell? _ (⟨g1, 1, none⟩) = some (.slice y.a y.xs.length y.c) := (HBS.out _ S16.out.old).2.1
    have f2 : World.cell? _ (⟨g1, 2, none⟩) = some (.int .i64 y.auto) := (HBS.out _ S16.out.old).2.2
    have f3 : World.cell? _ (⟨g2, 0, none⟩) = some (.int .i64 kd) := (HBK.out _ S16.out.old).1
    have f4 : World.cell? _ (⟨g2, 1, none⟩) = some (.int .i64 n) := (HBK.out _ S16.out.old).2.1
    have f5 : World.cell? _ (⟨g2, 2, none⟩) = some (.string t) := (HBK.out _ S16.out.old).2.2
    have f6 : World.cell? _ (⟨g3, 0, none⟩) = some (.slice A il.length C) := (And.intro (HBR.out _ S16.out.old) trivial).1
    have f7 : World.cell? _ (⟨g4, 0, none⟩) = some (.string xn) := (HBX.out _ S16.out.old).1
    have f8 : World.cell? _ (⟨g4, 1, none⟩) = some (.slice (some ad) xs.length xc) := (HBX.out _ S16.out.old).2.1
    have f9 : World.cell? _ (⟨g4, 2, none⟩) = some (.int .i64 xu) := (HBX.out _ S16.out.old).2.2
    have HC := autoItem_any ⟨xn, some ad, xc, xs, xu⟩ A C il HFX.out (by show -9223372036854775808 ≤ xu; omega) HZ.out.len HZ.out.small _ ((HXR.out _ S16.out.old).more S16.out.old.size) ((HR.out _ S16.out.old).more S16.out.old.size)
    rw [HB.out, HAK.out] at HC
    try dsimp only [LS.v, LS.cells, L4.K.v, L4.R.v] at HC
    go_wp2_with fail
    go_at_call 24
    refine HC.mono ?_
    clear HC
    rintro e w15 ⟨z, rfl, hcon, ho, hb⟩
    clear f0 f1 f2 f3 f4 f5 f6 f7 f8 f9
    have S17 := Lib.hid (show Sl.Sep w9 _ [Bag.bag z.rows] from Bag.push_bag S16.out hb ho)
    clear S16
    clear ho hb
    try dsimp only [LS.v, LS.cells, L4.K.v]
    have HZC := Lib.hid hcon
    clear hcon
    go_upto_region 15 with fail
    have S18 := Lib.hid (show Sl.Sep w9 _ [_, _, _] from L4.push_box (L4.push_box (S17.out) 26 #[.string z.name, .slice z.a z.xs.length z.c, .int .i64 z.auto] (w15.heap.size) (by simp)) 28 #[.int .i64 ak, .int .i64 an, .string at0] (w15.heap.size + 1) (by simp))
    clear S17
    obtain ⟨g7, hg⟩ : ∃ g', g' = w15.heap.size := ⟨_, rfl⟩
    rw [← hg] at S18 ⊢
    clear hg
    obtain ⟨g8, hg⟩ : ∃ g', g' = g7 + 1 := ⟨_, rfl⟩
    (try rw [← hg] at S18); (try rw [← hg])
    clear hg
    obtain ⟨w16, hw⟩ : ∃ uu, uu = ((w15.alloc (.cells #[.string z.name, .slice z.a z.xs.length z.c, .int .i64 z.auto] 26)).alloc (.cells #[.int .i64 ak, .int .i64 an, .string at0] 28)) := ⟨_, rfl⟩
    rw [← hw] at S18 ⊢
    clear hw
    have f0 : World.cell? _ ⟨g7, 0, none⟩ = some (.string z.name) := Bag.cell_at S18.out 1 rfl 0 rfl
    have f1 : World.cell? _ ⟨g7, 1, none⟩ = some (.slice z.a z.xs.length z.c) := Bag.cell_at S18.out 1 rfl 1 rfl
    have f2 : World.cell? _ ⟨g7, 2, none⟩ = some (.int .i64 z.auto) := Bag.cell_at S18.out 1 rfl 2 rfl
    have f3 : World.cell? _ ⟨g8, 0, none⟩ = some (.int .i64 ak) := Bag.cell_at S18.out 2 rfl 0 rfl
    have f4 : World.cell? _ ⟨g8, 1, none⟩ = some (.int .i64 an) := Bag.cell_at S18.out 2 rfl 1 rfl
    have f5 : World.cell? _ ⟨g8, 2, none⟩ = some (.string at0) := Bag.cell_at S18.out 2 rfl 2 rfl
    have f6 : World.cell? _ (⟨g1, 0, none⟩) = some (.string y.name) := (HBS.out _ S18.out.old).1
    have f7 : World.cell? _ (⟨g1, 1, none⟩) = some (.slice y.a y.xs.length y.c) := (HBS.out _ S18.out.old).2.1
    have f8 : World.cell? _ (⟨g1, 2, none⟩) = some (.int .i64 y.auto) := (HBS.out _ S18.out.old).2.2
    have f9 : World.cell? _ (⟨g2, 0, none⟩) = some (.int .i64 kd) := (HBK.out _ S18.out.old).1
    have f10 : World.cell? _ (⟨g2, 1, none⟩) = some (.int .i64 n) := (HBK.out _ S18.out.old).2.1
    have f11 : World.cell? _ (⟨g2, 2, none⟩) = some (.string t) := (HBK.out _ S18.out.old).2.2
    have f12 : World.cell? _ (⟨g3, 0, none⟩) = some (.slice A il.length C) := (And.intro (HBR.out _ S18.out.old) trivial).1
    have f13 : World.cell? _ (⟨g4, 0, none⟩) = some (.string xn) := (HBX.out _ S18.out.old).1
    have f14 : World.cell? _ (⟨g4, 1, none⟩) = some (.slice (some ad) xs.length xc) := (HBX.out _ S18.out.old).2.1
    have f15 : World.cell? _ (⟨g4, 2, none⟩) = some (.int .i64 xu) := (HBX.out _ S18.out.old).2.2
    have HC := specAutoItem_any ⟨xn, some ad, xc, xs, xu⟩ A C il HFX.out (by show -9223372036854775808 ≤ xu; omega) HZ.out.len HZ.out.small _ ((HXR.out _ S18.out.old).more S18.out.old.size) ((HR.out _ S18.out.old).more S18.out.old.size)
    rw [HB.out, HAK.out] at HC
    try dsimp only [LS.v, LS.cells, L4.K.v, L4.R.v] at HC
    go_wp2_with fail
    go_at_call 25
    refine HC.mono ?_
    clear HC
    rintro e w17 ⟨u, rfl, hcon, ho, hb⟩
    clear f0 f1 f2 f3 f4 f5 f6 f7 f8 f9 f10 f11 f12 f13 f14 f15
    have S19 := Lib.hid (show Sl.Sep w9 _ [_, L4.boxR g7 26 #[.string z.name, .slice z.a z.xs.length z.c, .int .i64 z.auto], L4.boxR g8 28 #[.int .i64 ak, .int .i64 an, .string at0], Bag.bag u.rows] from Bag.push_bag S18.out hb ho)
    clear S18
    clear ho hb
    try dsimp only [LS.v, LS.cells, L4.K.v]
    clear hcon
    go_upto_region 16 with fail
    have S20 := Lib.hid (show Sl.Sep w9 _ [_, _, _, _, _, _] from L4.push_box (L4.push_box (S19.out) 26 #[.string u.name, .slice u.a u.xs.length u.c, .int .i64 u.auto] (w17.heap.size) (by simp)) 28 #[.int .i64 ak, .int .i64 an, .string at0] (w17.heap.size + 1) (by simp))
    clear S19
    obtain ⟨g9, hg⟩ : ∃ g', g' = w17.heap.size := ⟨_, rfl⟩
    rw [← hg] at S20 ⊢
    clear hg
    obtain ⟨g10, hg⟩ : ∃ g', g' = g9 + 1 := ⟨_, rfl⟩
    (try rw [← hg] at S20); (try rw [← hg])
    clear hg
    obtain ⟨w18, hw⟩ : ∃ uu, uu = ((w17.alloc (.cells #[.string u.name, .slice u.a u.xs.length u.c, .int .i64 u.auto] 26)).alloc (.cells #[.int .i64 ak, .int .i64 an, .string at0] 28)) := ⟨_, rfl⟩
    rw [← hw] at S20 ⊢
    clear hw
    have S21 := Lib.hid (show Sl.Sep w9 _ [_, _, _] from Bag.take S20.out [0, 1, 2] (by rfl) (by decide))
    clear S20
    have HFZ := Lib.hid (show FitS z.con from by rw [HZC.out]; exact FitS_auto HFX.out HZ.out.len HZ.out.small)
    obtain ⟨q1, hq1⟩ : ∃ q, fndI (LS.con ⟨xn, some ad, xc, xs, xu⟩).items ⟨ak, an, at0⟩ = q := ⟨_, rfl⟩
    obtain ⟨q2, hq2⟩ : ∃ q, fndI z.con.items ⟨ak, an, at0⟩ = q := ⟨_, rfl⟩
    have hq1' : q1 < 0 := by have := HE.out.1; rw [hq1] at this; exact this
    have hq2' : 0 ≤ q2 := by have h := HE.out.2.1; rw [← HZC.out, hq2] at h; omega
    have hzl : (z.xs.length : Int) = (xs.length : Int) + 1 := by have h := HE.out.2.2; rw [← HZC.out] at h; simp only [LS.con, conI_length] at h; omega
    have hxl : (xs.length : Int) ≤ 1048576 := by have h := HFX.out.len; simp only [LS.con, conI_length] at h; omega
    have hw1 : IntKind.i64.wrap ((xs.length : Int) + 1) = (xs.length : Int) + 1 := IntWalk.i64_in _ ⟨by omega, by omega⟩
    have HQ1 := Lib.hid hq1
    have HQ2 := Lib.hid hq2
    clear hq1 hq2
    have f0 : World.cell? _ ⟨g7, 0, none⟩ = some (.string z.name) := Bag.cell_at S21.out 1 rfl 0 rfl
    have f1 : World.cell? _ ⟨g7, 1, none⟩ = some (.slice z.a z.xs.length z.c) := Bag.cell_at S21.out 1 rfl 1 rfl
    have f2 : World.cell? _ ⟨g7, 2, none⟩ = some (.int .i64 z.auto) := Bag.cell_at S21.out 1 rfl 2 rfl
    have f3 : World.cell? _ ⟨g8, 0, none⟩ = some (.int .i64 ak) := Bag.cell_at S21.out 2 rfl 0 rfl
    have f4 : World.cell? _ ⟨g8, 1, none⟩ = some (.int .i64 an) := Bag.cell_at S21.out 2 rfl 1 rfl
    have f5 : World.cell? _ ⟨g8, 2, none⟩ = some (.string at0) := Bag.cell_at S21.out 2 rfl 2 rfl
    have f6 : World.cell? _ (⟨g1, 0, none⟩) = some (.string y.name) := (HBS.out _ S21.out.old).1
    have f7 : World.cell? _ (⟨g1, 1, none⟩) = some (.slice y.a y.xs.length y.c) := (HBS.out _ S21.out.old).2.1
    have f8 : World.cell? _ (⟨g1, 2, none⟩) = some (.int .i64 y.auto) := (HBS.out _ S21.out.old).2.2
    have f9 : World.cell? _ (⟨g2, 0, none⟩) = some (.int .i64 kd) := (HBK.out _ S21.out.old).1
    have f10 : World.cell? _ (⟨g2, 1, none⟩) = some (.int .i64 n) := (HBK.out _ S21.out.old).2.1
    have f11 : World.cell? _ (⟨g2, 2, none⟩) = some (.string t) := (HBK.out _ S21.out.old).2.2
    have f12 : World.cell? _ (⟨g3, 0, none⟩) = some (.slice A il.length C) := (And.intro (HBR.out _ S21.out.old) trivial).1
    have f13 : World.cell? _ (⟨g4, 0, none⟩) = some (.string xn) := (HBX.out _ S21.out.old).1
    have f14 : World.cell? _ (⟨g4, 1, none⟩) = some (.slice (some ad) xs.length xc) := (HBX.out _ S21.out.old).2.1
    have f15 : World.cell? _ (⟨g4, 2, none⟩) = some (.int .i64 xu) := (HBX.out _ S21.out.old).2.2
    have HC := findItem_any ⟨xn, some ad, xc, xs, xu⟩ ⟨ak, an, at0⟩ HFX.out _ ((HXR.out _ S21.out.old).more S21.out.old.size)
    rw [HQ1.out] at HC
    try dsimp only [LS.v, LS.cells, L4.K.v, L4.R.v] at HC
    go_wp2_with fail
    go_at_call 20
    refine HC.mono ?_
    clear HC
    rintro e w19 ⟨rfl, hb⟩
    clear f0 f1 f2 f3 f4 f5 f6 f7 f8 f9 f10 f11 f12 f13 f14 f15
    have S22 := Lib.hid (show Sl.Sep w9 _ [_, _, _] from S21.out.keep hb)
    clear S21
    clear hb
    try dsimp only [LS.v, LS.cells, L4.K.v]
    have f0 : World.cell? _ ⟨g7, 0, none⟩ = some (.string z.name) := Bag.cell_at S22.out 1 rfl 0 rfl
    have f1 : World.cell? _ ⟨g7, 1, none⟩ = some (.slice z.a z.xs.length z.c) := Bag.cell_at S22.out 1 rfl 1 rfl
    have f2 : World.cell? _ ⟨g7, 2, none⟩ = some (.int .i64 z.auto) := Bag.cell_at S22.out 1 rfl 2 rfl
    have f3 : World.cell? _ ⟨g8, 0, none⟩ = some (.int .i64 ak) := Bag.cell_at S22.out 2 rfl 0 rfl
    have f4 : World.cell? _ ⟨g8, 1, none⟩ = some (.int .i64 an) := Bag.cell_at S22.out 2 rfl 1 rfl
    have f5 : World.cell? _ ⟨g8, 2, none⟩ = some (.string at0) := Bag.cell_at S22.out 2 rfl 2 rfl
    have f6 : World.cell? _ (⟨g1, 0, none⟩) = some (.string y.name) := (HBS.out _ S22.out.old).1
    have f7 : World.cell? _ (⟨g1, 1, none⟩) = some (.slice y.a y.xs.length y.c) := (HBS.out _ S22.out.old).2.1
    have f8 : World.cell? _ (⟨g1, 2, none⟩) = some (.int .i64 y.auto) := (HBS.out _ S22.out.old).2.2
    have f9 : World.cell? _ (⟨g2, 0, none⟩) = some (.int .i64 kd) := (HBK.out _ S22.out.old).1
    have f10 : World.cell? _ (⟨g2, 1, none⟩) = some (.int .i64 n) := (HBK.out _ S22.out.old).2.1
    have f11 : World.cell? _ (⟨g2, 2, none⟩) = some (.string t) := (HBK.out _ S22.out.old).2.2
    have f12 : World.cell? _ (⟨g3, 0, none⟩) = some (.slice A il.length C) := (And.intro (HBR.out _ S22.out.old) trivial).1
    have f13 : World.cell? _ (⟨g4, 0, none⟩) = some (.string xn) := (HBX.out _ S22.out.old).1
    have f14 : World.cell? _ (⟨g4, 1, none⟩) = some (.slice (some ad) xs.length xc) := (HBX.out _ S22.out.old).2.1
    have f15 : World.cell? _ (⟨g4, 2, none⟩) = some (.int .i64 xu) := (HBX.out _ S22.out.old).2.2
    have HC := findItem_any z ⟨ak, an, at0⟩ HFZ.out _ (Bag.bag_rd S22.out 0 rfl)
    rw [HQ2.out] at HC
    try dsimp only [LS.v, LS.cells, L4.K.v, L4.R.v] at HC
    go_wp2_with fail
    go_at_call 20
    refine HC.mono ?_
    clear HC
    rintro e w20 ⟨rfl, hb⟩
    clear f0 f1 f2 f3 f4 f5 f6 f7 f8 f9 f10 f11 f12 f13 f14 f15
    have S23 := Lib.hid (show Sl.Sep w9 _ [_, _, _] from S22.out.keep hb)
    clear S22
    clear hb
    try dsimp only [LS.v, LS.cells, L4.K.v]
    have f0 : World.cell? _ ⟨g7, 0, none⟩ = some (.string z.name) := Bag.cell_at S23.out 1 rfl 0 rfl
    have f1 : World.cell? _ ⟨g7, 1, none⟩ = some (.slice z.a z.xs.length z.c) := Bag.cell_at S23.out 1 rfl 1 rfl
    have f2 : World.cell? _ ⟨g7, 2, none⟩ = some (.int .i64 z.auto) := Bag.cell_at S23.out 1 rfl 2 rfl
    have f3 : World.cell? _ ⟨g8, 0, none⟩ = some (.int .i64 ak) := Bag.cell_at S23.out 2 rfl 0 rfl
    have f4 : World.cell? _ ⟨g8, 1, none⟩ = some (.int .i64 an) := Bag.cell_at S23.out 2 rfl 1 rfl
    have f5 : World.cell? _ ⟨g8, 2, none⟩ = some (.string at0) := Bag.cell_at S23.out 2 rfl 2 rfl
    have f6 : World.cell? _ (⟨g1, 0, none⟩) = some (.string y.name) := (HBS.out _ S23.out.old).1
    have f7 : World.cell? _ (⟨g1, 1, none⟩) = some (.slice y.a y.xs.length y.c) := (HBS.out _ S23.out.old).2.1
    have f8 : World.cell? _ (⟨g1, 2, none⟩) = some (.int .i64 y.auto) := (HBS.out _ S23.out.old).2.2
    have f9 : World.cell? _ (⟨g2, 0, none⟩) = some (.int .i64 kd) := (HBK.out _ S23.out.old).1
    have f10 : World.cell? _ (⟨g2, 1, none⟩) = some (.int .i64 n) := (HBK.out _ S23.out.old).2.1
    have f11 : World.cell? _ (⟨g2, 2, none⟩) = some (.string t) := (HBK.out _ S23.out.old).2.2
    have f12 : World.cell? _ (⟨g3, 0, none⟩) = some (.slice A il.length C) := (And.intro (HBR.out _ S23.out.old) trivial).1
    have f13 : World.cell? _ (⟨g4, 0, none⟩) = some (.string xn) := (HBX.out _ S23.out.old).1
    have f14 : World.cell? _ (⟨g4, 1, none⟩) = some (.slice (some ad) xs.length xc) := (HBX.out _ S23.out.old).2.1
    have f15 : World.cell? _ (⟨g4, 2, none⟩) = some (.int .i64 xu) := (HBX.out _ S23.out.old).2.2
    go_wp2_with fail
    go_ret
    exact ⟨rfl, HW.out.trans (S23.out.old.mono HW.out.size)⟩

set_option maxRecDepth 100000 in
theorem lifted (os : Os) (started : os.Started) (H : Type) (enc : TypeId × Value → H) :
  ReturnsInHanded {} Try.checked os 3 .any (Rows.fnStoresSpec.pre6 enc Try.prog Try.f3 Rows.fnStoresRow.domain false) (Rows.fnStoresSpec.post enc Try.prog Try.f3 false true false false) := by
 refine returnsInHanded_of_change_sized (C := Try.checked) own started (by kernel_rfl) Try.func3
  (ChangeSpec.witness6 (enc := enc) (C := Try.checked) false ⟨#[], #[.slice none 0 0], []⟩ 8 (by kernel_rfl) (by kernel_rfl) (by kernel_rfl) (by kernel_rfl)) ?_
 intro W base args ds gs before hval0 hW _ hsz0 _
 have hval : ∀ (j : Nat) t v, Try.f3.params[j]? = some t → args[j]? = some v → Value.okWide Try.prog W .any base t v := hval0
 have hW' := hW
 obtain ⟨p, q, hA0, hV, rfl, _, _⟩ := hW
 have hA : DataW.TrodAll enc Try.prog W 0 (fun _ => true) true Try.f3.params.toList args.toList ds p := hA0
 obtain ⟨rfl, rfl⟩ := trodVars_none hV
 have hlt : ∀ x ∈ p, x.block < W.heap.size := fun x hx => hW'.lt x (by simpa using hx)
 simp only [List.append_nil] at hW'
 have hw := walk H enc W base args ds p hval hA hlt hsz0
 have hA1 := hA
 clear hA0 hval0 hsz0 hval hlt
 rw [Try.params3] at hA
 obtain ⟨v0, vs0, d0, ds0, p0, q0, e0, rfl, rfl, h0, hr0⟩ := trodAll_cons hA
 obtain ⟨e1, rfl, rfl⟩ := trodAll_nil hr0
 refine hw.mono fun e W' ⟨he, hb⟩ => ?_
 subst he
 exact ⟨_, rfl, Frame.law_post (tb := 4) rfl hW' hA1 rfl rfl rfl laidOut (by kernel_rfl) (by kernel_rfl) Try.underlying4 hb⟩

theorem closedFacts : joinedFacts Try.pinned.checked.prog 3 Try.f3 Rows.fnStoresSpec Rows.fnStoresRow = true := by
 have h1 : Try.pinned.checked.prog.mayEnter = true := Closed.mayIn
 have h2 : (Rows.fnStoresRow.lifted == Try.pinned.checked.prog.liftsFinal) = true := by
  rw [show Try.pinned.checked.prog.liftsFinal = false from Closed.liftsNone]; rfl
 have h3 : (Try.pinned.checked.prog.make == some Rows.fnStoresRow.make) = true := by
  rw [show Try.pinned.checked.prog.make = some .cut from Closed.makeIs]; rfl
 unfold joinedFacts
 rw [h1, h2, h3]
 change _ = true
 kernel_rfl
theorem holds : Rows.FnStoresSaid :=
 OpenClaim.holds_of_wide 3 Try.f3 rfl rfl rfl rfl rfl rfl rfl ⟨rfl, rfl, rfl, rfl, rfl⟩ rfl rfl rfl rfl rfl (by kernel_rfl) Try.func3 closedFacts
  (of_decide_eq_true (by kernel_rfl)) (by unfold Func.isWrapper; first | (rw [if_pos (by decide +kernel)]; kernel_rfl) | (rw [if_neg (by decide +kernel)]; exact ⟨rfl, rfl⟩))
  (fun os started H enc _ => lifted os started H enc)

#print axioms holds
end Go.Proofs.Ytojcdmgcbgpdmaa.lawFnStores
