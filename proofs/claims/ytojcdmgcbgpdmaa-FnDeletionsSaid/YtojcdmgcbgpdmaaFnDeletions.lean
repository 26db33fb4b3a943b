import Derived.Test.YtojcdmgcbgpdmaaFnDeletionsP4
import Derived.Test.YtojcdmgcbgpdmaaClosed
import Derived.JoinedOf
import Derived.SizedLaws
import Derived.LaidLaws
import Derived.ShutString
import Derived.Stop.LaidErr
import Derived.Lib.LaidTab
set_option linter.unusedSimpArgs false
namespace Go.Proofs.Ytojcdmgcbgpdmaa.lawFnDeletions
open Go.ChangeShapes Go.WideShapes Go.ChangeAt Go.RowKit
open Go.ChangeMaps (open_string shut_string)
theorem own : ownKnob Try.prog.godebug = none := by kernel_rfl
theorem laidOut : laidOutB Try.prog = true := by kernel_rfl
open Mem Sl Ex Sd L2 Sv Bag
open L4 (K isK cmpK R inR encU)
open L5 (F isR isN cellsF encR eqR Small Tame)
open L6
theorem later {w w' : World} {a : Addr} {v : Value} (h : Below w.heap.size w w') (hc : w.cell? a = some v) : w'.cell? a = some v := by
 rw [h.cell (World.block_lt_of_cell? w a hc)]
 exact hc
theorem eqR_self (l : List L5.F) : L5.eqR l l = true := L5.eqR_iff.2 rfl
set_option maxRecDepth 100000 in
set_option maxHeartbeats 8000000 in
theorem walk (H : Type) (enc : TypeId × Value → H) (W : World) (base : Nat) (args : Array Value) (ds : List (DataW H)) (p : List MemPlace)
  (hval : ∀ (j : Nat) t v, Try.f4.params[j]? = some t → args[j]? = some v → Value.okWide Try.prog W .any base t v)
  (hA : DataW.TrodAll enc Try.prog W 0 (fun _ => true) true Try.f4.params.toList args.toList ds p)
  (hlt : ∀ x ∈ p, x.block < W.heap.size)
  (hsz : (DataW.weightsEach Try.prog (Try.f4.params.toList ++ Rows.fnDeletionsSpec.plain.varTypes Try.prog) (ds ++ [])).all (· ≤ reachBytes) = true) :
  Calls Try.prog 4 args W fun e w' => e = .returned (.bool true) ∧ Below W.heap.size W w' := by
 rw [Try.params4] at hA hval hsz
 obtain ⟨v0, d0, rfl, rfl, h0⟩ := trodAll_one hA
 obtain ⟨a0, l0, c0, rfl, hC0, -, hR0, hW0⟩ := Law.open_list Try.underlying22 Try.underlying5 (by kernel_rfl) (hval 0 22 v0 rfl rfl) h0 hlt
 have hby : Mem.Bytes W W.heap.size a0 l0.length := fun j hj => by
  obtain ⟨ad, he, hb, hc⟩ := hR0.int j hj
  have := Law.wf_u8 (hW0 l0[j] (List.getElem_mem hj))
  exact ⟨ad, _, he, hb, hc, this.1, this.2⟩
 obtain ⟨n0, hn0⟩ : ∃ n, n = l0.length := ⟨_, rfl⟩
 rw [← hn0] at hby hC0 ⊢
 clear hn0 hR0 hW0 hA hval hlt hsz h0
 have S0 := Sl.Sep.start W
 by_cases hbig : n0 > 1048576
 ·
  go_enter Try.func4, Try.ntmps4
  go_wp2_with (go_at_call 15; refine (big_s _ S0).mono ?_; rw [decide_eq_true hbig]; rintro e w1 ⟨rfl, S1⟩)
  go_ret
  exact ⟨rfl, S1.old⟩
 ·
  have hsm : n0 ≤ 4611686018427387904 := by omega
  go_enter Try.func4, Try.ntmps4
  go_wp2_with fail
  go_at_call 15
  refine (big_s _ S0).mono ?_
  rw [decide_eq_false hbig]
  rintro e w1 ⟨rfl, S1⟩
  clear S0 l0
  go_wp2_with fail
  go_at_call 26
  refine (drawDeleteItems_q _ hsm hby S1).mono ?_
  rintro e w2 ⟨y, ⟨rl, rh, ⟨lk, ln, lt⟩, ⟨gk, gn, gt⟩⟩, rfl, hF, hr, hS⟩
  have HFY := Lib.hid hF
  have HRG := Lib.hid (show lt.size ≤ 281474976710656 ∧ gt.size ≤ 281474976710656 from ⟨by have : lt.size = 0 := hr.1; omega, by have : gt.size = 0 := hr.2; omega⟩)
  clear hF hr S1
  have S2 := Lib.hid (show Sl.Sep W _ [Bag.bag y.rows] from hS)
  clear hS
  dsimp only [LS.v, LS.cells, L4.R.v, L4.K.v]
  go_upto_region 4 with fail
  have S3 := Lib.hid (show Sl.Sep W _ [_, _, _] from L4.push_box (L4.push_box (S2.out) 26 #[.string y.name, .slice y.a y.xs.length y.c, .int .i64 y.auto] (w2.heap.size) (by simp)) 45 #[.bool rl, .bool rh, .int .i64 lk, .int .i64 ln, .string lt, .int .i64 gk, .int .i64 gn, .string gt] (w2.heap.size + 1) (by simp))
  clear S2
  obtain ⟨g1, hg⟩ : ∃ g', g' = w2.heap.size := ⟨_, rfl⟩
  rw [← hg] at S3 ⊢
  clear hg
  obtain ⟨g2, hg⟩ : ∃ g', g' = g1 + 1 := ⟨_, rfl⟩
  (try rw [← hg] at S3); (try rw [← hg])
  clear hg
  obtain ⟨w3, hw⟩ : ∃ uu, uu = ((w2.alloc (.cells #[.string y.name, .slice y.a y.xs.length y.c, .int .i64 y.auto] 26)).alloc (.cells #[.bool rl, .bool rh, .int .i64 lk, .int .i64 ln, .string lt, .int .i64 gk, .int .i64 gn, .string gt] 45)) := ⟨_, rfl⟩
  rw [← hw] at S3 ⊢
  clear hw
  have HY := Lib.hid (fun w' (h : Below w3.heap.size w3 w') => (Bag.bag_rd S3.out 0 rfl).below h)
  have HBS := Lib.hid (fun w' (h : Below w3.heap.size w3 w') => (show w'.cell? ⟨g1, 0, none⟩ = some (.string y.name) ∧ w'.cell? ⟨g1, 1, none⟩ = some (.slice y.a y.xs.length y.c) ∧ w'.cell? ⟨g1, 2, none⟩ = some (.int .i64 y.auto) from ⟨later h (Bag.cell_at S3.out 1 rfl 0 rfl), later h (Bag.cell_at S3.out 1 rfl 1 rfl), later h (Bag.cell_at S3.out 1 rfl 2 rfl)⟩))
  have HBG := Lib.hid (fun w' (h : Below w3.heap.size w3 w') => (show w'.cell? ⟨g2, 0, none⟩ = some (.bool rl) ∧ w'.cell? ⟨g2, 1, none⟩ = some (.bool rh) ∧ w'.cell? ⟨g2, 2, none⟩ = some (.int .i64 lk) ∧ w'.cell? ⟨g2, 3, none⟩ = some (.int .i64 ln) ∧ w'.cell? ⟨g2, 4, none⟩ = some (.string lt) ∧ w'.cell? ⟨g2, 5, none⟩ = some (.int .i64 gk) ∧ w'.cell? ⟨g2, 6, none⟩ = some (.int .i64 gn) ∧ w'.cell? ⟨g2, 7, none⟩ = some (.string gt) from ⟨later h (Bag.cell_at S3.out 2 rfl 0 rfl), later h (Bag.cell_at S3.out 2 rfl 1 rfl), later h (Bag.cell_at S3.out 2 rfl 2 rfl), later h (Bag.cell_at S3.out 2 rfl 3 rfl), later h (Bag.cell_at S3.out 2 rfl 4 rfl), later h (Bag.cell_at S3.out 2 rfl 5 rfl), later h (Bag.cell_at S3.out 2 rfl 6 rfl), later h (Bag.cell_at S3.out 2 rfl 7 rfl)⟩))
  have HW := Lib.hid S3.out.old
  have S4 := Lib.hid (Sl.Sep.start w3)
  clear S3
  obtain ⟨r, hr⟩ : ∃ r : R, r = ⟨rl, rh, ⟨lk, ln, lt⟩, ⟨gk, gn, gt⟩⟩ := ⟨_, rfl⟩
  have HRT := Lib.hid hr
  clear hr
  cases hv : isS y.con with
  | false =>
   have HV := Lib.hid hv
   clear hv
   have f0 : World.cell? _ (⟨g1, 0, none⟩) = some (.string y.name) := (HBS.out _ S4.out.old).1
   have f1 : World.cell? _ (⟨g1, 1, none⟩) = some (.slice y.a y.xs.length y.c) := (HBS.out _ S4.out.old).2.1
   have f2 : World.cell? _ (⟨g1, 2, none⟩) = some (.int .i64 y.auto) := (HBS.out _ S4.out.old).2.2
   have f3 : World.cell? _ (⟨g2, 0, none⟩) = some (.bool rl) := (HBG.out _ S4.out.old).1
   have f4 : World.cell? _ (⟨g2, 1, none⟩) = some (.bool rh) := (HBG.out _ S4.out.old).2.1
   have f5 : World.cell? _ (⟨g2, 2, none⟩) = some (.int .i64 lk) := (HBG.out _ S4.out.old).2.2.1
   have f6 : World.cell? _ (⟨g2, 3, none⟩) = some (.int .i64 ln) := (HBG.out _ S4.out.old).2.2.2.1
   have f7 : World.cell? _ (⟨g2, 4, none⟩) = some (.string lt) := (HBG.out _ S4.out.old).2.2.2.2.1
   have f8 : World.cell? _ (⟨g2, 5, none⟩) = some (.int .i64 gk) := (HBG.out _ S4.out.old).2.2.2.2.2.1
   have f9 : World.cell? _ (⟨g2, 6, none⟩) = some (.int .i64 gn) := (HBG.out _ S4.out.old).2.2.2.2.2.2.1
   have f10 : World.cell? _ (⟨g2, 7, none⟩) = some (.string gt) := (HBG.out _ S4.out.old).2.2.2.2.2.2.2
   have HC := deleteItems_any y ⟨rl, rh, ⟨lk, ln, lt⟩, ⟨gk, gn, gt⟩⟩ HFY.out HRG.out.1 HRG.out.2 _ ((HY.out _ S4.out.old).more S4.out.old.size)
   rw [(del_off HV.out).1, (del_off HV.out).2] at HC
   try dsimp only [LS.v, LS.cells, L4.K.v, L4.R.v] at HC
   go_wp2_with fail
   go_at_call 27
   refine HC.mono ?_
   clear HC
   rintro e w4 ⟨x, rfl, hcon, ho, hb⟩
   clear f0 f1 f2 f3 f4 f5 f6 f7 f8 f9 f10
   have S5 := Lib.hid (show Sl.Sep w3 _ [Bag.bag x.rows] from Bag.push_bag S4.out hb ho)
   clear S4
   clear ho hb
   try dsimp only [LS.v, LS.cells, L4.K.v]
   have HX := Lib.hid hcon
   clear hcon
   go_upto_region 5 with fail
   have S6 := Lib.hid (show Sl.Sep w3 _ [_, _] from L4.push_box (S5.out) 26 #[.string x.name, .slice x.a x.xs.length x.c, .int .i64 x.auto] (w4.heap.size) (by simp))
   clear S5
   obtain ⟨g3, hg⟩ : ∃ g', g' = w4.heap.size := ⟨_, rfl⟩
   rw [← hg] at S6 ⊢
   clear hg
   obtain ⟨w5, hw⟩ : ∃ uu, uu = (w4.alloc (.cells #[.string x.name, .slice x.a x.xs.length x.c, .int .i64 x.auto] 26)) := ⟨_, rfl⟩
   rw [← hw] at S6 ⊢
   clear hw
   have f0 : World.cell? _ ⟨g3, 0, none⟩ = some (.string x.name) := Bag.cell_at S6.out 1 rfl 0 rfl
   have f1 : World.cell? _ ⟨g3, 1, none⟩ = some (.slice x.a x.xs.length x.c) := Bag.cell_at S6.out 1 rfl 1 rfl
   have f2 : World.cell? _ ⟨g3, 2, none⟩ = some (.int .i64 x.auto) := Bag.cell_at S6.out 1 rfl 2 rfl
   have f3 : World.cell? _ (⟨g1, 0, none⟩) = some (.string y.name) := (HBS.out _ S6.out.old).1
   have f4 : World.cell? _ (⟨g1, 1, none⟩) = some (.slice y.a y.xs.length y.c) := (HBS.out _ S6.out.old).2.1
   have f5 : World.cell? _ (⟨g1, 2, none⟩) = some (.int .i64 y.auto) := (HBS.out _ S6.out.old).2.2
   have f6 : World.cell? _ (⟨g2, 0, none⟩) = some (.bool rl) := (HBG.out _ S6.out.old).1
   have f7 : World.cell? _ (⟨g2, 1, none⟩) = some (.bool rh) := (HBG.out _ S6.out.old).2.1
   have f8 : World.cell? _ (⟨g2, 2, none⟩) = some (.int .i64 lk) := (HBG.out _ S6.out.old).2.2.1
   have f9 : World.cell? _ (⟨g2, 3, none⟩) = some (.int .i64 ln) := (HBG.out _ S6.out.old).2.2.2.1
   have f10 : World.cell? _ (⟨g2, 4, none⟩) = some (.string lt) := (HBG.out _ S6.out.old).2.2.2.2.1
   have f11 : World.cell? _ (⟨g2, 5, none⟩) = some (.int .i64 gk) := (HBG.out _ S6.out.old).2.2.2.2.2.1
   have f12 : World.cell? _ (⟨g2, 6, none⟩) = some (.int .i64 gn) := (HBG.out _ S6.out.old).2.2.2.2.2.2.1
   have f13 : World.cell? _ (⟨g2, 7, none⟩) = some (.string gt) := (HBG.out _ S6.out.old).2.2.2.2.2.2.2
   have HC := itemsIn_any y ⟨rl, rh, ⟨lk, ln, lt⟩, ⟨gk, gn, gt⟩⟩ HFY.out HRG.out.1 HRG.out.2 _ ((HY.out _ S6.out.old).more S6.out.old.size)
   try dsimp only [LS.v, LS.cells, L4.K.v, L4.R.v] at HC
   go_wp2_with fail
   go_at_call 28
   refine HC.mono ?_
   clear HC
   rintro e w6 ⟨la, lc, ys, rfl, hys, ho, hb⟩
   clear f0 f1 f2 f3 f4 f5 f6 f7 f8 f9 f10 f11 f12 f13
   have S7 := Lib.hid (show Sl.Sep w3 _ [_, L4.boxR g3 26 #[.string x.name, .slice x.a x.xs.length x.c, .int .i64 x.auto], Bag.bag (rowI la lc ys :: rowsI ys)] from Bag.push_bag S6.out hb ho)
   clear S6
   clear ho hb
   try dsimp only [LS.v, LS.cells, L4.K.v]
   clear hys
   have f0 : World.cell? _ ⟨g3, 0, none⟩ = some (.string x.name) := Bag.cell_at S7.out 1 rfl 0 rfl
   have f1 : World.cell? _ ⟨g3, 1, none⟩ = some (.slice x.a x.xs.length x.c) := Bag.cell_at S7.out 1 rfl 1 rfl
   have f2 : World.cell? _ ⟨g3, 2, none⟩ = some (.int .i64 x.auto) := Bag.cell_at S7.out 1 rfl 2 rfl
   have f3 : World.cell? _ (⟨g1, 0, none⟩) = some (.string y.name) := (HBS.out _ S7.out.old).1
   have f4 : World.cell? _ (⟨g1, 1, none⟩) = some (.slice y.a y.xs.length y.c) := (HBS.out _ S7.out.old).2.1
   have f5 : World.cell? _ (⟨g1, 2, none⟩) = some (.int .i64 y.auto) := (HBS.out _ S7.out.old).2.2
   have f6 : World.cell? _ (⟨g2, 0, none⟩) = some (.bool rl) := (HBG.out _ S7.out.old).1
   have f7 : World.cell? _ (⟨g2, 1, none⟩) = some (.bool rh) := (HBG.out _ S7.out.old).2.1
   have f8 : World.cell? _ (⟨g2, 2, none⟩) = some (.int .i64 lk) := (HBG.out _ S7.out.old).2.2.1
   have f9 : World.cell? _ (⟨g2, 3, none⟩) = some (.int .i64 ln) := (HBG.out _ S7.out.old).2.2.2.1
   have f10 : World.cell? _ (⟨g2, 4, none⟩) = some (.string lt) := (HBG.out _ S7.out.old).2.2.2.2.1
   have f11 : World.cell? _ (⟨g2, 5, none⟩) = some (.int .i64 gk) := (HBG.out _ S7.out.old).2.2.2.2.2.1
   have f12 : World.cell? _ (⟨g2, 6, none⟩) = some (.int .i64 gn) := (HBG.out _ S7.out.old).2.2.2.2.2.2.1
   have f13 : World.cell? _ (⟨g2, 7, none⟩) = some (.string gt) := (HBG.out _ S7.out.old).2.2.2.2.2.2.2
   have HC := specIsStore_any y HFY.out _ ((HY.out _ S7.out.old).more S7.out.old.size)
   rw [HV.out] at HC
   try dsimp only [LS.v, LS.cells, L4.K.v, L4.R.v] at HC
   go_wp2_with fail
   go_at_call 29
   refine HC.mono ?_
   clear HC
   rintro e w7 ⟨rfl, hb⟩
   clear f0 f1 f2 f3 f4 f5 f6 f7 f8 f9 f10 f11 f12 f13
   have S8 := Lib.hid (show Sl.Sep w3 _ [_, _, _] from S7.out.keep hb)
   clear S7
   clear hb
   try dsimp only [LS.v, LS.cells, L4.K.v]
   have HFX := Lib.hid (show FitS x.con from by rw [HX.out]; exact HFY.out)
   have f0 : World.cell? _ ⟨g3, 0, none⟩ = some (.string x.name) := Bag.cell_at S8.out 1 rfl 0 rfl
   have f1 : World.cell? _ ⟨g3, 1, none⟩ = some (.slice x.a x.xs.length x.c) := Bag.cell_at S8.out 1 rfl 1 rfl
   have f2 : World.cell? _ ⟨g3, 2, none⟩ = some (.int .i64 x.auto) := Bag.cell_at S8.out 1 rfl 2 rfl
   have f3 : World.cell? _ (⟨g1, 0, none⟩) = some (.string y.name) := (HBS.out _ S8.out.old).1
   have f4 : World.cell? _ (⟨g1, 1, none⟩) = some (.slice y.a y.xs.length y.c) := (HBS.out _ S8.out.old).2.1
   have f5 : World.cell? _ (⟨g1, 2, none⟩) = some (.int .i64 y.auto) := (HBS.out _ S8.out.old).2.2
   have f6 : World.cell? _ (⟨g2, 0, none⟩) = some (.bool rl) := (HBG.out _ S8.out.old).1
   have f7 : World.cell? _ (⟨g2, 1, none⟩) = some (.bool rh) := (HBG.out _ S8.out.old).2.1
   have f8 : World.cell? _ (⟨g2, 2, none⟩) = some (.int .i64 lk) := (HBG.out _ S8.out.old).2.2.1
   have f9 : World.cell? _ (⟨g2, 3, none⟩) = some (.int .i64 ln) := (HBG.out _ S8.out.old).2.2.2.1
   have f10 : World.cell? _ (⟨g2, 4, none⟩) = some (.string lt) := (HBG.out _ S8.out.old).2.2.2.2.1
   have f11 : World.cell? _ (⟨g2, 5, none⟩) = some (.int .i64 gk) := (HBG.out _ S8.out.old).2.2.2.2.2.1
   have f12 : World.cell? _ (⟨g2, 6, none⟩) = some (.int .i64 gn) := (HBG.out _ S8.out.old).2.2.2.2.2.2.1
   have f13 : World.cell? _ (⟨g2, 7, none⟩) = some (.string gt) := (HBG.out _ S8.out.old).2.2.2.2.2.2.2
   have HC := equalStores_any x y HFX.out HFY.out _ (Bag.bag_rd S8.out 0 rfl) ((HY.out _ S8.out.old).more S8.out.old.size)
   rw [HX.out, eqS_self] at HC
   try dsimp only [LS.v, LS.cells, L4.K.v, L4.R.v] at HC
   go_wp2_with fail
   go_at_call 21
   refine HC.mono ?_
   clear HC
   rintro e w8 ⟨rfl, hb⟩
   clear f0 f1 f2 f3 f4 f5 f6 f7 f8 f9 f10 f11 f12 f13
   have S9 := Lib.hid (show Sl.Sep w3 _ [_, _, _] from S8.out.keep hb)
   clear S8
   clear hb
   try dsimp only [LS.v, LS.cells, L4.K.v]
   go_wp2_with fail
   go_ret
   exact ⟨rfl, HW.out.trans (S9.out.old.mono HW.out.size)⟩
  | true =>
   have HV := Lib.hid hv
   clear hv
   obtain ⟨M, hM⟩ : ∃ M, (inI y.con.items ⟨rl, rh, ⟨lk, ln, lt⟩, ⟨gk, gn, gt⟩⟩).length = M := ⟨_, rfl⟩
   have HM := Lib.hid hM
   clear hM
   have HIT := Lib.hid ((del_on (r := ⟨rl, rh, ⟨lk, ln, lt⟩, ⟨gk, gn, gt⟩⟩) HV.out).2)
   have f0 : World.cell? _ (⟨g1, 0, none⟩) = some (.string y.name) := (HBS.out _ S4.out.old).1
   have f1 : World.cell? _ (⟨g1, 1, none⟩) = some (.slice y.a y.xs.length y.c) := (HBS.out _ S4.out.old).2.1
   have f2 : World.cell? _ (⟨g1, 2, none⟩) = some (.int .i64 y.auto) := (HBS.out _ S4.out.old).2.2
   have f3 : World.cell? _ (⟨g2, 0, none⟩) = some (.bool rl) := (HBG.out _ S4.out.old).1
   have f4 : World.cell? _ (⟨g2, 1, none⟩) = some (.bool rh) := (HBG.out _ S4.out.old).2.1
   have f5 : World.cell? _ (⟨g2, 2, none⟩) = some (.int .i64 lk) := (HBG.out _ S4.out.old).2.2.1
   have f6 : World.cell? _ (⟨g2, 3, none⟩) = some (.int .i64 ln) := (HBG.out _ S4.out.old).2.2.2.1
   have f7 : World.cell? _ (⟨g2, 4, none⟩) = some (.string lt) := (HBG.out _ S4.out.old).2.2.2.2.1
   have f8 : World.cell? _ (⟨g2, 5, none⟩) = some (.int .i64 gk) := (HBG.out _ S4.out.old).2.2.2.2.2.1
   have f9 : World.cell? _ (⟨g2, 6, none⟩) = some (.int .i64 gn) := (HBG.out _ S4.out.old).2.2.2.2.2.2.1
   have f10 : World.cell? _ (⟨g2, 7, none⟩) = some (.string gt) := (HBG.out _ S4.out.old).2.2.2.2.2.2.2
   have HC := deleteItems_any y ⟨rl, rh, ⟨lk, ln, lt⟩, ⟨gk, gn, gt⟩⟩ HFY.out HRG.out.1 HRG.out.2 _ ((HY.out _ S4.out.old).more S4.out.old.size)
   rw [(del_on HV.out).1, HM.out] at HC
   try dsimp only [LS.v, LS.cells, L4.K.v, L4.R.v] at HC
   go_wp2_with fail
   go_at_call 27
   refine HC.mono ?_
   clear HC
   rintro e w4 ⟨x, rfl, hcon, ho, hb⟩
   clear f0 f1 f2 f3 f4 f5 f6 f7 f8 f9 f10
   have S5 := Lib.hid (show Sl.Sep w3 _ [Bag.bag x.rows] from Bag.push_bag S4.out hb ho)
   clear S4
   clear ho hb
   try dsimp only [LS.v, LS.cells, L4.K.v]
   have HX := Lib.hid hcon
   clear hcon
   go_upto_region 5 with fail
   have S6 := Lib.hid (show Sl.Sep w3 _ [_, _] from L4.push_box (S5.out) 26 #[.string x.name, .slice x.a x.xs.length x.c, .int .i64 x.auto] (w4.heap.size) (by simp))
   clear S5
   obtain ⟨g3, hg⟩ : ∃ g', g' = w4.heap.size := ⟨_, rfl⟩
   rw [← hg] at S6 ⊢
   clear hg
   obtain ⟨w5, hw⟩ : ∃ uu, uu = (w4.alloc (.cells #[.string x.name, .slice x.a x.xs.length x.c, .int .i64 x.auto] 26)) := ⟨_, rfl⟩
   rw [← hw] at S6 ⊢
   clear hw
   have f0 : World.cell? _ ⟨g3, 0, none⟩ = some (.string x.name) := Bag.cell_at S6.out 1 rfl 0 rfl
   have f1 : World.cell? _ ⟨g3, 1, none⟩ = some (.slice x.a x.xs.length x.c) := Bag.cell_at S6.out 1 rfl 1 rfl
   have f2 : World.cell? _ ⟨g3, 2, none⟩ = some (.int .i64 x.auto) := Bag.cell_at S6.out 1 rfl 2 rfl
   have f3 : World.cell? _ (⟨g1, 0, none⟩) = some (.string y.name) := (HBS.out _ S6.out.old).1
   have f4 : World.cell? _ (⟨g1, 1, none⟩) = some (.slice y.a y.xs.length y.c) := (HBS.out _ S6.out.old).2.1
   have f5 : World.cell? _ (⟨g1, 2, none⟩) = some (.int .i64 y.auto) := (HBS.out _ S6.out.old).2.2
   have f6 : World.cell? _ (⟨g2, 0, none⟩) = some (.bool rl) := (HBG.out _ S6.out.old).1
   have f7 : World.cell? _ (⟨g2, 1, none⟩) = some (.bool rh) := (HBG.out _ S6.out.old).2.1
   have f8 : World.cell? _ (⟨g2, 2, none⟩) = some (.int .i64 lk) := (HBG.out _ S6.out.old).2.2.1
   have f9 : World.cell? _ (⟨g2, 3, none⟩) = some (.int .i64 ln) := (HBG.out _ S6.out.old).2.2.2.1
   have f10 : World.cell? _ (⟨g2, 4, none⟩) = some (.string lt) := (HBG.out _ S6.out.old).2.2.2.2.1
   have f11 : World.cell? _ (⟨g2, 5, none⟩) = some (.int .i64 gk) := (HBG.out _ S6.out.old).2.2.2.2.2.1
   have f12 : World.cell? _ (⟨g2, 6, none⟩) = some (.int .i64 gn) := (HBG.out _ S6.out.old).2.2.2.2.2.2.1
   have f13 : World.cell? _ (⟨g2, 7, none⟩) = some (.string gt) := (HBG.out _ S6.out.old).2.2.2.2.2.2.2
   have HC := itemsIn_any y ⟨rl, rh, ⟨lk, ln, lt⟩, ⟨gk, gn, gt⟩⟩ HFY.out HRG.out.1 HRG.out.2 _ ((HY.out _ S6.out.old).more S6.out.old.size)
   try dsimp only [LS.v, LS.cells, L4.K.v, L4.R.v] at HC
   go_wp2_with fail
   go_at_call 28
   refine HC.mono ?_
   clear HC
   rintro e w6 ⟨la, lc, ys, rfl, hys, ho, hb⟩
   clear f0 f1 f2 f3 f4 f5 f6 f7 f8 f9 f10 f11 f12 f13
   have S7 := Lib.hid (show Sl.Sep w3 _ [_, L4.boxR g3 26 #[.string x.name, .slice x.a x.xs.length x.c, .int .i64 x.auto], Bag.bag (rowI la lc ys :: rowsI ys)] from Bag.push_bag S6.out hb ho)
   clear S6
   clear ho hb
   try dsimp only [LS.v, LS.cells, L4.K.v]
   have HYS := Lib.hid hys
   have hMl : M = ys.length := by rw [← HM.out, ← HYS.out, conI_length]
   subst hMl
   clear hys
   replace HY := Lib.hid (fun w' (h : Below w6.heap.size w6 w') => (HY.out w' (S7.out.old.trans (h.mono S7.out.old.size))).more S7.out.old.size)
   replace HBS := Lib.hid (fun w' (h : Below w6.heap.size w6 w') => HBS.out w' (S7.out.old.trans (h.mono S7.out.old.size)))
   replace HBG := Lib.hid (fun w' (h : Below w6.heap.size w6 w') => HBG.out w' (S7.out.old.trans (h.mono S7.out.old.size)))
   have HXR := Lib.hid (fun w' (h : Below w6.heap.size w6 w') => (Bag.bag_rd S7.out 0 rfl).below h)
   have HBX := Lib.hid (fun w' (h : Below w6.heap.size w6 w') => (show w'.cell? ⟨g3, 0, none⟩ = some (.string x.name) ∧ w'.cell? ⟨g3, 1, none⟩ = some (.slice x.a x.xs.length x.c) ∧ w'.cell? ⟨g3, 2, none⟩ = some (.int .i64 x.auto) from ⟨later h (Bag.cell_at S7.out 1 rfl 0 rfl), later h (Bag.cell_at S7.out 1 rfl 1 rfl), later h (Bag.cell_at S7.out 1 rfl 2 rfl)⟩))
   have HLR := Lib.hid (fun w' (h : Below w6.heap.size w6 w') => (Bag.bag_rd S7.out 2 rfl).below h)
   replace HW := Lib.hid (HW.out.trans (S7.out.old.mono HW.out.size))
   have S8 := Lib.hid (Sl.Sep.start w6)
   clear S7
   have f0 : World.cell? _ (⟨g1, 0, none⟩) = some (.string y.name) := (HBS.out _ S8.out.old).1
   have f1 : World.cell? _ (⟨g1, 1, none⟩) = some (.slice y.a y.xs.length y.c) := (HBS.out _ S8.out.old).2.1
   have f2 : World.cell? _ (⟨g1, 2, none⟩) = some (.int .i64 y.auto) := (HBS.out _ S8.out.old).2.2
   have f3 : World.cell? _ (⟨g2, 0, none⟩) = some (.bool rl) := (HBG.out _ S8.out.old).1
   have f4 : World.cell? _ (⟨g2, 1, none⟩) = some (.bool rh) := (HBG.out _ S8.out.old).2.1
   have f5 : World.cell? _ (⟨g2, 2, none⟩) = some (.int .i64 lk) := (HBG.out _ S8.out.old).2.2.1
   have f6 : World.cell? _ (⟨g2, 3, none⟩) = some (.int .i64 ln) := (HBG.out _ S8.out.old).2.2.2.1
   have f7 : World.cell? _ (⟨g2, 4, none⟩) = some (.string lt) := (HBG.out _ S8.out.old).2.2.2.2.1
   have f8 : World.cell? _ (⟨g2, 5, none⟩) = some (.int .i64 gk) := (HBG.out _ S8.out.old).2.2.2.2.2.1
   have f9 : World.cell? _ (⟨g2, 6, none⟩) = some (.int .i64 gn) := (HBG.out _ S8.out.old).2.2.2.2.2.2.1
   have f10 : World.cell? _ (⟨g2, 7, none⟩) = some (.string gt) := (HBG.out _ S8.out.old).2.2.2.2.2.2.2
   have f11 : World.cell? _ (⟨g3, 0, none⟩) = some (.string x.name) := (HBX.out _ S8.out.old).1
   have f12 : World.cell? _ (⟨g3, 1, none⟩) = some (.slice x.a x.xs.length x.c) := (HBX.out _ S8.out.old).2.1
   have f13 : World.cell? _ (⟨g3, 2, none⟩) = some (.int .i64 x.auto) := (HBX.out _ S8.out.old).2.2
   have HC := specIsStore_any y HFY.out _ ((HY.out _ S8.out.old).more S8.out.old.size)
   rw [HV.out] at HC
   try dsimp only [LS.v, LS.cells, L4.K.v, L4.R.v] at HC
   go_wp2_with fail
   go_at_call 29
   refine HC.mono ?_
   clear HC
   rintro e w7 ⟨rfl, hb⟩
   clear f0 f1 f2 f3 f4 f5 f6 f7 f8 f9 f10 f11 f12 f13
   have S9 := Lib.hid (show Sl.Sep w6 _ [] from S8.out.keep hb)
   clear S8
   clear hb
   try dsimp only [LS.v, LS.cells, L4.K.v]
   obtain ⟨N, hN⟩ : ∃ N, N = ys.length := ⟨_, rfl⟩
   rw [← hN]
   have HN := Lib.hid hN
   have hNl : N ≤ 1048576 := by have h := inI_len (r := ⟨rl, rh, ⟨lk, ln, lt⟩, ⟨gk, gn, gt⟩⟩) HFY.out.len; rw [← HYS.out, conI_length] at h; omega
   clear hN
   have HFX := Lib.hid (show FitS x.con from by rw [HX.out]; exact FitS_del HFY.out)
   have HXI := Lib.hid (show x.con.items = outI y.con.items ⟨rl, rh, ⟨lk, ln, lt⟩, ⟨gk, gn, gt⟩⟩ from by rw [HX.out]; exact HIT.out)
   go_wp2_with fail
   go_loopw [8, 9] (fun v i wr => ∃ k m : Nat, k ≤ N ∧ i = .int .i64 k ∧ v = .int .i64 m ∧ m ≤ k * 1100 ∧ Hid (m = szI ((conI ys).take k) ∧ Sl.Sep w6 wr [])) (fun _ i _ => N - (intOf i).toNat)
   case atStart => exact ⟨0, 0, Nat.zero_le _, rfl, rfl, by omega, And.intro rfl S9.out⟩
   case round =>
    obtain ⟨k, m, hk, rfl, rfl, hm, hrel⟩ := hrel
    have HMM := Lib.hid hrel.out.1
    have S10 := Lib.hid hrel.out.2
    clear hrel S9
    by_cases hlt : (k : Int) < (N : Int)
    ·
     skip
     have hkl : k < ys.length := by have := HN.out; omega
     obtain ⟨ad, x', e', hx⟩ := readsI_some (LS.outer (s := ⟨⟨#[]⟩, la, lc, ys, 0⟩) (HLR.out _ S10.out.old)) k hkl
     have e'' : la = some ad := e'
     subst e''
     clear e'
     obtain ⟨⟨kd, n, t⟩, ia, ic, l⟩ := x'
     have HLK := Lib.hid (fun w' (h : Below w6.heap.size w6 w') => readsI_at (LS.outer (s := ⟨⟨#[]⟩, some ad, lc, ys, 0⟩) (HLR.out _ h)) k _ hx)
     try dsimp only at HLK
     have HLI := Lib.hid (fun w' (h : Below w6.heap.size w6 w') => ((LS.inner (s := ⟨⟨#[]⟩, some ad, lc, ys, 0⟩) (HLR.out _ h)).at_ (rowsI_mem hx)).reads)
     have HMI := Lib.hid (show (⟨⟨kd, n, t⟩, l⟩ : It) ∈ inI y.con.items ⟨rl, rh, ⟨lk, ln, lt⟩, ⟨gk, gn, gt⟩⟩ from by rw [← HYS.out]; exact List.mem_of_getElem? (con_of hx))
     have HFI := Lib.hid (FitI_in HFY.out.items _ HMI.out)
     have HIR := Lib.hid (in_at HMI.out)
     have HFD := Lib.hid (out_neg (xs := y.con.items) HIR.out)
     rw [← HXI.out] at HFD
     have HC0 := Lib.hid (show (conI ys)[k]? = some (⟨⟨kd, n, t⟩, l⟩ : It) from con_of hx)
     have HEK := fun w => L4.specEncodeKey_any ⟨kd, n, t⟩ HFI.out.text w
     obtain ⟨ek, hek⟩ : ∃ u, L4.toI (encU ⟨kd, n, t⟩) = u := ⟨_, rfl⟩
     rw [hek] at HEK
     replace HEK := Lib.hid HEK
     obtain ⟨er, her⟩ : ∃ u, encR l = u := ⟨_, rfl⟩
     have HER := Lib.hid her
     obtain ⟨p, hp⟩ : ∃ p, p = ek.length := ⟨_, rfl⟩
     obtain ⟨q, hq⟩ : ∃ q, q = er.length := ⟨_, rfl⟩
     have hpl : p ≤ 50 := by rw [hp, ← hek, L4.toI_length]; exact encU_small _
     have hql : q ≤ 1000 := by rw [hq, ← her]; exact encR_small l
     have HS := Lib.hid (show szI ((conI ys).take (k + 1)) = m + (p + q) from by rw [szI_take HC0.out, ← HMM.out, hp, hq, ← hek, ← her, L4.toI_length])
     have HPQ := Lib.hid (And.intro hp hq)
     clear hp hq hek her hx
     go_upto_region 12 with fail
     refine wp_region_held_drew (S := (fun w' => w'.cell? (⟨g1, 0, none⟩) = some (.string y.name) ∧ w'.cell? (⟨g1, 1, none⟩) = some (.slice y.a y.xs.length y.c) ∧ w'.cell? (⟨g1, 2, none⟩) = some (.int .i64 y.auto) ∧ w'.cell? (⟨g2, 0, none⟩) = some (.bool rl) ∧ w'.cell? (⟨g2, 1, none⟩) = some (.bool rh) ∧ w'.cell? (⟨g2, 2, none⟩) = some (.int .i64 lk) ∧ w'.cell? (⟨g2, 3, none⟩) = some (.int .i64 ln) ∧ w'.cell? (⟨g2, 4, none⟩) = some (.string lt) ∧ w'.cell? (⟨g2, 5, none⟩) = some (.int .i64 gk) ∧ w'.cell? (⟨g2, 6, none⟩) = some (.int .i64 gn) ∧ w'.cell? (⟨g2, 7, none⟩) = some (.string gt) ∧ w'.cell? (⟨g3, 0, none⟩) = some (.string x.name) ∧ w'.cell? (⟨g3, 1, none⟩) = some (.slice x.a x.xs.length x.c) ∧ w'.cell? (⟨g3, 2, none⟩) = some (.int .i64 x.auto) ∧ w'.cell? (ad.add (k * 4)) = some (.int .i64 kd) ∧ w'.cell? (⟨(ad.add (k * 4)).block, (ad.add (k * 4)).off + 1, none⟩) = some (.int .i64 n) ∧ w'.cell? (⟨(ad.add (k * 4)).block, (ad.add (k * 4)).off + 2, none⟩) = some (.string t) ∧ w'.cell? (⟨(ad.add (k * 4)).block, (ad.add (k * 4)).off + 3, none⟩) = some (.slice ia l.length ic))) (by kernel_rfl) ⟨(HBS.out _ S10.out.old).1, (HBS.out _ S10.out.old).2.1, (HBS.out _ S10.out.old).2.2, (HBG.out _ S10.out.old).1, (HBG.out _ S10.out.old).2.1, (HBG.out _ S10.out.old).2.2.1, (HBG.out _ S10.out.old).2.2.2.1, (HBG.out _ S10.out.old).2.2.2.2.1, (HBG.out _ S10.out.old).2.2.2.2.2.1, (HBG.out _ S10.out.old).2.2.2.2.2.2.1, (HBG.out _ S10.out.old).2.2.2.2.2.2.2, (HBX.out _ S10.out.old).1, (HBX.out _ S10.out.old).2.1, (HBX.out _ S10.out.old).2.2, (HLK.out _ S10.out.old).1, (HLK.out _ S10.out.old).2.1, (HLK.out _ S10.out.old).2.2.1, (HLK.out _ S10.out.old).2.2.2⟩ (fun hS => ?_)
     have S11 := Lib.hid (Bag.drew1 S10.out)
     clear S10
     generalize World.drew _ = w8 at hS S11 ⊢
     refine tk 0 rfl ?_
     try simp only [zp0, zp1, zp2, zp3, zp4]
     refine tk 1 rfl ?_
     try simp only [zp0, zp1, zp2, zp3, zp4]
     refine tk 2 rfl ?_
     try simp only [zp0, zp1, zp2, zp3, zp4]
     refine tk 3 rfl ?_
     try simp only [zp0, zp1, zp2, zp3, zp4]
     refine tk 4 rfl ?_
     try simp only [zp0, zp1, zp2, zp3, zp4]
     refine tk 5 rfl ?_
     try simp only [zp0, zp1, zp2, zp3, zp4]
     refine Reg.one_op (i := 6) rfl (by kernel_rfl) (fun K hK => ?_)
     go_simp
     have HC := L4.specInRangeOf_any ⟨kd, n, t⟩ ⟨rl, rh, ⟨lk, ln, lt⟩, ⟨gk, gn, gt⟩⟩ (by have : t.size ≤ 1099511627776 := HFI.out.text; show t.size ≤ _; omega) HRG.out.1 HRG.out.2 w8
     rw [HIR.out] at HC
     try dsimp only [LS.v, LS.cells, L4.K.v, L4.R.v] at HC
     go_at_call 30
     refine HC.mono ?_
     clear HC
     rintro e w9 ⟨rfl, hb⟩
     have S12 := Lib.hid (show Sl.Sep w6 _ [] from S11.out.keep hb)
     clear S11
     clear hb
     try dsimp only [LS.v, LS.cells, L4.K.v]
     go_wp2_with fail
     refine hK.out _ _ ⟨(HBS.out _ S12.out.old).1, (HBS.out _ S12.out.old).2.1, (HBS.out _ S12.out.old).2.2, (HBG.out _ S12.out.old).1, (HBG.out _ S12.out.old).2.1, (HBG.out _ S12.out.old).2.2.1, (HBG.out _ S12.out.old).2.2.2.1, (HBG.out _ S12.out.old).2.2.2.2.1, (HBG.out _ S12.out.old).2.2.2.2.2.1, (HBG.out _ S12.out.old).2.2.2.2.2.2.1, (HBG.out _ S12.out.old).2.2.2.2.2.2.2, (HBX.out _ S12.out.old).1, (HBX.out _ S12.out.old).2.1, (HBX.out _ S12.out.old).2.2, (HLK.out _ S12.out.old).1, (HLK.out _ S12.out.old).2.1, (HLK.out _ S12.out.old).2.2.1, (HLK.out _ S12.out.old).2.2.2⟩ (fun hS => ?_)
     clear hK K
     try simp only [zp0, zp1, zp2, zp3, zp4]
     refine tk 7 rfl ?_
     try simp only [zp0, zp1, zp2, zp3, zp4]
     refine tk 8 rfl ?_
     try simp only [zp0, zp1, zp2, zp3, zp4]
     refine tk 9 rfl ?_
     try simp only [zp0, zp1, zp2, zp3, zp4]
     refine tk 10 rfl ?_
     try simp only [zp0, zp1, zp2, zp3, zp4]
     refine tk 11 rfl ?_
     try simp only [zp0, zp1, zp2, zp3, zp4]
     refine tk 12 rfl ?_
     try simp only [zp0, zp1, zp2, zp3, zp4]
     refine tk 13 rfl ?_
     try simp only [zp0, zp1, zp2, zp3, zp4]
     refine tk 14 rfl ?_
     try simp only [zp0, zp1, zp2, zp3, zp4]
     refine Reg.one_op (i := 15) rfl (by kernel_rfl) (fun K hK => ?_)
     go_simp
     have HC := findItem_any x ⟨kd, n, t⟩ HFX.out _ ((HXR.out _ S12.out.old).more S12.out.old.size)
     rw [HFD.out] at HC
     try dsimp only [LS.v, LS.cells, L4.K.v, L4.R.v] at HC
     go_at_call 20
     refine HC.mono ?_
     clear HC
     rintro e w10 ⟨rfl, hb⟩
     have S13 := Lib.hid (show Sl.Sep w6 _ [] from S12.out.keep hb)
     clear S12
     clear hb
     try dsimp only [LS.v, LS.cells, L4.K.v]
     go_wp2_with fail
     refine hK.out _ _ ⟨(HBS.out _ S13.out.old).1, (HBS.out _ S13.out.old).2.1, (HBS.out _ S13.out.old).2.2, (HBG.out _ S13.out.old).1, (HBG.out _ S13.out.old).2.1, (HBG.out _ S13.out.old).2.2.1, (HBG.out _ S13.out.old).2.2.2.1, (HBG.out _ S13.out.old).2.2.2.2.1, (HBG.out _ S13.out.old).2.2.2.2.2.1, (HBG.out _ S13.out.old).2.2.2.2.2.2.1, (HBG.out _ S13.out.old).2.2.2.2.2.2.2, (HBX.out _ S13.out.old).1, (HBX.out _ S13.out.old).2.1, (HBX.out _ S13.out.old).2.2, (HLK.out _ S13.out.old).1, (HLK.out _ S13.out.old).2.1, (HLK.out _ S13.out.old).2.2.1, (HLK.out _ S13.out.old).2.2.2⟩ (fun hS => ?_)
     clear hK K
     try simp only [zp0, zp1, zp2, zp3, zp4]
     refine tk 16 rfl ?_
     try simp only [zp0, zp1, zp2, zp3, zp4]
     refine tk 17 rfl ?_
     try simp only [zp0, zp1, zp2, zp3, zp4]
     refine wpAnyH_done (by kernel_rfl) ?_ _
     have f0 : World.cell? _ (⟨g1, 0, none⟩) = some (.string y.name) := (HBS.out _ S13.out.old).1
     have f1 : World.cell? _ (⟨g1, 1, none⟩) = some (.slice y.a y.xs.length y.c) := (HBS.out _ S13.out.old).2.1
     have f2 : World.cell? _ (⟨g1, 2, none⟩) = some (.int .i64 y.auto) := (HBS.out _ S13.out.old).2.2
     have f3 : World.cell? _ (⟨g2, 0, none⟩) = some (.bool rl) := (HBG.out _ S13.out.old).1
     have f4 : World.cell? _ (⟨g2, 1, none⟩) = some (.bool rh) := (HBG.out _ S13.out.old).2.1
     have f5 : World.cell? _ (⟨g2, 2, none⟩) = some (.int .i64 lk) := (HBG.out _ S13.out.old).2.2.1
     have f6 : World.cell? _ (⟨g2, 3, none⟩) = some (.int .i64 ln) := (HBG.out _ S13.out.old).2.2.2.1
     have f7 : World.cell? _ (⟨g2, 4, none⟩) = some (.string lt) := (HBG.out _ S13.out.old).2.2.2.2.1
     have f8 : World.cell? _ (⟨g2, 5, none⟩) = some (.int .i64 gk) := (HBG.out _ S13.out.old).2.2.2.2.2.1
     have f9 : World.cell? _ (⟨g2, 6, none⟩) = some (.int .i64 gn) := (HBG.out _ S13.out.old).2.2.2.2.2.2.1
     have f10 : World.cell? _ (⟨g2, 7, none⟩) = some (.string gt) := (HBG.out _ S13.out.old).2.2.2.2.2.2.2
     have f11 : World.cell? _ (⟨g3, 0, none⟩) = some (.string x.name) := (HBX.out _ S13.out.old).1
     have f12 : World.cell? _ (⟨g3, 1, none⟩) = some (.slice x.a x.xs.length x.c) := (HBX.out _ S13.out.old).2.1
     have f13 : World.cell? _ (⟨g3, 2, none⟩) = some (.int .i64 x.auto) := (HBX.out _ S13.out.old).2.2
     have f14 : World.cell? _ (ad.add (k * 4)) = some (.int .i64 kd) := (HLK.out _ S13.out.old).1
     have f15 : World.cell? _ (⟨(ad.add (k * 4)).block, (ad.add (k * 4)).off + 1, none⟩) = some (.int .i64 n) := (HLK.out _ S13.out.old).2.1
     have f16 : World.cell? _ (⟨(ad.add (k * 4)).block, (ad.add (k * 4)).off + 2, none⟩) = some (.string t) := (HLK.out _ S13.out.old).2.2.1
     have f17 : World.cell? _ (⟨(ad.add (k * 4)).block, (ad.add (k * 4)).off + 3, none⟩) = some (.slice ia l.length ic) := (HLK.out _ S13.out.old).2.2.2
     clear f0 f1 f2 f3 f4 f5 f6 f7 f8 f9 f10 f11 f12 f13 f14 f15 f16 f17
     have f0 : World.cell? _ (⟨g1, 0, none⟩) = some (.string y.name) := (HBS.out _ S13.out.old).1
     have f1 : World.cell? _ (⟨g1, 1, none⟩) = some (.slice y.a y.xs.length y.c) := (HBS.out _ S13.out.old).2.1
     have f2 : World.cell? _ (⟨g1, 2, none⟩) = some (.int .i64 y.auto) := (HBS.out _ S13.out.old).2.2
     have f3 : World.cell? _ (⟨g2, 0, none⟩) = some (.bool rl) := (HBG.out _ S13.out.old).1
     have f4 : World.cell? _ (⟨g2, 1, none⟩) = some (.bool rh) := (HBG.out _ S13.out.old).2.1
     have f5 : World.cell? _ (⟨g2, 2, none⟩) = some (.int .i64 lk) := (HBG.out _ S13.out.old).2.2.1
     have f6 : World.cell? _ (⟨g2, 3, none⟩) = some (.int .i64 ln) := (HBG.out _ S13.out.old).2.2.2.1
     have f7 : World.cell? _ (⟨g2, 4, none⟩) = some (.string lt) := (HBG.out _ S13.out.old).2.2.2.2.1
     have f8 : World.cell? _ (⟨g2, 5, none⟩) = some (.int .i64 gk) := (HBG.out _ S13.out.old).2.2.2.2.2.1
     have f9 : World.cell? _ (⟨g2, 6, none⟩) = some (.int .i64 gn) := (HBG.out _ S13.out.old).2.2.2.2.2.2.1
     have f10 : World.cell? _ (⟨g2, 7, none⟩) = some (.string gt) := (HBG.out _ S13.out.old).2.2.2.2.2.2.2
     have f11 : World.cell? _ (⟨g3, 0, none⟩) = some (.string x.name) := (HBX.out _ S13.out.old).1
     have f12 : World.cell? _ (⟨g3, 1, none⟩) = some (.slice x.a x.xs.length x.c) := (HBX.out _ S13.out.old).2.1
     have f13 : World.cell? _ (⟨g3, 2, none⟩) = some (.int .i64 x.auto) := (HBX.out _ S13.out.old).2.2
     have f14 : World.cell? _ (ad.add (k * 4)) = some (.int .i64 kd) := (HLK.out _ S13.out.old).1
     have f15 : World.cell? _ (⟨(ad.add (k * 4)).block, (ad.add (k * 4)).off + 1, none⟩) = some (.int .i64 n) := (HLK.out _ S13.out.old).2.1
     have f16 : World.cell? _ (⟨(ad.add (k * 4)).block, (ad.add (k * 4)).off + 2, none⟩) = some (.string t) := (HLK.out _ S13.out.old).2.2.1
     have f17 : World.cell? _ (⟨(ad.add (k * 4)).block, (ad.add (k * 4)).off + 3, none⟩) = some (.slice ia l.length ic) := (HLK.out _ S13.out.old).2.2.2
     go_upto_region 14 with fail
     clear f0 f1 f2 f3 f4 f5 f6 f7 f8 f9 f10 f11 f12 f13 f14 f15 f16 f17
     refine wp_region_held_drew (S := (fun w' => w'.cell? (⟨g1, 0, none⟩) = some (.string y.name) ∧ w'.cell? (⟨g1, 1, none⟩) = some (.slice y.a y.xs.length y.c) ∧ w'.cell? (⟨g1, 2, none⟩) = some (.int .i64 y.auto) ∧ w'.cell? (⟨g2, 0, none⟩) = some (.bool rl) ∧ w'.cell? (⟨g2, 1, none⟩) = some (.bool rh) ∧ w'.cell? (⟨g2, 2, none⟩) = some (.int .i64 lk) ∧ w'.cell? (⟨g2, 3, none⟩) = some (.int .i64 ln) ∧ w'.cell? (⟨g2, 4, none⟩) = some (.string lt) ∧ w'.cell? (⟨g2, 5, none⟩) = some (.int .i64 gk) ∧ w'.cell? (⟨g2, 6, none⟩) = some (.int .i64 gn) ∧ w'.cell? (⟨g2, 7, none⟩) = some (.string gt) ∧ w'.cell? (⟨g3, 0, none⟩) = some (.string x.name) ∧ w'.cell? (⟨g3, 1, none⟩) = some (.slice x.a x.xs.length x.c) ∧ w'.cell? (⟨g3, 2, none⟩) = some (.int .i64 x.auto) ∧ w'.cell? (ad.add (k * 4)) = some (.int .i64 kd) ∧ w'.cell? (⟨(ad.add (k * 4)).block, (ad.add (k * 4)).off + 1, none⟩) = some (.int .i64 n) ∧ w'.cell? (⟨(ad.add (k * 4)).block, (ad.add (k * 4)).off + 2, none⟩) = some (.string t) ∧ w'.cell? (⟨(ad.add (k * 4)).block, (ad.add (k * 4)).off + 3, none⟩) = some (.slice ia l.length ic))) (by kernel_rfl) ⟨(HBS.out _ S13.out.old).1, (HBS.out _ S13.out.old).2.1, (HBS.out _ S13.out.old).2.2, (HBG.out _ S13.out.old).1, (HBG.out _ S13.out.old).2.1, (HBG.out _ S13.out.old).2.2.1, (HBG.out _ S13.out.old).2.2.2.1, (HBG.out _ S13.out.old).2.2.2.2.1, (HBG.out _ S13.out.old).2.2.2.2.2.1, (HBG.out _ S13.out.old).2.2.2.2.2.2.1, (HBG.out _ S13.out.old).2.2.2.2.2.2.2, (HBX.out _ S13.out.old).1, (HBX.out _ S13.out.old).2.1, (HBX.out _ S13.out.old).2.2, (HLK.out _ S13.out.old).1, (HLK.out _ S13.out.old).2.1, (HLK.out _ S13.out.old).2.2.1, (HLK.out _ S13.out.old).2.2.2⟩ (fun hS => ?_)
     have S14 := Lib.hid (Bag.drew1 S13.out)
     clear S13
     generalize World.drew _ = w11 at hS S14 ⊢
     refine tk 0 rfl ?_
     try simp only [zp0, zp1, zp2, zp3, zp4]
     refine tk 1 rfl ?_
     try simp only [zp0, zp1, zp2, zp3, zp4]
     refine tk 2 rfl ?_
     try simp only [zp0, zp1, zp2, zp3, zp4]
     refine tk 3 rfl ?_
     try simp only [zp0, zp1, zp2, zp3, zp4]
     refine tk 4 rfl ?_
     try simp only [zp0, zp1, zp2, zp3, zp4]
     refine tk 5 rfl ?_
     try simp only [zp0, zp1, zp2, zp3, zp4]
     refine tk 9 rfl ?_
     try simp only [zp0, zp1, zp2, zp3, zp4]
     refine tk 10 rfl ?_
     try simp only [zp0, zp1, zp2, zp3, zp4]
     refine tk 11 rfl ?_
     try simp only [zp0, zp1, zp2, zp3, zp4]
     refine tk 12 rfl ?_
     try simp only [zp0, zp1, zp2, zp3, zp4]
     refine tk 13 rfl ?_
     try simp only [zp0, zp1, zp2, zp3, zp4]
     refine Reg.one_op (i := 6) rfl (by kernel_rfl) (fun K hK => ?_)
     go_simp
     go_at_call 31
     refine (HEK.out _).mono ?_
     rintro e w12 ⟨a1, c1, rfl, ho, hb⟩
     have S15 := Lib.hid (show Sl.Sep w6 _ [Sl.own 5 .u8 a1 c1 ek] from Sl.Sep.pushOwn S14.out hb ho)
     clear S14
     clear hb ho
     rw [← HPQ.out.1]
     go_wp2_with fail
     refine hK.out _ _ ⟨(HBS.out _ S15.out.old).1, (HBS.out _ S15.out.old).2.1, (HBS.out _ S15.out.old).2.2, (HBG.out _ S15.out.old).1, (HBG.out _ S15.out.old).2.1, (HBG.out _ S15.out.old).2.2.1, (HBG.out _ S15.out.old).2.2.2.1, (HBG.out _ S15.out.old).2.2.2.2.1, (HBG.out _ S15.out.old).2.2.2.2.2.1, (HBG.out _ S15.out.old).2.2.2.2.2.2.1, (HBG.out _ S15.out.old).2.2.2.2.2.2.2, (HBX.out _ S15.out.old).1, (HBX.out _ S15.out.old).2.1, (HBX.out _ S15.out.old).2.2, (HLK.out _ S15.out.old).1, (HLK.out _ S15.out.old).2.1, (HLK.out _ S15.out.old).2.2.1, (HLK.out _ S15.out.old).2.2.2⟩ (fun hS => ?_)
     clear hK K
     try simp only [zp0, zp1, zp2, zp3, zp4]
     refine tk 7 rfl ?_
     try simp only [zp0, zp1, zp2, zp3, zp4]
     refine tk 8 rfl ?_
     try simp only [zp0, zp1, zp2, zp3, zp4]
     refine Reg.one_op (i := 14) rfl (by kernel_rfl) (fun K hK => ?_)
     go_simp
     have HC := L5.specEncodeRecord_any ia ic l (by have : l.length ≤ 1048576 := HFI.out.len; omega) HFI.out.small _ ((HLI.out _ S15.out.old).more S15.out.old.size)
     rw [HER.out] at HC
     try dsimp only [LS.v, LS.cells, L4.K.v, L4.R.v] at HC
     go_at_call 32
     refine HC.mono ?_
     clear HC
     rintro e w13 ⟨a2', c2', rfl, ho, hb⟩
     have S16 := Lib.hid (show Sl.Sep w6 _ [_, Sl.own 5 .u8 a2' c2' er] from Sl.Sep.pushOwn S15.out hb ho)
     clear S15
     clear ho hb
     try dsimp only [LS.v, LS.cells, L4.K.v]
     rw [← HPQ.out.2]
     go_wp2_with fail
     refine hK.out _ _ ⟨(HBS.out _ S16.out.old).1, (HBS.out _ S16.out.old).2.1, (HBS.out _ S16.out.old).2.2, (HBG.out _ S16.out.old).1, (HBG.out _ S16.out.old).2.1, (HBG.out _ S16.out.old).2.2.1, (HBG.out _ S16.out.old).2.2.2.1, (HBG.out _ S16.out.old).2.2.2.2.1, (HBG.out _ S16.out.old).2.2.2.2.2.1, (HBG.out _ S16.out.old).2.2.2.2.2.2.1, (HBG.out _ S16.out.old).2.2.2.2.2.2.2, (HBX.out _ S16.out.old).1, (HBX.out _ S16.out.old).2.1, (HBX.out _ S16.out.old).2.2, (HLK.out _ S16.out.old).1, (HLK.out _ S16.out.old).2.1, (HLK.out _ S16.out.old).2.2.1, (HLK.out _ S16.out.old).2.2.2⟩ (fun hS => ?_)
     clear hK K
     try simp only [zp0, zp1, zp2, zp3, zp4]
     refine tk 15 rfl ?_
     try simp only [zp0, zp1, zp2, zp3, zp4]
     refine tk 16 rfl ?_
     try simp only [zp0, zp1, zp2, zp3, zp4]
     refine tk 17 rfl ?_
     try simp only [zp0, zp1, zp2, zp3, zp4]
     refine wpAnyH_done (by kernel_rfl) ?_ _
     have f0 : World.cell? _ (⟨g1, 0, none⟩) = some (.string y.name) := (HBS.out _ S16.out.old).1
     have f1 : World.cell? _ (⟨g1, 1, none⟩) = some (.slice y.a y.xs.length y.c) := (HBS.out _ S16.out.old).2.1
     have f2 : World.cell? _ (⟨g1, 2, none⟩) = some (.int .i64 y.auto) := (HBS.out _ S16.out.old).2.2
     have f3 : World.cell? _ (⟨g2, 0, none⟩) = some (.bool rl) := (HBG.out _ S16.out.old).1
     have f4 : World.cell? _ (⟨g2, 1, none⟩) = some (.bool rh) := (HBG.out _ S16.out.old).2.1
     have f5 : World.cell? _ (⟨g2, 2, none⟩) = some (.int .i64 lk) := (HBG.out _ S16.out.old).2.2.1
     have f6 : World.cell? _ (⟨g2, 3, none⟩) = some (.int .i64 ln) := (HBG.out _ S16.out.old).2.2.2.1
     have f7 : World.cell? _ (⟨g2, 4, none⟩) = some (.string lt) := (HBG.out _ S16.out.old).2.2.2.2.1
     have f8 : World.cell? _ (⟨g2, 5, none⟩) = some (.int .i64 gk) := (HBG.out _ S16.out.old).2.2.2.2.2.1
     have f9 : World.cell? _ (⟨g2, 6, none⟩) = some (.int .i64 gn) := (HBG.out _ S16.out.old).2.2.2.2.2.2.1
     have f10 : World.cell? _ (⟨g2, 7, none⟩) = some (.string gt) := (HBG.out _ S16.out.old).2.2.2.2.2.2.2
     have f11 : World.cell? _ (⟨g3, 0, none⟩) = some (.string x.name) := (HBX.out _ S16.out.old).1
     have f12 : World.cell? _ (⟨g3, 1, none⟩) = some (.slice x.a x.xs.length x.c) := (HBX.out _ S16.out.old).2.1
     have f13 : World.cell? _ (⟨g3, 2, none⟩) = some (.int .i64 x.auto) := (HBX.out _ S16.out.old).2.2
     have f14 : World.cell? _ (ad.add (k * 4)) = some (.int .i64 kd) := (HLK.out _ S16.out.old).1
     have f15 : World.cell? _ (⟨(ad.add (k * 4)).block, (ad.add (k * 4)).off + 1, none⟩) = some (.int .i64 n) := (HLK.out _ S16.out.old).2.1
     have f16 : World.cell? _ (⟨(ad.add (k * 4)).block, (ad.add (k * 4)).off + 2, none⟩) = some (.string t) := (HLK.out _ S16.out.old).2.2.1
     have f17 : World.cell? _ (⟨(ad.add (k * 4)).block, (ad.add (k * 4)).off + 3, none⟩) = some (.slice ia l.length ic) := (HLK.out _ S16.out.old).2.2.2
     clear f0 f1 f2 f3 f4 f5 f6 f7 f8 f9 f10 f11 f12 f13 f14 f15 f16 f17
     have S17 := Lib.hid (show Sl.Sep w6 _ [] from Bag.take S16.out [] (by rfl) (by decide))
     clear S16
     have f0 : World.cell? _ (⟨g1, 0, none⟩) = some (.string y.name) := (HBS.out _ S17.out.old).1
     have f1 : World.cell? _ (⟨g1, 1, none⟩) = some (.slice y.a y.xs.length y.c) := (HBS.out _ S17.out.old).2.1
     have f2 : World.cell? _ (⟨g1, 2, none⟩) = some (.int .i64 y.auto) := (HBS.out _ S17.out.old).2.2
     have f3 : World.cell? _ (⟨g2, 0, none⟩) = some (.bool rl) := (HBG.out _ S17.out.old).1
     have f4 : World.cell? _ (⟨g2, 1, none⟩) = some (.bool rh) := (HBG.out _ S17.out.old).2.1
     have f5 : World.cell? _ (⟨g2, 2, none⟩) = some (.int .i64 lk) := (HBG.out _ S17.out.old).2.2.1
     have f6 : World.cell? _ (⟨g2, 3, none⟩) = some (.int .i64 ln) := (HBG.out _ S17.out.old).2.2.2.1
     have f7 : World.cell? _ (⟨g2, 4, none⟩) = some (.string lt) := (HBG.out _ S17.out.old).2.2.2.2.1
     have f8 : World.cell? _ (⟨g2, 5, none⟩) = some (.int .i64 gk) := (HBG.out _ S17.out.old).2.2.2.2.2.1
     have f9 : World.cell? _ (⟨g2, 6, none⟩) = some (.int .i64 gn) := (HBG.out _ S17.out.old).2.2.2.2.2.2.1
     have f10 : World.cell? _ (⟨g2, 7, none⟩) = some (.string gt) := (HBG.out _ S17.out.old).2.2.2.2.2.2.2
     have f11 : World.cell? _ (⟨g3, 0, none⟩) = some (.string x.name) := (HBX.out _ S17.out.old).1
     have f12 : World.cell? _ (⟨g3, 1, none⟩) = some (.slice x.a x.xs.length x.c) := (HBX.out _ S17.out.old).2.1
     have f13 : World.cell? _ (⟨g3, 2, none⟩) = some (.int .i64 x.auto) := (HBX.out _ S17.out.old).2.2
     have f14 : World.cell? _ (ad.add (k * 4)) = some (.int .i64 kd) := (HLK.out _ S17.out.old).1
     have f15 : World.cell? _ (⟨(ad.add (k * 4)).block, (ad.add (k * 4)).off + 1, none⟩) = some (.int .i64 n) := (HLK.out _ S17.out.old).2.1
     have f16 : World.cell? _ (⟨(ad.add (k * 4)).block, (ad.add (k * 4)).off + 2, none⟩) = some (.string t) := (HLK.out _ S17.out.old).2.2.1
     have f17 : World.cell? _ (⟨(ad.add (k * 4)).block, (ad.add (k * 4)).off + 3, none⟩) = some (.slice ia l.length ic) := (HLK.out _ S17.out.old).2.2.2
     go_wp2_with fail
     go_roundw
     case rel => exact ⟨k + 1, m + p + q, by omega, by go_num, by rw [show IntKind.i64.wrap ((m : Int) + p) = m + p from IntWalk.i64_in _ ⟨by omega, by omega⟩, show IntKind.i64.wrap ((m : Int) + p + q) = m + p + q from IntWalk.i64_in _ ⟨by omega, by omega⟩]; rfl, by omega, And.intro (by rw [HS.out]; omega) S17.out⟩
     case measure => simp [intOf]; omega
    ·
     skip
     have hkN : k = N := by omega
     subst hkN
     have HML := Lib.hid (show m = szI (inI y.con.items ⟨rl, rh, ⟨lk, ln, lt⟩, ⟨gk, gn, gt⟩⟩) from by rw [HMM.out, ← HYS.out, List.take_of_length_le (by rw [conI_length, ← HN.out]; omega)])
     have hp1 := part_len y.con.items ⟨rl, rh, ⟨lk, ln, lt⟩, ⟨gk, gn, gt⟩⟩
     have hp2 := part_sz y.con.items ⟨rl, rh, ⟨lk, ln, lt⟩, ⟨gk, gn, gt⟩⟩
     rw [← HXI.out] at hp1 hp2
     rw [← HYS.out, conI_length, ← HN.out] at hp1
     rw [← HML.out] at hp2
     have hxe : x.con.items.length = x.xs.length := conI_length _
     have hye : y.con.items.length = y.xs.length := conI_length _
     obtain ⟨s1, hs1⟩ : ∃ s, szI x.con.items = s := ⟨_, rfl⟩
     obtain ⟨s2, hs2⟩ : ∃ s, szI y.con.items = s := ⟨_, rfl⟩
     rw [hs1, hs2] at hp2
     have HS1 := Lib.hid hs1
     have HS2 := Lib.hid hs2
     have hsb : s2 ≤ 1048576 * 1100 := by rw [← hs2]; exact szI_bound HFY.out.len
     have hyl : y.con.items.length ≤ 1048576 := HFY.out.len
     have hw1 : IntKind.i64.wrap ((x.xs.length : Int) + (k : Int)) = (y.xs.length : Int) := by rw [IntWalk.i64_in _ ⟨by omega, by omega⟩]; omega
     have hw2 : IntKind.i64.wrap ((s1 : Int) + (m : Int)) = (s2 : Int) := by rw [IntWalk.i64_in _ ⟨by omega, by omega⟩]; omega
     have HNI := Lib.hid (show inI x.con.items ⟨rl, rh, ⟨lk, ln, lt⟩, ⟨gk, gn, gt⟩⟩ = [] from by rw [HXI.out]; exact in_out _ _)
     clear hp1 hp2 hxe hye hs1 hs2 hsb hyl
     go_upto_region 15 with fail
     refine wp_region_held_drew (S := (fun w' => w'.cell? (⟨g1, 0, none⟩) = some (.string y.name) ∧ w'.cell? (⟨g1, 1, none⟩) = some (.slice y.a y.xs.length y.c) ∧ w'.cell? (⟨g1, 2, none⟩) = some (.int .i64 y.auto) ∧ w'.cell? (⟨g2, 0, none⟩) = some (.bool rl) ∧ w'.cell? (⟨g2, 1, none⟩) = some (.bool rh) ∧ w'.cell? (⟨g2, 2, none⟩) = some (.int .i64 lk) ∧ w'.cell? (⟨g2, 3, none⟩) = some (.int .i64 ln) ∧ w'.cell? (⟨g2, 4, none⟩) = some (.string lt) ∧ w'.cell? (⟨g2, 5, none⟩) = some (.int .i64 gk) ∧ w'.cell? (⟨g2, 6, none⟩) = some (.int .i64 gn) ∧ w'.cell? (⟨g2, 7, none⟩) = some (.string gt) ∧ w'.cell? (⟨g3, 0, none⟩) = some (.string x.name) ∧ w'.cell? (⟨g3, 1, none⟩) = some (.slice x.a x.xs.length x.c) ∧ w'.cell? (⟨g3, 2, none⟩) = some (.int .i64 x.auto))) (by kernel_rfl) ⟨(HBS.out _ S10.out.old).1, (HBS.out _ S10.out.old).2.1, (HBS.out _ S10.out.old).2.2, (HBG.out _ S10.out.old).1, (HBG.out _ S10.out.old).2.1, (HBG.out _ S10.out.old).2.2.1, (HBG.out _ S10.out.old).2.2.2.1, (HBG.out _ S10.out.old).2.2.2.2.1, (HBG.out _ S10.out.old).2.2.2.2.2.1, (HBG.out _ S10.out.old).2.2.2.2.2.2.1, (HBG.out _ S10.out.old).2.2.2.2.2.2.2, (HBX.out _ S10.out.old).1, (HBX.out _ S10.out.old).2.1, (HBX.out _ S10.out.old).2.2⟩ (fun hS => ?_)
     have S11 := Lib.hid (Bag.drew1 S10.out)
     clear S10
     generalize World.drew _ = w8 at hS S11 ⊢
     refine tk 0 rfl ?_
     try simp only [zp0, zp1, zp2, zp3, zp4]
     refine tk 1 rfl ?_
     try simp only [zp0, zp1, zp2, zp3, zp4]
     refine tk 2 rfl ?_
     try simp only [zp0, zp1, zp2, zp3, zp4]
     refine tk 3 rfl ?_
     try simp only [zp0, zp1, zp2, zp3, zp4]
     refine tk 4 rfl ?_
     try simp only [zp0, zp1, zp2, zp3, zp4]
     refine tk 5 rfl ?_
     try simp only [zp0, zp1, zp2, zp3, zp4]
     refine tk 6 rfl ?_
     try simp only [zp0, zp1, zp2, zp3, zp4]
     refine tk 7 rfl ?_
     try simp only [zp0, zp1, zp2, zp3, zp4]
     refine tk 8 rfl ?_
     try simp only [zp0, zp1, zp2, zp3, zp4]
     refine tk 9 rfl ?_
     try simp only [zp0, zp1, zp2, zp3, zp4]
     refine tk 10 rfl ?_
     try simp only [zp0, zp1, zp2, zp3, zp4]
     refine tk 11 rfl ?_
     try simp only [zp0, zp1, zp2, zp3, zp4]
     refine tk 12 rfl ?_
     try simp only [zp0, zp1, zp2, zp3, zp4]
     refine tk 13 rfl ?_
     try simp only [zp0, zp1, zp2, zp3, zp4]
     refine tk 14 rfl ?_
     try simp only [zp0, zp1, zp2, zp3, zp4]
     refine tk 15 rfl ?_
     try simp only [zp0, zp1, zp2, zp3, zp4]
     refine tk 16 rfl ?_
     try simp only [zp0, zp1, zp2, zp3, zp4]
     refine tk 17 rfl ?_
     try simp only [zp0, zp1, zp2, zp3, zp4]
     refine Reg.one_op (i := 18) rfl (by kernel_rfl) (fun K hK => ?_)
     go_simp
     have HC := itemsIn_any x ⟨rl, rh, ⟨lk, ln, lt⟩, ⟨gk, gn, gt⟩⟩ HFX.out HRG.out.1 HRG.out.2 _ ((HXR.out _ S11.out.old).more S11.out.old.size)
     rw [HNI.out] at HC
     try dsimp only [LS.v, LS.cells, L4.K.v, L4.R.v] at HC
     go_at_call 28
     refine HC.mono ?_
     clear HC
     rintro e w9 ⟨la', lc', ys', rfl, hys, ho, hb⟩
     have S12 := Lib.hid (show Sl.Sep w6 _ [Bag.bag (rowI la' lc' ys' :: rowsI ys')] from Bag.push_bag S11.out hb ho)
     clear S11
     clear ho hb
     try dsimp only [LS.v, LS.cells, L4.K.v]
     have hy0 : ys' = [] := by cases ys' with
      | nil => rfl
      | cons _ _ => simp [conI] at hys
     subst hy0
     dsimp only [List.length_nil]
     go_wp2_with fail
     refine hK.out _ _ ⟨(HBS.out _ S12.out.old).1, (HBS.out _ S12.out.old).2.1, (HBS.out _ S12.out.old).2.2, (HBG.out _ S12.out.old).1, (HBG.out _ S12.out.old).2.1, (HBG.out _ S12.out.old).2.2.1, (HBG.out _ S12.out.old).2.2.2.1, (HBG.out _ S12.out.old).2.2.2.2.1, (HBG.out _ S12.out.old).2.2.2.2.2.1, (HBG.out _ S12.out.old).2.2.2.2.2.2.1, (HBG.out _ S12.out.old).2.2.2.2.2.2.2, (HBX.out _ S12.out.old).1, (HBX.out _ S12.out.old).2.1, (HBX.out _ S12.out.old).2.2⟩ (fun hS => ?_)
     clear hK K
     try simp only [zp0, zp1, zp2, zp3, zp4]
     refine tk 19 rfl ?_
     try simp only [zp0, zp1, zp2, zp3, zp4]
     refine tk 20 rfl ?_
     try simp only [zp0, zp1, zp2, zp3, zp4]
     refine tk 21 rfl ?_
     try simp only [zp0, zp1, zp2, zp3, zp4]
     refine tk 22 rfl ?_
     try simp only [zp0, zp1, zp2, zp3, zp4]
     refine tk 23 rfl ?_
     try simp only [zp0, zp1, zp2, zp3, zp4]
     refine tk 25 rfl ?_
     try simp only [zp0, zp1, zp2, zp3, zp4]
     refine tk 27 rfl ?_
     try simp only [zp0, zp1, zp2, zp3, zp4]
     refine Reg.one_op (i := 24) rfl (by kernel_rfl) (fun K hK => ?_)
     go_simp
     have HC := sizeStore_any x HFX.out _ ((HXR.out _ S12.out.old).more S12.out.old.size)
     rw [HS1.out] at HC
     try dsimp only [LS.v, LS.cells, L4.K.v, L4.R.v] at HC
     go_at_call 33
     refine HC.mono ?_
     clear HC
     rintro e w10 ⟨rfl, hb⟩
     have S13 := Lib.hid (show Sl.Sep w6 _ [Bag.bag (rowI la' lc' [] :: rowsI [])] from S12.out.keep hb)
     clear S12
     clear hb
     try dsimp only [LS.v, LS.cells, L4.K.v]
     go_wp2_with fail
     refine hK.out _ _ ⟨(HBS.out _ S13.out.old).1, (HBS.out _ S13.out.old).2.1, (HBS.out _ S13.out.old).2.2, (HBG.out _ S13.out.old).1, (HBG.out _ S13.out.old).2.1, (HBG.out _ S13.out.old).2.2.1, (HBG.out _ S13.out.old).2.2.2.1, (HBG.out _ S13.out.old).2.2.2.2.1, (HBG.out _ S13.out.old).2.2.2.2.2.1, (HBG.out _ S13.out.old).2.2.2.2.2.2.1, (HBG.out _ S13.out.old).2.2.2.2.2.2.2, (HBX.out _ S13.out.old).1, (HBX.out _ S13.out.old).2.1, (HBX.out _ S13.out.old).2.2⟩ (fun hS => ?_)
     clear hK K
     try simp only [zp0, zp1, zp2, zp3, zp4]
     refine tk 26 rfl ?_
     try simp only [zp0, zp1, zp2, zp3, zp4]
     refine Reg.one_op (i := 28) rfl (by kernel_rfl) (fun K hK => ?_)
     go_simp
     have HC := sizeStore_any y HFY.out _ ((HY.out _ S13.out.old).more S13.out.old.size)
     rw [HS2.out] at HC
     try dsimp only [LS.v, LS.cells, L4.K.v, L4.R.v] at HC
     go_at_call 33
     refine HC.mono ?_
     clear HC
     rintro e w11 ⟨rfl, hb⟩
     have S14 := Lib.hid (show Sl.Sep w6 _ [_] from S13.out.keep hb)
     clear S13
     clear hb
     try dsimp only [LS.v, LS.cells, L4.K.v]
     go_wp2_with fail
     refine hK.out _ _ ⟨(HBS.out _ S14.out.old).1, (HBS.out _ S14.out.old).2.1, (HBS.out _ S14.out.old).2.2, (HBG.out _ S14.out.old).1, (HBG.out _ S14.out.old).2.1, (HBG.out _ S14.out.old).2.2.1, (HBG.out _ S14.out.old).2.2.2.1, (HBG.out _ S14.out.old).2.2.2.2.1, (HBG.out _ S14.out.old).2.2.2.2.2.1, (HBG.out _ S14.out.old).2.2.2.2.2.2.1, (HBG.out _ S14.out.old).2.2.2.2.2.2.2, (HBX.out _ S14.out.old).1, (HBX.out _ S14.out.old).2.1, (HBX.out _ S14.out.old).2.2⟩ (fun hS => ?_)
     clear hK K
     try simp only [zp0, zp1, zp2, zp3, zp4]
     refine tk 29 rfl ?_
     try simp only [zp0, zp1, zp2, zp3, zp4]
     refine tk 30 rfl ?_
     try simp only [zp0, zp1, zp2, zp3, zp4]
     refine tk 31 rfl ?_
     try simp only [zp0, zp1, zp2, zp3, zp4]
     refine wpAnyH_done (by kernel_rfl) ?_ _
     have f0 : World.cell? _ (⟨g1, 0, none⟩) = some (.string y.name) := (HBS.out _ S14.out.old).1
     have f1 : World.cell? _ (⟨g1, 1, none⟩) = some (.slice y.a y.xs.length y.c) := (HBS.out _ S14.out.old).2.1
     have f2 : World.cell? _ (⟨g1, 2, none⟩) = some (.int .i64 y.auto) := (HBS.out _ S14.out.old).2.2
     have f3 : World.cell? _ (⟨g2, 0, none⟩) = some (.bool rl) := (HBG.out _ S14.out.old).1
     have f4 : World.cell? _ (⟨g2, 1, none⟩) = some (.bool rh) := (HBG.out _ S14.out.old).2.1
     have f5 : World.cell? _ (⟨g2, 2, none⟩) = some (.int .i64 lk) := (HBG.out _ S14.out.old).2.2.1
     have f6 : World.cell? _ (⟨g2, 3, none⟩) = some (.int .i64 ln) := (HBG.out _ S14.out.old).2.2.2.1
     have f7 : World.cell? _ (⟨g2, 4, none⟩) = some (.string lt) := (HBG.out _ S14.out.old).2.2.2.2.1
     have f8 : World.cell? _ (⟨g2, 5, none⟩) = some (.int .i64 gk) := (HBG.out _ S14.out.old).2.2.2.2.2.1
     have f9 : World.cell? _ (⟨g2, 6, none⟩) = some (.int .i64 gn) := (HBG.out _ S14.out.old).2.2.2.2.2.2.1
     have f10 : World.cell? _ (⟨g2, 7, none⟩) = some (.string gt) := (HBG.out _ S14.out.old).2.2.2.2.2.2.2
     have f11 : World.cell? _ (⟨g3, 0, none⟩) = some (.string x.name) := (HBX.out _ S14.out.old).1
     have f12 : World.cell? _ (⟨g3, 1, none⟩) = some (.slice x.a x.xs.length x.c) := (HBX.out _ S14.out.old).2.1
     have f13 : World.cell? _ (⟨g3, 2, none⟩) = some (.int .i64 x.auto) := (HBX.out _ S14.out.old).2.2
     go_wp2_with fail
     go_ret
     exact ⟨rfl, HW.out.trans (S14.out.old.mono HW.out.size)⟩

set_option maxRecDepth 100000 in
theorem lifted (os : Os) (started : os.Started) (H : Type) (enc : TypeId × Value → H) :
  ReturnsInHanded {} Try.checked os 4 .any (Rows.fnDeletionsSpec.pre6 enc Try.prog Try.f4 Rows.fnDeletionsRow.domain false) (Rows.fnDeletionsSpec.post enc Try.prog Try.f4 false true false false) := by
 refine returnsInHanded_of_change_sized (C := Try.checked) own started (by kernel_rfl) Try.func4
  (ChangeSpec.witness6 (enc := enc) (C := Try.checked) false ⟨#[], #[.slice none 0 0], []⟩ 8 (by kernel_rfl) (by kernel_rfl) (by kernel_rfl) (by kernel_rfl)) ?_
 intro W base args ds gs before hval0 hW _ hsz0 _
 have hval : ∀ (j : Nat) t v, Try.f4.params[j]? = some t → args[j]? = some v → Value.okWide Try.prog W .any base t v := hval0
 have hW' := hW
 obtain ⟨p, q, hA0, hV, rfl, _, _⟩ := hW
 have hA : DataW.TrodAll enc Try.prog W 0 (fun _ => true) true Try.f4.params.toList args.toList ds p := hA0
 obtain ⟨rfl, rfl⟩ := trodVars_none hV
 have hlt : ∀ x ∈ p, x.block < W.heap.size := fun x hx => hW'.lt x (by simpa using hx)
 simp only [List.append_nil] at hW'
 have hw := walk H enc W base args ds p hval hA hlt hsz0
 have hA1 := hA
 clear hA0 hval0 hsz0 hval hlt
 rw [Try.params4] at hA
 obtain ⟨v0, vs0, d0, ds0, p0, q0, e0, rfl, rfl, h0, hr0⟩ := trodAll_cons hA
 obtain ⟨e1, rfl, rfl⟩ := trodAll_nil hr0
 refine hw.mono fun e W' ⟨he, hb⟩ => ?_
 subst he
 exact ⟨_, rfl, Frame.law_post (tb := 4) rfl hW' hA1 rfl rfl rfl laidOut (by kernel_rfl) (by kernel_rfl) Try.underlying4 hb⟩

theorem closedFacts : joinedFacts Try.pinned.checked.prog 4 Try.f4 Rows.fnDeletionsSpec Rows.fnDeletionsRow = true := by
 have h1 : Try.pinned.checked.prog.mayEnter = true := Closed.mayIn
 have h2 : (Rows.fnDeletionsRow.lifted == Try.pinned.checked.prog.liftsFinal) = true := by
  rw [show Try.pinned.checked.prog.liftsFinal = false from Closed.liftsNone]; rfl
 have h3 : (Try.pinned.checked.prog.make == some Rows.fnDeletionsRow.make) = true := by
  rw [show Try.pinned.checked.prog.make = some .cut from Closed.makeIs]; rfl
 unfold joinedFacts
 rw [h1, h2, h3]
 change _ = true
 kernel_rfl
theorem holds : Rows.FnDeletionsSaid :=
 OpenClaim.holds_of_wide 4 Try.f4 rfl rfl rfl rfl rfl rfl rfl ⟨rfl, rfl, rfl, rfl, rfl⟩ rfl rfl rfl rfl rfl (by kernel_rfl) Try.func4 closedFacts
  (of_decide_eq_true (by kernel_rfl)) (by unfold Func.isWrapper; first | (rw [if_pos (by decide +kernel)]; kernel_rfl) | (rw [if_neg (by decide +kernel)]; exact ⟨rfl, rfl⟩))
  (fun os started H enc _ => lifted os started H enc)

#print axioms holds
end Go.Proofs.Ytojcdmgcbgpdmaa.lawFnDeletions
