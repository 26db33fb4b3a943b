/-
  What the law FnExactStartTx needs, laid by my program lawpack.py, part 3: the texts VTx, VTxQueue, Any, L10Num, VzOp, L9Fw, L10Fw, L9Rm, L9Sco, L9Sh, L10St, L10Sw, L9Sa, L10Sa, Vlg, RegL, L6Sa, L10Sc, L7Sc, one behind the other; each begins with its own words.
-/
import Derived.Test.YthljdhfgphebnaaGreatFnExactStartTxP2
set_option linter.unusedSimpArgs false
set_option linter.unusedVariables false
set_option maxRecDepth 100000
set_option linter.unusedSimpArgs false
namespace Go.Proofs.YthljdhfgphebnaaGreat.V
open Go.ChangeShapes Go.WideShapes Go.ChangeAt Go.RowKit Mem Sl Sv Bag
open L5 (markT)
structure X_Tx where
 f_Id : Int
 f_Ops : List X_Op
 f_At : Int
 f_State : Int
 f_Backup : List L6.S6
structure Y_Tx where
 f_Id : Int
 f_Ops_a : Option Addr
 f_Ops_c : Nat
 f_Ops : List Y_Op
 f_At : Int
 f_State : Int
 f_Backup_a : Option Addr
 f_Backup_c : Nat
 f_Backup : List L6.LS
def co_Tx (z : Y_Tx) : X_Tx := ⟨z.f_Id, coS_Op z.f_Ops, z.f_At, z.f_State, coS_Store z.f_Backup⟩
def coS_Tx (xs : List Y_Tx) : List X_Tx := xs.map co_Tx
theorem coS_Tx_eq (xs : List Y_Tx) : coS_Tx xs = xs.map co_Tx := rfl
def cl_Tx (z : Y_Tx) : List Value := [.int .i64 z.f_Id, .slice z.f_Ops_a z.f_Ops.length z.f_Ops_c, .int .i64 z.f_At, .int .i64 z.f_State, .slice z.f_Backup_a z.f_Backup.length z.f_Backup_c]
def vv_Tx (z : Y_Tx) : Value := .agg #[.int .i64 z.f_Id, .slice z.f_Ops_a z.f_Ops.length z.f_Ops_c, .int .i64 z.f_At, .int .i64 z.f_State, .slice z.f_Backup_a z.f_Backup.length z.f_Backup_c]
def rw_Tx (z : Y_Tx) : List RowS := rs_Op z.f_Ops_a z.f_Ops_c z.f_Ops ++ (rs_Store z.f_Backup_a z.f_Backup_c z.f_Backup)
def wt_Tx (c : X_Tx) : Nat := wsum wt_Op c.f_Ops + (wsum wt_Store c.f_Backup)
theorem wt_Tx_parts (z : Y_Tx) : wt_Tx (co_Tx z) = wsum wt_Op (coS_Op z.f_Ops) + (wsum wt_Store (coS_Store z.f_Backup)) := rfl
theorem cl_Tx_len (z : Y_Tx) : (cl_Tx z).length = 5 := rfl
theorem cl_Tx_one (z : Y_Tx) : ∀ u ∈ cl_Tx z, u.oneCell' = true := by
 intro u hu
 unfold cl_Tx at hu
 rcases List.mem_cons.1 hu with rfl | hu
 ·
  rfl
 rcases List.mem_cons.1 hu with rfl | hu
 ·
  rfl
 rcases List.mem_cons.1 hu with rfl | hu
 ·
  rfl
 rcases List.mem_cons.1 hu with rfl | hu
 ·
  rfl
 rcases List.mem_cons.1 hu with rfl | hu
 ·
  rfl
 cases hu
def row_Tx (a : Option Addr) (c : Nat) (xs : List Y_Tx) : RowS := ⟨89, 5, a, c, xs.length, xs.flatMap cl_Tx⟩
def rws_Tx (xs : List Y_Tx) : List RowS := xs.flatMap rw_Tx
theorem rws_Tx_eq (xs : List Y_Tx) : rws_Tx xs = xs.flatMap rw_Tx := rfl
def rs_Tx (a : Option Addr) (c : Nat) (xs : List Y_Tx) : List RowS := row_Tx a c xs :: rws_Tx xs
theorem rws_Tx_app (xs ys : List Y_Tx) : rws_Tx (xs ++ ys) = rws_Tx xs ++ rws_Tx ys := by rw [rws_Tx_eq, rws_Tx_eq, rws_Tx_eq, List.flatMap_append]
def Wide_Tx (z : Y_Tx) : Prop := (-9223372036854775808 ≤ z.f_Id ∧ z.f_Id ≤ 9223372036854775807) ∧ (z.f_Ops.length ≤ maxLen ∧ ∀ x ∈ z.f_Ops, Wide_Op x) ∧ (-9223372036854775808 ≤ z.f_At ∧ z.f_At ≤ 9223372036854775807) ∧ (-9223372036854775808 ≤ z.f_State ∧ z.f_State ≤ 9223372036854775807) ∧ (z.f_Backup.length ≤ maxLen ∧ ∀ x ∈ z.f_Backup, Wide_Store x)
section
variable {H : Type} {enc : TypeId × Value → H} {W : World} {b : Nat} {sp : Nat → Bool} {hd : Bool}
theorem trod_Tx {fuel : Nat} {cs : List Value} {x : DataW H × List MemPlace} (h : DataW.trod enc Tryz.prog W b sp hd fuel 125 cs = some x) (hlt : ∀ p ∈ x.2, p.block < W.heap.size) : ∃ z : Y_Tx, cs = cl_Tx z ∧ RowsRd W W.heap.size (rw_Tx z) ∧ Wide_Tx z := by
 obtain ⟨xs, n, _, hx, hl, hlen, hf⟩ := DataW.trod_struct Tryz.underlying125 h
 have hlN : cs.length = 5 := hl.trans (by kernel_rfl)
 match cs, hlN with
 | [c0, c1, c2, c3, c4], _ =>
  have h0 : DataW.trod enc Tryz.prog W b sp hd n 3 (List.take (Tryz.prog.cellsOf 3) (List.drop 0 [c0, c1, c2, c3, c4])) = xs[0]? := hf 0 _ rfl
  rw [show Tryz.prog.cellsOf 3 = 1 by kernel_rfl, List.getElem?_eq_getElem (by rw [hlen]; decide)] at h0
  obtain ⟨x0, e0, _, w0⟩ := DataW.trod_int Tryz.underlying3 h0
  have h1 : DataW.trod enc Tryz.prog W b sp hd n 123 (List.take (Tryz.prog.cellsOf 123) (List.drop 1 [c0, c1, c2, c3, c4])) = xs[1]? := hf 1 _ rfl
  rw [show Tryz.prog.cellsOf 123 = 1 by kernel_rfl, List.getElem?_eq_getElem (by rw [hlen]; decide)] at h1
  obtain ⟨a1, x1, c1', e1, r1, v1, l1, w1⟩ := trods_Op h1 (fun p hp => hlt p (by rw [hx]; exact List.mem_flatMap.2 ⟨_, List.getElem_mem (show 1 < xs.length by rw [hlen]; decide), hp⟩))
  have h2 : DataW.trod enc Tryz.prog W b sp hd n 3 (List.take (Tryz.prog.cellsOf 3) (List.drop 2 [c0, c1, c2, c3, c4])) = xs[2]? := hf 2 _ rfl
  rw [show Tryz.prog.cellsOf 3 = 1 by kernel_rfl, List.getElem?_eq_getElem (by rw [hlen]; decide)] at h2
  obtain ⟨x2, e2, _, w2⟩ := DataW.trod_int Tryz.underlying3 h2
  have h3 : DataW.trod enc Tryz.prog W b sp hd n 3 (List.take (Tryz.prog.cellsOf 3) (List.drop 3 [c0, c1, c2, c3, c4])) = xs[3]? := hf 3 _ rfl
  rw [show Tryz.prog.cellsOf 3 = 1 by kernel_rfl, List.getElem?_eq_getElem (by rw [hlen]; decide)] at h3
  obtain ⟨x3, e3, _, w3⟩ := DataW.trod_int Tryz.underlying3 h3
  have h4 : DataW.trod enc Tryz.prog W b sp hd n 22 (List.take (Tryz.prog.cellsOf 22) (List.drop 4 [c0, c1, c2, c3, c4])) = xs[4]? := hf 4 _ rfl
  rw [show Tryz.prog.cellsOf 22 = 1 by kernel_rfl, List.getElem?_eq_getElem (by rw [hlen]; decide)] at h4
  obtain ⟨a4, x4, c4', e4, r4, v4, l4, w4⟩ := trods_Store h4 (fun p hp => hlt p (by rw [hx]; exact List.mem_flatMap.2 ⟨_, List.getElem_mem (show 4 < xs.length by rw [hlen]; decide), hp⟩))
  simp only [List.drop_succ_cons, List.drop_zero, List.take_succ_cons, List.take_zero, List.cons.injEq, and_true] at e0
  subst e0
  simp only [List.drop_succ_cons, List.drop_zero, List.take_succ_cons, List.take_zero, List.cons.injEq, and_true] at e1
  subst e1
  simp only [List.drop_succ_cons, List.drop_zero, List.take_succ_cons, List.take_zero, List.cons.injEq, and_true] at e2
  subst e2
  simp only [List.drop_succ_cons, List.drop_zero, List.take_succ_cons, List.take_zero, List.cons.injEq, and_true] at e3
  subst e3
  simp only [List.drop_succ_cons, List.drop_zero, List.take_succ_cons, List.take_zero, List.cons.injEq, and_true] at e4
  subst e4
  exact ⟨⟨x0, a1, c1', x1, x2, x3, a4, c4', x4⟩, rfl, rd_app (rd_cons ⟨r1.1, r1.2.1, r1.2.2⟩ (by rw [rws_Op_eq]; exact v1)) (rd_cons ⟨r4.1, r4.2.1, r4.2.2⟩ (by rw [rws_Store_eq]; exact v4)), ⟨Law.wf_i64 w0, ⟨l1, w1⟩, Law.wf_i64 w2, Law.wf_i64 w3, ⟨l4, w4⟩⟩⟩
theorem trods_Tx {fuel : Nat} {cs : List Value} {x : DataW H × List MemPlace} (h : DataW.trod enc Tryz.prog W b sp hd fuel 50 cs = some x) (hlt : ∀ p ∈ x.2, p.block < W.heap.size) :
  ∃ (a : Option Addr) (xs : List Y_Tx) (c : Nat), cs = [.slice a xs.length c] ∧ (Reads W W.heap.size a (xs.flatMap cl_Tx) ∧ xs.length ≤ c ∧ (a = none → c = 0)) ∧ RowsRd W W.heap.size (xs.flatMap rw_Tx) ∧ xs.length ≤ maxLen ∧ ∀ z ∈ xs, Wide_Tx z :=
 trods cl_Tx 5 cl_Tx_len (by decide) rw_Tx Wide_Tx 50 125 Tryz.underlying50 (by kernel_rfl) (fun h hl => trod_Tx h hl) h hlt
end
set_option maxHeartbeats 4000000 in
theorem to_Tx (z : Y_Tx) (hf : wt_Tx (co_Tx z) ≤ 1048576) (w : World) (hr : RowsRd w w.heap.size (rw_Tx z)) : Calls Tryz.prog 85 #[vv_Tx z] w fun e w' => ∃ y : Y_Tx, e = .returned (vv_Tx y) ∧ co_Tx y = co_Tx z ∧ BagOwn w' w.heap.size (rw_Tx y) ∧ Below w.heap.size w w' := by
 have hfp := hf
 rw [wt_Tx_parts] at hfp
 have HC1 := Lib.hid (fun w' (h : Below w.heap.size w w') => to_OpS z.f_Ops_a z.f_Ops_c z.f_Ops (by omega) w' (((rd_head (rd_left hr)).reads.below h).more h.size) (((rd_tail (rd_left hr)).below h).more h.size))
 have HC4 := Lib.hid (fun w' (h : Below w.heap.size w w') => to_StoreS z.f_Backup_a z.f_Backup_c z.f_Backup (by omega) w' (((rd_head (rd_right hr)).reads.below h).more h.size) (((rd_tail (rd_right hr)).below h).more h.size))
 clear hfp hf hr
 unfold vv_Tx
 have S1 := Lib.hid (show Sl.Sep w _ [_, _] from L4.push_box (L4.push_box (Sl.Sep.start w) 125 #[.int .i64 z.f_Id, .slice z.f_Ops_a z.f_Ops.length z.f_Ops_c, .int .i64 z.f_At, .int .i64 z.f_State, .slice z.f_Backup_a z.f_Backup.length z.f_Backup_c] (w.heap.size) (by simp)) 89 #[.int .i64 0, .slice none 0 0, .int .i64 0, .int .i64 0, .slice none 0 0] (w.heap.size + 1) (by simp))
 obtain ⟨wa, hwa⟩ : ∃ w_, w_ = ((w.alloc (.cells #[.int .i64 z.f_Id, .slice z.f_Ops_a z.f_Ops.length z.f_Ops_c, .int .i64 z.f_At, .int .i64 z.f_State, .slice z.f_Backup_a z.f_Backup.length z.f_Backup_c] 125)).alloc (.cells #[.int .i64 0, .slice none 0 0, .int .i64 0, .int .i64 0, .slice none 0 0] 89)) := ⟨_, rfl⟩
 rw [← hwa] at S1
 go_enter Tryz.func85, Tryz.ntmps85
 go_upto_region 1 with fail
 rw [← hwa]
 clear hwa
 go_upto_region 2 with fail
 have S2 := Lib.hid (show Sl.Sep w _ [_, _, _] from L4.push_box S1.out 89 #[.int .i64 0, .slice none 0 0, .int .i64 0, .int .i64 0, .slice none 0 0] wa.heap.size rfl)
 clear S1
 obtain ⟨g1, hg⟩ : ∃ g', g' = wa.heap.size := ⟨_, rfl⟩
 rw [← hg] at S2 ⊢
 clear hg
 generalize wa.alloc (.cells #[.int .i64 0, .slice none 0 0, .int .i64 0, .int .i64 0, .slice none 0 0] 89) = w1 at S2 ⊢
 obtain ⟨f0, f1, f2, f3, f4⟩ := Bag.cs5 S2.out 0 rfl
 obtain ⟨f5, f6, f7, f8, f9⟩ := Bag.cs5 S2.out 2 rfl
 have z0 := Bag.free_at S2.out 2 rfl 0
 go_upto_region 3 with fail
 clear f0 f1 f2 f3 f4 f5 f6 f7 f8 f9 z0
 have S3 := Lib.hid (show Sl.Sep w _ [_, _, L4.boxR g1 89 #[.int .i64 z.f_Id, .slice none 0 0, .int .i64 0, .int .i64 0, .slice none 0 0]] from L5.put_box5 (S2.out) 2 rfl 0 (.int .i64 z.f_Id))
 clear S2
 obtain ⟨f0, f1, f2, f3, f4⟩ := Bag.cs5 S3.out 0 rfl
 go_wp2_with fail
 go_at_call 122
 refine (HC1.out _ S3.out.old).mono ?_
 rintro e w2 ⟨a1', c1', y1, rfl, hc1, ho, hb⟩
 clear f0 f1 f2 f3 f4
 have S4 := Lib.hid (show Sl.Sep w _ [_, _, _, Bag.bag (rs_Op a1' c1' y1)] from Bag.push_bag S3.out hb ho)
 clear S3
 clear hb ho
 have HQ1 := Lib.hid hc1
 clear hc1
 obtain ⟨f0, f1, f2, f3, f4⟩ := Bag.cs5 S4.out 0 rfl
 obtain ⟨f5, f6, f7, f8, f9⟩ := Bag.cs5 S4.out 2 rfl
 have z1 := Bag.free_at S4.out 2 rfl 1
 go_upto_region 4 with fail
 clear f0 f1 f2 f3 f4 f5 f6 f7 f8 f9 z1
 have S5 := Lib.hid (show Sl.Sep w _ [_, _, L4.boxR g1 89 #[.int .i64 z.f_Id, .slice a1' y1.length c1', .int .i64 0, .int .i64 0, .slice none 0 0], _] from L5.put_box5 (S4.out) 2 rfl 1 (.slice a1' y1.length c1'))
 clear S4
 obtain ⟨f0, f1, f2, f3, f4⟩ := Bag.cs5 S5.out 0 rfl
 obtain ⟨f5, f6, f7, f8, f9⟩ := Bag.cs5 S5.out 2 rfl
 have z2 := Bag.free_at S5.out 2 rfl 2
 go_upto_region 5 with fail
 clear f0 f1 f2 f3 f4 f5 f6 f7 f8 f9 z2
 have S6 := Lib.hid (show Sl.Sep w _ [_, _, L4.boxR g1 89 #[.int .i64 z.f_Id, .slice a1' y1.length c1', .int .i64 z.f_At, .int .i64 0, .slice none 0 0], _] from L5.put_box5 (S5.out) 2 rfl 2 (.int .i64 z.f_At))
 clear S5
 obtain ⟨f0, f1, f2, f3, f4⟩ := Bag.cs5 S6.out 0 rfl
 obtain ⟨f5, f6, f7, f8, f9⟩ := Bag.cs5 S6.out 2 rfl
 have z3 := Bag.free_at S6.out 2 rfl 3
 go_upto_region 6 with fail
 clear f0 f1 f2 f3 f4 f5 f6 f7 f8 f9 z3
 have S7 := Lib.hid (show Sl.Sep w _ [_, _, L4.boxR g1 89 #[.int .i64 z.f_Id, .slice a1' y1.length c1', .int .i64 z.f_At, .int .i64 z.f_State, .slice none 0 0], _] from L5.put_box5 (S6.out) 2 rfl 3 (.int .i64 z.f_State))
 clear S6
 obtain ⟨f0, f1, f2, f3, f4⟩ := Bag.cs5 S7.out 0 rfl
 go_wp2_with fail
 go_at_call 35
 refine (HC4.out _ S7.out.old).mono ?_
 rintro e w3 ⟨a4', c4', y4, rfl, hc4, ho, hb⟩
 clear f0 f1 f2 f3 f4
 have S8 := Lib.hid (show Sl.Sep w _ [_, _, _, _, Bag.bag (rs_Store a4' c4' y4)] from Bag.push_bag S7.out hb ho)
 clear S7
 clear hb ho
 have HQ4 := Lib.hid hc4
 clear hc4
 obtain ⟨f0, f1, f2, f3, f4⟩ := Bag.cs5 S8.out 0 rfl
 obtain ⟨f5, f6, f7, f8, f9⟩ := Bag.cs5 S8.out 2 rfl
 have z4 := Bag.free_at S8.out 2 rfl 4
 go_upto_region 7 with fail
 clear f0 f1 f2 f3 f4 f5 f6 f7 f8 f9 z4
 have S9 := Lib.hid (show Sl.Sep w _ [_, _, L4.boxR g1 89 #[.int .i64 z.f_Id, .slice a1' y1.length c1', .int .i64 z.f_At, .int .i64 z.f_State, .slice a4' y4.length c4'], _, _] from L5.put_box5 (S8.out) 2 rfl 4 (.slice a4' y4.length c4'))
 clear S8
 obtain ⟨f0, f1, f2, f3, f4⟩ := Bag.cs5 S9.out 1 rfl
 obtain ⟨f5, f6, f7, f8, f9⟩ := Bag.cs5 S9.out 2 rfl
 obtain ⟨z0, z1, z2, z3, z4⟩ := Bag.fs5 S9.out 1 rfl
 go_wp2_with fail
 clear f0 f1 f2 f3 f4 f5 f6 f7 f8 f9 z0 z1 z2 z3 z4
 have S10 := Lib.hid (show Sl.Sep w _ [_, L4.boxR (w.heap.size + 1) 89 #[.int .i64 z.f_Id, .slice a1' y1.length c1', .int .i64 z.f_At, .int .i64 z.f_State, .slice none 0 0], _, _, _] from L5.put_box5 (L5.put_box5 (L5.put_box5 (L5.put_box5 (S9.out) 1 rfl 0 (.int .i64 z.f_Id)) 1 rfl 1 (.slice a1' y1.length c1')) 1 rfl 2 (.int .i64 z.f_At)) 1 rfl 3 (.int .i64 z.f_State))
 clear S9
 have S11 := Lib.hid (show Sl.Sep w _ [_, L4.boxR (w.heap.size + 1) 89 #[.int .i64 z.f_Id, .slice a1' y1.length c1', .int .i64 z.f_At, .int .i64 z.f_State, .slice a4' y4.length c4'], _, _, _] from L5.put_box5 (S10.out) 1 rfl 4 (.slice a4' y4.length c4'))
 clear S10
 obtain ⟨f0, f1, f2, f3, f4⟩ := Bag.cs5 S11.out 1 rfl
 refine bodyPost_ret (v := .agg #[.int .i64 z.f_Id, .slice a1' y1.length c1', .int .i64 z.f_At, .int .i64 z.f_State, .slice a4' y4.length c4']) (by simp [results, Tryz.results85, go_sem, *]) rfl ?_
 clear f0 f1 f2 f3 f4
 have S12 := Lib.hid (show Sl.Sep w _ [_, _, _, Bag.bag ((rs_Op a1' c1' y1) ++ (rs_Store a4' c4' y4)), Bag.bag ([])] from Bag.bag_join S11.out 3 4 (by decide) rfl rfl)
 clear S11
 refine ⟨⟨z.f_Id, a1', c1', y1, z.f_At, z.f_State, a4', c4', y4⟩, rfl, ?_, Bag.bag_from S12.out 3 rfl, S12.out.old⟩
 show (⟨z.f_Id, coS_Op y1, z.f_At, z.f_State, coS_Store y4⟩ : X_Tx) = (⟨z.f_Id, coS_Op z.f_Ops, z.f_At, z.f_State, coS_Store z.f_Backup⟩ : X_Tx)
 rw [HQ1.out, HQ4.out]
theorem info_Tx : ∃ i, Tryz.prog.info? 89 = some i ∧ i.zero = some (.agg #[.int .i64 0, .slice none 0 0, .int .i64 0, .int .i64 0, .slice none 0 0]) ∧ i.size = 5 ∧ i.bytes = 72 := Ex.infoOf _ _ _ _ (by kernel_rfl)
set_option maxHeartbeats 4000000 in
theorem to_TxS (a : Option Addr) (c : Nat) (xs : List Y_Tx) (hf : wsum wt_Tx (coS_Tx xs) ≤ 1048576) (w : World) (hr : Reads w w.heap.size a (xs.flatMap cl_Tx)) (hx : RowsRd w w.heap.size (rws_Tx xs)) :
  Calls Tryz.prog 54 #[.slice a xs.length c] w fun e w' => ∃ a' c' ys, e = .returned (.slice a' ys.length c') ∧ coS_Tx ys = coS_Tx xs ∧ BagOwn w' w.heap.size (rs_Tx a' c' ys) ∧ Below w.heap.size w w' := by
 obtain ⟨i0, hi1, hi2, hi3, hi4⟩ := info_Tx
 have HI := Lib.hid (And.intro hi1 (And.intro hi2 (And.intro hi3 hi4)))
 clear hi1 hi2 hi3 hi4
 rw [coS_Tx_eq] at hf
 have HR := Lib.hid (fun w' (h : Below w.heap.size w w') => hr.below h)
 have HX := Lib.hid (fun w' (h : Below w.heap.size w w') => (hx.below h).more h.size)
 have HF := Lib.hid hf
 have hl : xs.length ≤ 1048576 := by have := wsum_len wt_Tx (xs.map co_Tx); rw [List.length_map] at this; omega
 obtain ⟨N, hN⟩ : ∃ n, n = xs.length := ⟨_, rfl⟩
 rw [← hN] at hl ⊢
 have hl' : (N : Int) ≤ 1048576 := by omega
 have HN := Lib.hid hN
 clear hN hr hx hf
 obtain ⟨Z, hZ⟩ : ∃ Z, Z = (madeCells (Value.agg #[.int .i64 0, .slice none 0 0, .int .i64 0, .int .i64 0, .slice none 0 0]).cells (N * 5)).toList := ⟨_, rfl⟩
 have HZ := Lib.hid (show Z.length = N * 5 by rw [hZ]; simp [madeCells])
 have HZD := Lib.hid hZ
 clear hZ
 have S1 := Lib.hid (show Sl.Sep w w [] from Sl.Sep.start w)
 go_enter Tryz.func54, Tryz.ntmps54
 go_upto_region 2 with (at_make; refine Run.wpList_make_s S1.out rfl _ _ 54 rfl 89 i0 (.agg #[.int .i64 0, .slice none 0 0, .int .i64 0, .int .i64 0, .slice none 0 0]) 5 Tryz.underlying54 HI.out.1 HI.out.2.1 HI.out.2.2.1 _ _ N rfl rfl (by rw [HI.out.2.2.2]; omega) (by unfold maxLen; omega) ?_; intro w1 S')
 obtain ⟨g1, hg⟩ : ∃ g', g' = w.heap.size := ⟨_, rfl⟩
 rw [← hg] at S' ⊢
 clear hg
 have S2 := Lib.hid (show Sl.Sep w _ [Sv.ownV 89 5 (some ⟨g1, 0, none⟩) N N (([] : List Y_Tx).flatMap cl_Tx ++ Z)] from (by have h := S'; rw [← HZD.out] at h; exact h))
 clear S1
 clear S'
 have S3 := Lib.hid (show Sl.Sep w _ [_, Bag.bag (rws_Tx [])] from Bag.push_bag S2.out (Below.refl _ _) (by rw [rws_Tx_eq]; exact Bag.BagOwn.nil _ _))
 clear S2
 go_wp2_with fail
 go_loopw [4] (fun i wr => ∃ (k : Nat) (ys : List Y_Tx) (Zs : List Value), k ≤ N ∧ i = .int .i64 k ∧ Hid ((ys.map co_Tx = (xs.take k).map co_Tx ∧ ys.length = k ∧ Zs.length = (N - k) * 5) ∧ Sl.Sep w wr [Sv.ownV 89 5 (some ⟨g1, 0, none⟩) N N (ys.flatMap cl_Tx ++ Zs), Bag.bag (rws_Tx ys)])) (fun i _ => N - (intOf i).toNat)
 case atStart => exact ⟨0, [], Z, Nat.zero_le _, rfl, And.intro ⟨rfl, rfl, HZ.out⟩ S3.out⟩
 case round =>
  obtain ⟨k, ys, Zs, hk, rfl, hrel⟩ := hrel
  have HC := Lib.hid hrel.out.1
  have S4 := Lib.hid hrel.out.2
  clear hrel S3
  by_cases hlt : (k : Int) < (N : Int)
  ·
   skip
   have hkl : k < xs.length := by have := HN.out; omega
   obtain ⟨x, hx⟩ : ∃ x, xs[k]? = some x := ⟨_, List.getElem?_eq_getElem hkl⟩
   obtain ⟨ad, e'⟩ := el_some cl_Tx_len (by decide) (HR.out _ S4.out.old) hkl
   subst e'
   have HK := Lib.hid (fun w' (h : Below w.heap.size w w') => el5 cl_Tx_len (HR.out _ h) hx rfl)
   have HTX := Lib.hid (take_next hx)
   have HL := Lib.hid (show (ys.flatMap cl_Tx).length = k * 5 ∧ k * 5 + 5 ≤ (ys.flatMap cl_Tx ++ Zs).length ∧ 5 ≤ Zs.length from by have h1 := HC.out.2.1; have h2 := HC.out.2.2; rw [List.length_append, flat_len cl_Tx_len, h1, h2]; omega)
   have HCI := Lib.hid (fun w' (h : Below w.heap.size w w') => to_Tx x (by have h1 := wsum_mem (f := wt_Tx) (List.mem_map.2 ⟨x, List.mem_of_getElem? hx, rfl⟩ : co_Tx x ∈ xs.map co_Tx); have h2 := HF.out; omega) w' (rd_el (rw_ := rw_Tx) (by rw [← rws_Tx_eq]; exact HX.out w' h) hx))
   dsimp only [vv_Tx] at HCI
   clear hx
   obtain ⟨f0, f1, f2, f3, f4⟩ := HK.out _ S4.out.old
   go_wp2_with fail
   go_at_call 85
   refine (HCI.out _ S4.out.old).mono ?_
   rintro e w2 ⟨y, rfl, hcy, ho, hb⟩
   clear f0 f1 f2 f3 f4
   have S5 := Lib.hid (show Sl.Sep w _ [Sv.ownV 89 5 (some ⟨g1, 0, none⟩) N N (ys.flatMap cl_Tx ++ Zs), Bag.bag (rws_Tx ys), Bag.bag (rw_Tx y)] from Bag.push_bag S4.out hb ho)
   clear S4
   clear hb ho
   have HCY := Lib.hid hcy
   clear hcy
   try dsimp only [vv_Tx]
   have q0 := (Sv.own_at S5.out 0 rfl).cell (k * 5) (by have := HL.out.2.1; omega)
   have z0 := (Sv.own_at S5.out 0 rfl).free (k * 5)
   have q1 := (Sv.own_at S5.out 0 rfl).cell (k * 5 + 1) (by have := HL.out.2.1; omega)
   have z1 := (Sv.own_at S5.out 0 rfl).free (k * 5 + 1)
   have q2 := (Sv.own_at S5.out 0 rfl).cell (k * 5 + 2) (by have := HL.out.2.1; omega)
   have z2 := (Sv.own_at S5.out 0 rfl).free (k * 5 + 2)
   have q3 := (Sv.own_at S5.out 0 rfl).cell (k * 5 + 3) (by have := HL.out.2.1; omega)
   have z3 := (Sv.own_at S5.out 0 rfl).free (k * 5 + 3)
   have q4 := (Sv.own_at S5.out 0 rfl).cell (k * 5 + 4) (by have := HL.out.2.1; omega)
   have z4 := (Sv.own_at S5.out 0 rfl).free (k * 5 + 4)
   go_wp2_with fail
   clear q0 z0 q1 z1 q2 z2 q3 z3 q4 z4
   have S6 := Lib.hid (show Sl.Sep w (World.setCells w2 g1 (k * 5) [.int .i64 y.f_Id, .slice y.f_Ops_a y.f_Ops.length y.f_Ops_c, .int .i64 y.f_At, .int .i64 y.f_State, .slice y.f_Backup_a y.f_Backup.length y.f_Backup_c]) [Sv.ownV 89 5 (some ⟨g1, 0, none⟩) N N ((ys ++ [y]).flatMap cl_Tx ++ Zs.drop 5), Bag.bag (rws_Tx ys), Bag.bag (rw_Tx y)] from (by have h := Run.put_run S5.out 0 rfl (k * 5) [.int .i64 y.f_Id, .slice y.f_Ops_a y.f_Ops.length y.f_Ops_c, .int .i64 y.f_At, .int .i64 y.f_State, .slice y.f_Backup_a y.f_Backup.length y.f_Backup_c] (by have := HL.out.2.1; simpa using this); rw [Run.over_at _ _ _ _ HL.out.1 (by have := HL.out.2.2; simpa using this)] at h; rw [List.flatMap_append, List.append_assoc]; exact h))
   clear S5
   have S7 := Lib.hid (show Sl.Sep w _ [Sv.ownV 89 5 (some ⟨g1, 0, none⟩) N N ((ys ++ [y]).flatMap cl_Tx ++ Zs.drop 5), Bag.bag (rws_Tx ys ++ (rw_Tx y)), Bag.bag ([])] from Bag.bag_join S6.out 1 2 (by decide) rfl rfl)
   clear S6
   have S8 := Lib.hid (show Sl.Sep w _ [_, _] from Bag.take S7.out [0, 1] (by rfl) (by decide))
   clear S7
   go_roundw
   case rel =>
    refine ⟨k + 1, ys ++ [y], Zs.drop 5, by omega, by go_num, And.intro ⟨?_, ?_, ?_⟩ ?_⟩
    ·
     rw [HTX.out, List.map_append, List.map_append, HC.out.1]; rw [show [y].map co_Tx = [x].map co_Tx from congrArg (fun u => [u]) HCY.out]
    ·
     rw [List.length_append, HC.out.2.1]; rfl
    ·
     rw [List.length_drop, HC.out.2.2]; omega
    ·
     rw [rws_Tx_app]; rw [show rws_Tx [y] = rw_Tx y from by rw [rws_Tx_eq]; simp]; exact S8.out
   case measure => simp [intOf]; omega
  ·
   skip
   obtain rfl : k = N := by omega
   go_wp2_with fail
   go_ret
   obtain ⟨hc1, hc2, hc3⟩ := HC.out
   have hZs : Zs = [] := List.eq_nil_of_length_eq_zero (by rw [hc3]; omega)
   have hcon : ys.map co_Tx = xs.map co_Tx := by rw [hc1, List.take_of_length_le (by have := HN.out; omega)]
   have S90 := Lib.hid (Bag.bag_of_one S4.out 0 (r := row_Tx (some ⟨g1, 0, none⟩) k ys) (by unfold RowS.res row_Tx; dsimp only; rw [hZs, List.append_nil, hc2]; rfl))
   have S91 := Lib.hid (Bag.bag_join S90.out 0 1 (by decide) rfl rfl)
   have hb := Bag.bag_from S91.out 0 rfl
   subst hc2
   exact ⟨_, _, ys, rfl, by rw [coS_Tx_eq, coS_Tx_eq]; exact hcon, hb, S91.out.old⟩
set_option maxHeartbeats 4000000 in
theorem sz_Tx (z : Y_Tx) (q : Int) (hw : Wide_Tx z) (hq0 : -1 ≤ q) (hq1 : q ≤ 1048576) (w : World) (hr : RowsRd w w.heap.size (rw_Tx z)) : Calls Tryz.prog 80 #[vv_Tx z, .int .i64 q] w fun e w' => e = .returned (.int .i64 (lft q (wt_Tx (co_Tx z)))) ∧ Below w.heap.size w w' := by
 have HS1 := Lib.hid (fun (m : Int) (h0 : -1 ≤ m) (h1 : m ≤ 1048576) w' (h : Below w.heap.size w w') => sz_OpS z.f_Ops_a z.f_Ops_c z.f_Ops m hw.2.1.2 hw.2.1.1 h0 h1 w' (((rd_head (rd_left hr)).reads.below h).more h.size) (((rd_tail (rd_left hr)).below h).more h.size))
 have HS4 := Lib.hid (fun (m : Int) (h0 : -1 ≤ m) (h1 : m ≤ 1048576) w' (h : Below w.heap.size w w') => sz_StoreS z.f_Backup_a z.f_Backup_c z.f_Backup m hw.2.2.2.2.2 hw.2.2.2.2.1 h0 h1 w' (((rd_head (rd_right hr)).reads.below h).more h.size) (((rd_tail (rd_right hr)).below h).more h.size))
 have HW := Lib.hid (wt_Tx_parts z)
 clear hw hr
 unfold vv_Tx
 have S1 := Lib.hid (show Sl.Sep w _ [_] from L4.push_box (Sl.Sep.start w) 125 #[.int .i64 z.f_Id, .slice z.f_Ops_a z.f_Ops.length z.f_Ops_c, .int .i64 z.f_At, .int .i64 z.f_State, .slice z.f_Backup_a z.f_Backup.length z.f_Backup_c] (w.heap.size) (by simp))
 obtain ⟨wa, hwa⟩ : ∃ w_, w_ = (w.alloc (.cells #[.int .i64 z.f_Id, .slice z.f_Ops_a z.f_Ops.length z.f_Ops_c, .int .i64 z.f_At, .int .i64 z.f_State, .slice z.f_Backup_a z.f_Backup.length z.f_Backup_c] 125)) := ⟨_, rfl⟩
 rw [← hwa] at S1
 go_enter Tryz.func80, Tryz.ntmps80
 go_upto_region 1 with fail
 rw [← hwa]
 clear hwa
 obtain ⟨f0, f1, f2, f3, f4⟩ := Bag.cs5 S1.out 0 rfl
 obtain ⟨u1, hu⟩ : ∃ u, lft q (wsum wt_Op (coS_Op z.f_Ops)) = u := ⟨_, rfl⟩
 have hc1 := lft_cases hu
 have hr1 := lft_range (q := q) (wsum wt_Op (coS_Op z.f_Ops)) (by omega)
 rw [hu] at hr1
 have HCU := HS1.out q (by omega) (by omega)
 simp only [hu] at HCU
 replace HCU := Lib.hid HCU
 clear hu
 go_wp2_with fail
 go_at_call 119
 refine (HCU.out _ S1.out.old).mono ?_
 rintro e w1 ⟨rfl, hb⟩
 clear f0 f1 f2 f3 f4
 have S2 := Lib.hid (S1.out.keep hb)
 clear S1
 clear hb
 obtain ⟨f0, f1, f2, f3, f4⟩ := Bag.cs5 S2.out 0 rfl
 clear HCU
 by_cases hn1 : u1 < 0
 ·
  have hm1 : u1 = -1 := by omega
  subst hm1
  go_wp2_with fail
  go_ret
  exact ⟨by rw [HW.out, lft_neg (by omega)] <;> rfl, S2.out.old⟩
 ·
  skip
  obtain ⟨u4, hu⟩ : ∃ u, lft u1 (wsum wt_Store (coS_Store z.f_Backup)) = u := ⟨_, rfl⟩
  have hc4 := lft_cases hu
  have hr4 := lft_range (q := u1) (wsum wt_Store (coS_Store z.f_Backup)) (by omega)
  rw [hu] at hr4
  have HCU := HS4.out u1 (by omega) (by omega)
  simp only [hu] at HCU
  replace HCU := Lib.hid HCU
  clear hu
  go_wp2_with fail
  go_at_call 28
  refine (HCU.out _ S2.out.old).mono ?_
  rintro e w2 ⟨rfl, hb⟩
  clear f0 f1 f2 f3 f4
  have S3 := Lib.hid (S2.out.keep hb)
  clear S2
  clear hb
  obtain ⟨f0, f1, f2, f3, f4⟩ := Bag.cs5 S3.out 0 rfl
  clear HCU
  by_cases hn4 : u4 < 0
  ·
   have hm1 : u4 = -1 := by omega
   subst hm1
   go_wp2_with fail
   go_ret
   exact ⟨by rw [HW.out, lft_neg (by omega)] <;> rfl, S3.out.old⟩
  ·
   skip
   go_wp2_with fail
   go_ret
   exact ⟨by rw [HW.out, lft_pos (by omega)] <;> first | rfl | (refine congrArg (fun i => Ending.returned (.int .i64 i)) ?_; omega), S3.out.old⟩
set_option maxHeartbeats 4000000 in
theorem sz_TxS (a : Option Addr) (c : Nat) (xs : List Y_Tx) (q : Int) (hw : ∀ x ∈ xs, Wide_Tx x) (hm : xs.length ≤ maxLen) (hq0 : -1 ≤ q) (hq1 : q ≤ 1048576) (w : World) (hr : Reads w w.heap.size a (xs.flatMap cl_Tx)) (hx : RowsRd w w.heap.size (rws_Tx xs)) :
  Calls Tryz.prog 49 #[.slice a xs.length c, .int .i64 q] w fun e w' => e = .returned (.int .i64 (lft q (wsum wt_Tx (coS_Tx xs)))) ∧ Below w.heap.size w w' := by
 have HR := Lib.hid (fun w' (h : Below w.heap.size w w') => hr.below h)
 have HX := Lib.hid (fun w' (h : Below w.heap.size w w') => (hx.below h).more h.size)
 have HWD := Lib.hid hw
 have HW := Lib.hid (show wsum wt_Tx (coS_Tx xs) = xs.length + fsum (fun x => wt_Tx (co_Tx x)) xs from by rw [coS_Tx_eq, wsum_map])
 obtain ⟨N, hN⟩ : ∃ n, n = xs.length := ⟨_, rfl⟩
 rw [← hN] at hm HW ⊢
 have HN := Lib.hid hN
 have hm' : (N : Int) ≤ 9223372036854775807 := by unfold maxLen at hm; omega
 clear hN hr hx hw hm
 have S1 := Lib.hid (show Sl.Sep w w [] from Sl.Sep.start w)
 by_cases hneg : q - (N : Int) < 0
 ·
  skip
  go_enter Tryz.func49, Tryz.ntmps49
  go_wp2_with fail
  go_ret
  exact ⟨by rw [HW.out, lft_neg (by omega)] <;> rfl, Below.refl _ _⟩
 ·
  skip
  go_enter Tryz.func49, Tryz.ntmps49
  go_wp2_with fail
  go_loopw [1, 5] (fun lv i wr => ∃ (k : Nat) (m : Int), k ≤ N ∧ i = .int .i64 k ∧ lv = .int .i64 m ∧ 0 ≤ m ∧ m ≤ 1048576 ∧ Hid (m = q - N - (fsum (fun x => wt_Tx (co_Tx x)) (xs.take k) : Int) ∧ Sl.Sep w wr [])) (fun _ i _ => N - (intOf i).toNat)
  case atStart => exact ⟨0, q - N, Nat.zero_le _, rfl, rfl, by omega, by omega, And.intro (by rw [List.take_zero, fsum_nil]; omega) S1.out⟩
  case round =>
   obtain ⟨k, m, hk, rfl, rfl, hm0, hm1, hrel⟩ := hrel
   have HA := Lib.hid hrel.out.1
   have S2 := Lib.hid hrel.out.2
   clear hrel S1
   by_cases hlt : (k : Int) < (N : Int)
   ·
    skip
    have hkl : k < xs.length := by have := HN.out; omega
    obtain ⟨x, hx⟩ : ∃ x, xs[k]? = some x := ⟨_, List.getElem?_eq_getElem hkl⟩
    obtain ⟨ad, e'⟩ := el_some cl_Tx_len (by decide) (HR.out _ S2.out.old) (List.getElem?_eq_some_iff.1 hx).1
    subst e'
    have HK := Lib.hid (fun w' (h : Below w.heap.size w w') => el5 cl_Tx_len (HR.out _ h) hx rfl)
    have HAT := Lib.hid (fsum_at (f := (fun x => wt_Tx (co_Tx x))) hx)
    have HTK := Lib.hid (fsum_take (f := (fun x => wt_Tx (co_Tx x))) hx)
    try dsimp only at HAT HTK
    obtain ⟨fx, hfx⟩ : ∃ u, wt_Tx (co_Tx x) = u := ⟨_, rfl⟩
    rw [hfx] at HAT HTK
    obtain ⟨u, hu⟩ : ∃ u, lft m fx = u := ⟨_, rfl⟩
    have hcu := lft_cases hu
    have hru := lft_range (q := m) fx (by omega)
    rw [hu] at hru
    have HSI := fun w' (h : Below w.heap.size w w') => sz_Tx x m (HWD.out x (List.mem_of_getElem? hx)) (by omega) hm1 w' (rd_el (rw_ := rw_Tx) (by rw [← rws_Tx_eq]; exact HX.out w' h) hx)
    rw [hfx, hu] at HSI
    dsimp only [vv_Tx] at HSI
    replace HSI := Lib.hid HSI
    clear hfx hu hx
    obtain ⟨f0, f1, f2, f3, f4⟩ := HK.out _ S2.out.old
    go_wp2_with fail
    go_at_call 80
    refine (HSI.out _ S2.out.old).mono ?_
    rintro e w1 ⟨rfl, hb⟩
    clear f0 f1 f2 f3 f4
    have S3 := Lib.hid (S2.out.keep hb)
    clear S2
    clear hb
    by_cases h0 : u < 0
    ·
     have hm1' : u = -1 := by omega
     subst hm1'
     go_wp2_with fail
     go_ret
     exact ⟨by rw [HW.out, lft_neg (by have := HA.out; have := HAT.out; omega)] <;> rfl, S3.out.old⟩
    ·
     skip
     go_wp2_with fail
     go_roundw
     case rel => exact ⟨k + 1, u, by omega, by go_num, rfl, by omega, by omega, And.intro (by rw [HTK.out]; have := HA.out; omega) S3.out⟩
     case measure => simp [intOf]; omega
   ·
    skip
    obtain rfl : k = N := by omega
    have HT := HA.out
    rw [List.take_of_length_le (Nat.le_of_eq HN.out.symm)] at HT
    go_wp2_with fail
    go_ret
    exact ⟨by rw [HW.out, lft_pos (by omega)] <;> first | rfl | (refine congrArg (fun i => Ending.returned (.int .i64 i)) ?_; omega), S2.out.old⟩
set_option maxHeartbeats 4000000 in
theorem eq_Tx (y z : Y_Tx) (hc : co_Tx y = co_Tx z) (hf : wt_Tx (co_Tx y) ≤ 1125899906842624) (w : World) (hr : RowsRd w w.heap.size (rw_Tx y)) (hr2 : RowsRd w w.heap.size (rw_Tx z)) : Calls Tryz.prog 90 #[vv_Tx y, vv_Tx z] w fun e w' => e = .returned (.bool true) ∧ Below w.heap.size w w' := by
 have hfp := hf
 rw [wt_Tx_parts] at hfp
 have ee0 : z.f_Id = y.f_Id := (show y.f_Id = z.f_Id from congrArg X_Tx.f_Id (hc)).symm
 have ee1 : z.f_Ops.length = y.f_Ops.length := (by have h := congrArg List.length (show coS_Op y.f_Ops = coS_Op z.f_Ops from congrArg X_Tx.f_Ops (hc)); rw [coS_Op_eq, coS_Op_eq, List.length_map, List.length_map] at h; exact h.symm)
 have ee2 : z.f_At = y.f_At := (show y.f_At = z.f_At from congrArg X_Tx.f_At (hc)).symm
 have ee3 : z.f_State = y.f_State := (show y.f_State = z.f_State from congrArg X_Tx.f_State (hc)).symm
 have ee4 : z.f_Backup.length = y.f_Backup.length := (by have h := congrArg List.length (show coS_Store y.f_Backup = coS_Store z.f_Backup from congrArg X_Tx.f_Backup (hc)); rw [coS_Store_eq, coS_Store_eq, List.length_map, List.length_map] at h; exact h.symm)
 have HE1 := Lib.hid (fun w' (h : Below w.heap.size w w') => eq_OpS y.f_Ops_a z.f_Ops_a y.f_Ops_c z.f_Ops_c y.f_Ops z.f_Ops (congrArg X_Tx.f_Ops hc) (by omega) w' (((rd_head (rd_left hr)).reads.below h).more h.size) (((rd_tail (rd_left hr)).below h).more h.size) (((rd_head (rd_left hr2)).reads.below h).more h.size) (((rd_tail (rd_left hr2)).below h).more h.size))
 simp only [ee0, ee1, ee2, ee3, ee4] at HE1
 have HE4 := Lib.hid (fun w' (h : Below w.heap.size w w') => eq_StoreS y.f_Backup_a z.f_Backup_a y.f_Backup_c z.f_Backup_c y.f_Backup z.f_Backup (congrArg X_Tx.f_Backup hc) (by omega) w' (((rd_head (rd_right hr)).reads.below h).more h.size) (((rd_tail (rd_right hr)).below h).more h.size) (((rd_head (rd_right hr2)).reads.below h).more h.size) (((rd_tail (rd_right hr2)).below h).more h.size))
 simp only [ee0, ee1, ee2, ee3, ee4] at HE4
 have hv : vv_Tx z = .agg #[.int .i64 y.f_Id, .slice z.f_Ops_a y.f_Ops.length z.f_Ops_c, .int .i64 y.f_At, .int .i64 y.f_State, .slice z.f_Backup_a y.f_Backup.length z.f_Backup_c] := by unfold vv_Tx; simp only [ee0, ee1, ee2, ee3, ee4]
 rw [hv]
 clear hv hfp hf hc hr hr2 ee0 ee1 ee2 ee3 ee4
 unfold vv_Tx
 have S1 := Lib.hid (show Sl.Sep w _ [_, _] from L4.push_box (L4.push_box (Sl.Sep.start w) 89 #[.int .i64 y.f_Id, .slice y.f_Ops_a y.f_Ops.length y.f_Ops_c, .int .i64 y.f_At, .int .i64 y.f_State, .slice y.f_Backup_a y.f_Backup.length y.f_Backup_c] (w.heap.size) (by simp)) 89 #[.int .i64 y.f_Id, .slice z.f_Ops_a y.f_Ops.length z.f_Ops_c, .int .i64 y.f_At, .int .i64 y.f_State, .slice z.f_Backup_a y.f_Backup.length z.f_Backup_c] (w.heap.size + 1) (by simp))
 obtain ⟨wa, hwa⟩ : ∃ w_, w_ = ((w.alloc (.cells #[.int .i64 y.f_Id, .slice y.f_Ops_a y.f_Ops.length y.f_Ops_c, .int .i64 y.f_At, .int .i64 y.f_State, .slice y.f_Backup_a y.f_Backup.length y.f_Backup_c] 89)).alloc (.cells #[.int .i64 y.f_Id, .slice z.f_Ops_a y.f_Ops.length z.f_Ops_c, .int .i64 y.f_At, .int .i64 y.f_State, .slice z.f_Backup_a y.f_Backup.length z.f_Backup_c] 89)) := ⟨_, rfl⟩
 rw [← hwa] at S1
 go_enter Tryz.func90, Tryz.ntmps90
 go_upto_region 1 with fail
 rw [← hwa]
 clear hwa
 obtain ⟨f0, f1, f2, f3, f4⟩ := Bag.cs5 S1.out 0 rfl
 obtain ⟨f5, f6, f7, f8, f9⟩ := Bag.cs5 S1.out 1 rfl
 go_wp2_with fail
 go_at_call 131
 refine (HE1.out _ S1.out.old).mono ?_
 rintro e w1 ⟨rfl, hb⟩
 clear f0 f1 f2 f3 f4 f5 f6 f7 f8 f9
 have S2 := Lib.hid (S1.out.keep hb)
 clear S1
 clear hb
 obtain ⟨f0, f1, f2, f3, f4⟩ := Bag.cs5 S2.out 0 rfl
 obtain ⟨f5, f6, f7, f8, f9⟩ := Bag.cs5 S2.out 1 rfl
 go_wp2_with fail
 go_at_call 40
 refine (HE4.out _ S2.out.old).mono ?_
 rintro e w2 ⟨rfl, hb⟩
 clear f0 f1 f2 f3 f4 f5 f6 f7 f8 f9
 have S3 := Lib.hid (S2.out.keep hb)
 clear S2
 clear hb
 obtain ⟨f0, f1, f2, f3, f4⟩ := Bag.cs5 S3.out 0 rfl
 obtain ⟨f5, f6, f7, f8, f9⟩ := Bag.cs5 S3.out 1 rfl
 go_wp2_with fail
 go_ret
 exact ⟨rfl, S3.out.old⟩
set_option maxHeartbeats 4000000 in
theorem eq_TxS (a a2 : Option Addr) (c c2 : Nat) (xs xs2 : List Y_Tx) (hc : coS_Tx xs = coS_Tx xs2) (hf : wsum wt_Tx (coS_Tx xs) ≤ 1125899906842624) (w : World) (hr : Reads w w.heap.size a (xs.flatMap cl_Tx)) (hx : RowsRd w w.heap.size (rws_Tx xs)) (hr2 : Reads w w.heap.size a2 (xs2.flatMap cl_Tx)) (hx2 : RowsRd w w.heap.size (rws_Tx xs2)) :
  Calls Tryz.prog 57 #[.slice a xs.length c, .slice a2 xs2.length c2] w fun e w' => e = .returned (.bool true) ∧ Below w.heap.size w w' := by
 have hlen : xs2.length = xs.length := by have h := congrArg List.length hc; rw [coS_Tx_eq, coS_Tx_eq, List.length_map, List.length_map] at h; exact h.symm
 have hl : xs.length ≤ 1125899906842624 := by have := wsum_len wt_Tx (coS_Tx xs); rw [coS_Tx_eq, List.length_map] at this; rw [coS_Tx_eq] at hf; omega
 have HR := Lib.hid (fun w' (h : Below w.heap.size w w') => hr.below h)
 have HR2 := Lib.hid (fun w' (h : Below w.heap.size w w') => hr2.below h)
 have HX := Lib.hid (fun w' (h : Below w.heap.size w w') => (hx.below h).more h.size)
 have HX2 := Lib.hid (fun w' (h : Below w.heap.size w w') => (hx2.below h).more h.size)
 rw [coS_Tx_eq] at hf
 have HF := Lib.hid hf
 have HS := Lib.hid (show xs.map co_Tx = xs2.map co_Tx from by rw [← coS_Tx_eq, ← coS_Tx_eq]; exact hc)
 obtain ⟨N, hN⟩ : ∃ n, n = xs.length := ⟨_, rfl⟩
 rw [hlen, ← hN]
 rw [← hN] at hl
 have hl' : (N : Int) ≤ 1125899906842624 := by omega
 have HN := Lib.hid hN
 clear hN hr hr2 hx hx2 hf hc hlen
 have S1 := Lib.hid (show Sl.Sep w w [] from Sl.Sep.start w)
 go_enter Tryz.func57, Tryz.ntmps57
 go_wp2_with fail
 go_loopw [5] (fun i wr => ∃ k : Nat, k ≤ N ∧ i = .int .i64 k ∧ Hid (Sl.Sep w wr [])) (fun i _ => N - (intOf i).toNat)
 case atStart => exact ⟨0, Nat.zero_le _, rfl, S1.out⟩
 case round =>
  obtain ⟨k, hk, rfl, hrel⟩ := hrel
  have S2 := Lib.hid hrel.out
  clear hrel S1
  by_cases hlt : (k : Int) < (N : Int)
  ·
   skip
   have hkl : k < xs.length := by have := HN.out; omega
   obtain ⟨x, hx⟩ : ∃ x, xs[k]? = some x := ⟨_, List.getElem?_eq_getElem hkl⟩
   obtain ⟨ad, e'⟩ := el_some cl_Tx_len (by decide) (HR.out _ S2.out.old) (List.getElem?_eq_some_iff.1 hx).1
   subst e'
   have HK := Lib.hid (fun w' (h : Below w.heap.size w w') => el5 cl_Tx_len (HR.out _ h) hx rfl)
   obtain ⟨x2, hx2, hcx⟩ := map_same HS.out hx
   obtain ⟨ad2, e'⟩ := el_some cl_Tx_len (by decide) (HR2.out _ S2.out.old) (List.getElem?_eq_some_iff.1 hx2).1
   subst e'
   have HK2 := Lib.hid (fun w' (h : Below w.heap.size w w') => el5 cl_Tx_len (HR2.out _ h) hx2 rfl)
   have ee0 : x2.f_Id = x.f_Id := (show x.f_Id = x2.f_Id from congrArg X_Tx.f_Id (hcx.symm)).symm
   have ee1 : x2.f_Ops.length = x.f_Ops.length := (by have h := congrArg List.length (show coS_Op x.f_Ops = coS_Op x2.f_Ops from congrArg X_Tx.f_Ops (hcx.symm)); rw [coS_Op_eq, coS_Op_eq, List.length_map, List.length_map] at h; exact h.symm)
   have ee2 : x2.f_At = x.f_At := (show x.f_At = x2.f_At from congrArg X_Tx.f_At (hcx.symm)).symm
   have ee3 : x2.f_State = x.f_State := (show x.f_State = x2.f_State from congrArg X_Tx.f_State (hcx.symm)).symm
   have ee4 : x2.f_Backup.length = x.f_Backup.length := (by have h := congrArg List.length (show coS_Store x.f_Backup = coS_Store x2.f_Backup from congrArg X_Tx.f_Backup (hcx.symm)); rw [coS_Store_eq, coS_Store_eq, List.length_map, List.length_map] at h; exact h.symm)
   have HEQ := fun w' (h : Below w.heap.size w w') => eq_Tx x x2 hcx.symm (by have h1 := wsum_mem (f := wt_Tx) (List.mem_map.2 ⟨x, List.mem_of_getElem? hx, rfl⟩ : co_Tx x ∈ xs.map co_Tx); have h2 := HF.out; omega) w' (rd_el (rw_ := rw_Tx) (by rw [← rws_Tx_eq]; exact HX.out w' h) hx) (rd_el (rw_ := rw_Tx) (by rw [← rws_Tx_eq]; exact HX2.out w' h) hx2)
   dsimp only [vv_Tx] at HEQ
   try dsimp only [cl_Tx] at HK2
   simp only [ee0, ee1, ee2, ee3, ee4] at HEQ HK2
   replace HEQ := Lib.hid HEQ
   clear hcx ee0 ee1 ee2 ee3 ee4
   try dsimp only [vv_Tx] at HEQ
   clear hx hx2
   go_upto_region 6 with fail
   refine wp_region_held_drew (S := (fun w' => (w'.cell? (ad.add (k * 5)) = some (.int .i64 x.f_Id) ∧ w'.cell? (⟨(ad.add (k * 5)).block, (ad.add (k * 5)).off + 1, none⟩) = some (.slice x.f_Ops_a x.f_Ops.length x.f_Ops_c) ∧ w'.cell? (⟨(ad.add (k * 5)).block, (ad.add (k * 5)).off + 2, none⟩) = some (.int .i64 x.f_At) ∧ w'.cell? (⟨(ad.add (k * 5)).block, (ad.add (k * 5)).off + 3, none⟩) = some (.int .i64 x.f_State) ∧ w'.cell? (⟨(ad.add (k * 5)).block, (ad.add (k * 5)).off + 4, none⟩) = some (.slice x.f_Backup_a x.f_Backup.length x.f_Backup_c)) ∧ (w'.cell? (ad2.add (k * 5)) = some (.int .i64 x.f_Id) ∧ w'.cell? (⟨(ad2.add (k * 5)).block, (ad2.add (k * 5)).off + 1, none⟩) = some (.slice x2.f_Ops_a x.f_Ops.length x2.f_Ops_c) ∧ w'.cell? (⟨(ad2.add (k * 5)).block, (ad2.add (k * 5)).off + 2, none⟩) = some (.int .i64 x.f_At) ∧ w'.cell? (⟨(ad2.add (k * 5)).block, (ad2.add (k * 5)).off + 3, none⟩) = some (.int .i64 x.f_State) ∧ w'.cell? (⟨(ad2.add (k * 5)).block, (ad2.add (k * 5)).off + 4, none⟩) = some (.slice x2.f_Backup_a x.f_Backup.length x2.f_Backup_c)))) (by kernel_rfl) ⟨HK.out _ (Bag.drew1 S2.out).old, HK2.out _ (Bag.drew1 S2.out).old⟩ (fun hS => ?_)
   have S3 := Lib.hid (Bag.drew1 S2.out)
   clear S2
   generalize World.drew _ = w1 at hS S3 ⊢
   refine tk 0 rfl ?_
   try simp only [zp0, zp1, zp2, zp3, zp4]
   refine tk 1 rfl ?_
   try simp only [zp0, zp1, zp2, zp3, zp4]
   refine tk 2 rfl ?_
   try simp only [zp0, zp1, zp2, zp3, zp4]
   refine tk 3 rfl ?_
   try simp only [zp0, zp1, zp2, zp3, zp4]
   refine tk 4 rfl ?_
   try simp only [zp0, zp1, zp2, zp3, zp4]
   refine tk 5 rfl ?_
   try simp only [zp0, zp1, zp2, zp3, zp4]
   refine tk 6 rfl ?_
   try simp only [zp0, zp1, zp2, zp3, zp4]
   refine tk 7 rfl ?_
   try simp only [zp0, zp1, zp2, zp3, zp4]
   refine Reg.one_op (i := 8) rfl (by kernel_rfl) (fun K hK => ?_)
   go_simp
   go_at_call 90
   refine (HEQ.out _ S3.out.old).mono ?_
   rintro e w2 ⟨rfl, hb⟩
   have S4 := Lib.hid (S3.out.keep hb)
   clear S3
   clear hb
   go_wp2_with fail
   refine hK.out _ _ ⟨HK.out _ S4.out.old, HK2.out _ S4.out.old⟩ (fun hS => ?_)
   clear hK K
   try simp only [zp0, zp1, zp2, zp3, zp4]
   refine tk 9 rfl ?_
   try simp only [zp0, zp1, zp2, zp3, zp4]
   refine wpAnyH_done (by kernel_rfl) ?_ _
   obtain ⟨f0, f1, f2, f3, f4⟩ := HK.out _ S4.out.old
   obtain ⟨f5, f6, f7, f8, f9⟩ := HK2.out _ S4.out.old
   go_wp2_with fail
   go_roundw
   case rel => exact ⟨k + 1, by omega, by go_num, S4.out⟩
   case measure => simp [intOf]; omega
  ·
   skip
   go_wp2_with fail
   go_ret
   exact ⟨rfl, S2.out.old⟩
def em_Tx (k : Int) (z : Y_Tx) : Y_Tx := ⟨k, z.f_Ops_a, z.f_Ops_c, (mks em_Op cnt_Op (k + 1) z.f_Ops), ((k + 1) + (fsum cnt_Op z.f_Ops : Int)), (((k + 1) + (fsum cnt_Op z.f_Ops : Int)) + 1), z.f_Backup_a, z.f_Backup_c, (mks em_Store cnt_Store ((((k + 1) + (fsum cnt_Op z.f_Ops : Int)) + 1) + 1) z.f_Backup)⟩
def cnt_Tx (z : Y_Tx) : Nat := 1 + (fsum cnt_Op z.f_Ops + (1 + (1 + (fsum cnt_Store z.f_Backup))))
theorem cntS_Tx (z : Y_Tx) : cnt_Tx z ≤ 64 * (wt_Tx (co_Tx z) + 1) := by
 have h1 := cnt_sum cntS_Op z.f_Ops
 have h4 := cnt_sum cntS_Store z.f_Backup
 have hw : wt_Tx (co_Tx z) = wsum wt_Op (coS_Op z.f_Ops) + (wsum wt_Store (coS_Store z.f_Backup)) := by rfl
 rw [← coS_Op_eq] at h1
 rw [← coS_Store_eq] at h4
 unfold cnt_Tx
 omega
theorem em_Tx_fp (k : Int) (z : Y_Tx) : (rw_Tx (em_Tx k z)).flatMap RowS.fp = (rw_Tx z).flatMap RowS.fp := by
 show (rs_Op z.f_Ops_a z.f_Ops_c (mks em_Op cnt_Op (k + 1) z.f_Ops) ++ (rs_Store z.f_Backup_a z.f_Backup_c (mks em_Store cnt_Store ((((k + 1) + (fsum cnt_Op z.f_Ops : Int)) + 1) + 1) z.f_Backup))).flatMap RowS.fp = (rs_Op z.f_Ops_a z.f_Ops_c z.f_Ops ++ (rs_Store z.f_Backup_a z.f_Backup_c z.f_Backup)).flatMap RowS.fp
 simp only [List.flatMap_append, rs_Op_fp, rs_Store_fp]
theorem rs_Tx_fp (a : Option Addr) (c : Nat) (xs : List Y_Tx) (k : Int) : (rs_Tx a c (mks em_Tx cnt_Tx k xs)).flatMap RowS.fp = (rs_Tx a c xs).flatMap RowS.fp := by
 unfold rs_Tx
 rw [List.flatMap_cons, List.flatMap_cons, rws_Tx_eq, rws_Tx_eq, mks_fp em_Tx_fp]
 congr 1
 unfold row_Tx RowS.fp
 cases a <;> rfl
set_option maxHeartbeats 8000000 in
theorem mark_TxS_sep (a : Option Addr) (c : Nat) (xs : List Y_Tx) (k : Int) (W w : World) (S : Sl.Sep W w [bag (rs_Tx a c xs), Run.restL W w (bag (rs_Tx a c xs)).fp]) (hf : wsum wt_Tx (coS_Tx xs) ≤ 1125899906842624) (hk0 : 0 < k) (hk1 : k + (fsum cnt_Tx xs : Int) ≤ 2305843009213693952) :
  Calls Tryz.prog 58 #[.slice a xs.length c, .int .i64 k] w fun e w' => e = .returned (.int .i64 (k + (fsum cnt_Tx xs : Int))) ∧ Sl.Sep W w' [bag (rs_Tx a c (mks em_Tx cnt_Tx k xs)), Run.restL W w (bag (rs_Tx a c xs)).fp] := by
 have HF := Lib.hid hf
 have hl : xs.length ≤ 1125899906842624 := by have := wsum_len wt_Tx (coS_Tx xs); rw [coS_Tx_eq, List.length_map] at this; rw [coS_Tx_eq] at hf; omega
 clear hf
 obtain ⟨fps, hfps⟩ : ∃ f, f = (bag (rs_Tx a c xs)).fp := ⟨_, rfl⟩
 rw [← hfps] at S ⊢
 clear hfps
 rcases (S.is 0 _ rfl).own (row_Tx a c xs) (List.mem_cons_self ..) |>.form with ⟨ha, hn0, -, hc0⟩ | ⟨g, hg, -, -, hnc, -⟩
 ·
  have ha' : a = none := ha
  have hc' : c = 0 := hc0
  have hx : xs = [] := List.eq_nil_of_length_eq_zero hn0
  subst hx
  have H := Lib.hid S
  clear S HF hk1
  go_enter Tryz.func58, Tryz.ntmps58
  go_wp2_with fail
  refine wp_loop_rounds 1 ?_
  rw [rounds_succ]
  go_wp2_with fail
  go_ret
  exact ⟨by rw [fsum_nil]; first | rfl | (refine congrArg (fun i => Ending.returned (.int .i64 i)) ?_; omega), H.out⟩
 have hg' : a = some ⟨g, 0, none⟩ := hg
 subst hg'
 obtain ⟨N, hN⟩ : ∃ n, n = xs.length := ⟨_, rfl⟩
 rw [← hN] at hl ⊢
 have hl' : (N : Int) ≤ 1125899906842624 := by omega
 have HN := Lib.hid hN
 have HK1 := Lib.hid hk1
 have hk2 : k ≤ 2305843009213693952 := by omega
 have S1 := Lib.hid S
 clear hg hN S hnc hk1
 have S2 := Lib.hid (show Sl.Sep W _ [Bag.bag ([row_Tx (some ⟨g, 0, none⟩) c xs] ++ rws_Tx xs), Run.restL W w fps] from S1.out)
 clear S1
 have S3 := Lib.hid (show Sl.Sep W _ [Bag.bag ([row_Tx (some ⟨g, 0, none⟩) c xs]), _, Bag.bag (rws_Tx xs)] from Bag.bag_split S2.out 0 rfl)
 clear S2
 have S4 := Lib.hid (show Sl.Sep W _ [Sv.ownV 89 5 (some ⟨g, 0, none⟩) c N ((mks em_Tx cnt_Tx k [] ++ xs.drop 0).flatMap cl_Tx), _, _] from (by have h := Bag.one_of_bag S3.out 0 (r := row_Tx (some ⟨g, 0, none⟩) c xs) rfl; unfold RowS.res row_Tx at h; dsimp only at h; rw [← HN.out] at h; exact h))
 clear S3
 have S5 := Lib.hid (show Sl.Sep W _ [Sv.ownV 89 5 (some ⟨g, 0, none⟩) c N ((mks em_Tx cnt_Tx k [] ++ xs.drop 0).flatMap cl_Tx), Bag.bag (rws_Tx (mks em_Tx cnt_Tx k []) ++ rws_Tx (xs.drop 0)), Run.restL W w fps] from Bag.take (by have h := S4.out; rw [show rws_Tx xs = rws_Tx (mks em_Tx cnt_Tx k []) ++ rws_Tx (xs.drop 0) from by rw [← rws_Tx_app]; rfl] at h; exact h) [0, 2, 1] (by rfl) (by decide))
 clear S4
 go_enter Tryz.func58, Tryz.ntmps58
 go_wp2_with fail
 go_loopw [1, 5] (fun v i wr => ∃ (j : Nat) (m : Int), j ≤ N ∧ i = .int .i64 j ∧ v = .int .i64 m ∧ k ≤ m ∧ m ≤ 2305843009213693952 ∧ Hid (m = k + (fsum cnt_Tx (xs.take j) : Int) ∧ Sl.Sep W wr [Sv.ownV 89 5 (some ⟨g, 0, none⟩) c N (((mks em_Tx cnt_Tx k (xs.take j)) ++ xs.drop j).flatMap cl_Tx), Bag.bag (rws_Tx (mks em_Tx cnt_Tx k (xs.take j)) ++ rws_Tx (xs.drop j)), Run.restL W w fps])) (fun _ i _ => N - (intOf i).toNat)
 case atStart => exact ⟨0, k, Nat.zero_le _, rfl, rfl, by omega, by omega, And.intro (by rw [List.take_zero, fsum_nil]; omega) S5.out⟩
 case round =>
  obtain ⟨j, m, hj, rfl, rfl, hm0, hm1, hrel⟩ := hrel
  have HM := Lib.hid hrel.out.1
  have S6 := Lib.hid hrel.out.2
  clear hrel S5
  by_cases hlt : (j : Int) < (N : Int)
  ·
   skip
   have hjl : j < xs.length := by have := HN.out; omega
   obtain ⟨x, hx⟩ : ∃ x, xs[j]? = some x := ⟨_, List.getElem?_eq_getElem hjl⟩
   have HFT := Lib.hid (fsum_take (f := cnt_Tx) hx)
   have hfa := fsum_at (f := cnt_Tx) hx
   have hcx : cnt_Tx x = 1 + (fsum cnt_Op x.f_Ops + (1 + (1 + (fsum cnt_Store x.f_Backup)))) := rfl
   have HMN := Lib.hid (show (mks em_Tx cnt_Tx k (xs.take (j + 1))) = (mks em_Tx cnt_Tx k (xs.take j)) ++ [em_Tx m x] from by rw [mks_next em_Tx cnt_Tx k hx, ← HM.out])
   have HDR := Lib.hid (drop_next hx)
   have hwm : wt_Tx (co_Tx x) + 1 ≤ 1125899906842624 := by have h1 := wsum_mem (f := wt_Tx) (List.mem_map.2 ⟨x, List.mem_of_getElem? hx, rfl⟩ : co_Tx x ∈ xs.map co_Tx); have h2 := HF.out; rw [coS_Tx_eq] at h2; omega
   have HFW1 := Lib.hid (show wsum wt_Op (coS_Op x.f_Ops) ≤ 1125899906842624 from by have h2 : wt_Tx (co_Tx x) = wsum wt_Op (coS_Op x.f_Ops) + (wsum wt_Store (coS_Store x.f_Backup)) := rfl; omega)
   have HFW4 := Lib.hid (show wsum wt_Store (coS_Store x.f_Backup) ≤ 1125899906842624 from by have h2 : wt_Tx (co_Tx x) = wsum wt_Op (coS_Op x.f_Ops) + (wsum wt_Store (coS_Store x.f_Backup)) := rfl; omega)
   clear hwm hx
   obtain ⟨s1, hs1⟩ : ∃ u, u = fsum cnt_Op x.f_Ops := ⟨_, rfl⟩
   obtain ⟨s4, hs4⟩ : ∃ u, u = fsum cnt_Store x.f_Backup := ⟨_, rfl⟩
   rw [← hs1, ← hs4] at hcx
   have hmc : m + (cnt_Tx x : Int) ≤ 2305843009213693952 := by have := HM.out; have := HK1.out; omega
   have HCX := Lib.hid hcx
   have hcx' : (cnt_Tx x : Int) = 1 + (s1 : Int) + 1 + 1 + (s4 : Int) := by omega
   rw [hcx'] at hmc
   clear hcx' hcx hfa
   obtain ⟨m1', hm⟩ : ∃ u : Int, u = m + 1 := ⟨_, rfl⟩
   have bd0 : 0 < m1' ∧ m1' ≤ 2305843009213693952 := by omega
   have bl0 : m ≤ m1' := by omega
   have HM1 := Lib.hid hm
   have hme1 := hm
   clear hm
   obtain ⟨m2', hm⟩ : ∃ u : Int, u = m1' + (s1 : Int) := ⟨_, rfl⟩
   have bd1 : 0 < m2' ∧ m2' ≤ 2305843009213693952 := by omega
   have bl1 : m1' ≤ m2' := by omega
   have HM2 := Lib.hid hm
   have hme2 := hm
   clear hm
   obtain ⟨m3', hm⟩ : ∃ u : Int, u = m2' + 1 := ⟨_, rfl⟩
   have bd2 : 0 < m3' ∧ m3' ≤ 2305843009213693952 := by omega
   have bl2 : m2' ≤ m3' := by omega
   have HM3 := Lib.hid hm
   have hme3 := hm
   clear hm
   obtain ⟨m4', hm⟩ : ∃ u : Int, u = m3' + 1 := ⟨_, rfl⟩
   have bd3 : 0 < m4' ∧ m4' ≤ 2305843009213693952 := by omega
   have bl3 : m3' ≤ m4' := by omega
   have HM4 := Lib.hid hm
   have hme4 := hm
   clear hm
   obtain ⟨m5', hm⟩ : ∃ u : Int, u = m4' + (s4 : Int) := ⟨_, rfl⟩
   have bd4 : 0 < m5' ∧ m5' ≤ 2305843009213693952 := by omega
   have bl4 : m4' ≤ m5' := by omega
   have HM5 := Lib.hid hm
   have hme5 := hm
   clear hm
   have HS1 := Lib.hid hs1
   clear hs1
   have HS4 := Lib.hid hs4
   clear hs4
   clear hmc hme1 hme2 hme3 hme4 hme5
   have HDL := Lib.hid (show ((mks em_Tx cnt_Tx k (xs.take j)).flatMap cl_Tx).length = j * 5 by rw [flat_len cl_Tx_len, mks_len, List.length_take, Nat.min_eq_left (by omega)])
   obtain ⟨R0, hR0⟩ : ∃ R0, R0 = (xs.drop (j + 1)).flatMap cl_Tx := ⟨_, rfl⟩
   obtain ⟨D0, hD0⟩ : ∃ D0, D0 = (mks em_Tx cnt_Tx k (xs.take j)).flatMap cl_Tx := ⟨_, rfl⟩
   have HR0 := Lib.hid hR0
   have HD0 := Lib.hid hD0
   rw [← hD0] at HDL
   clear hR0 hD0
   have S7 := Lib.hid (show Sl.Sep W _ [Sv.ownV 89 5 (some ⟨g, 0, none⟩) c N (D0 ++ (.int .i64 x.f_Id :: .slice x.f_Ops_a x.f_Ops.length x.f_Ops_c :: .int .i64 x.f_At :: .int .i64 x.f_State :: .slice x.f_Backup_a x.f_Backup.length x.f_Backup_c :: R0)), Bag.bag (rws_Tx (mks em_Tx cnt_Tx k (xs.take j)) ++ rws_Tx (xs.drop j)), Run.restL W w fps] from (by have h := S6.out; rw [show ((mks em_Tx cnt_Tx k (xs.take j)) ++ xs.drop j).flatMap cl_Tx = D0 ++ (.int .i64 x.f_Id :: .slice x.f_Ops_a x.f_Ops.length x.f_Ops_c :: .int .i64 x.f_At :: .int .i64 x.f_State :: .slice x.f_Backup_a x.f_Backup.length x.f_Backup_c :: R0) from by rw [List.flatMap_append, HDR.out, List.flatMap_cons, ← HR0.out, ← HD0.out]; rfl] at h; exact h))
   clear S6
   have S8 := Lib.hid (show Sl.Sep W _ [Sv.ownV 89 5 (some ⟨g, 0, none⟩) c N (D0 ++ (.int .i64 x.f_Id :: .slice x.f_Ops_a x.f_Ops.length x.f_Ops_c :: .int .i64 x.f_At :: .int .i64 x.f_State :: .slice x.f_Backup_a x.f_Backup.length x.f_Backup_c :: R0)), Bag.bag ((rws_Tx (mks em_Tx cnt_Tx k (xs.take j)) ++ rws_Tx (xs.drop (j + 1))) ++ rw_Tx x), Run.restL W w fps] from Bag.bag_perm S7.out 1 rfl (by rw [HDR.out, rws_Tx_eq, rws_Tx_eq, rws_Tx_eq]; exact flat_out _ _ _))
   clear S7
   have S9 := Lib.hid (show Sl.Sep W _ [_, Bag.bag (rws_Tx (mks em_Tx cnt_Tx k (xs.take j)) ++ rws_Tx (xs.drop (j + 1))), _, Bag.bag (rs_Op x.f_Ops_a x.f_Ops_c x.f_Ops ++ (rs_Store x.f_Backup_a x.f_Backup_c x.f_Backup))] from Bag.bag_split S8.out 1 rfl)
   clear S8
   have S10 := Lib.hid (show Sl.Sep W _ [_, _, _, Bag.bag (rs_Op x.f_Ops_a x.f_Ops_c x.f_Ops), Bag.bag (rs_Store x.f_Backup_a x.f_Backup_c x.f_Backup)] from Bag.bag_split S9.out 3 rfl)
   clear S9
   have q0 : World.cell? wr ⟨g, j * 5, none⟩ = some (.int .i64 x.f_Id) := by rw [(Sv.own_at S10.out 0 rfl).cell (j * 5) (by rw [List.length_append, HDL.out]; simp <;> omega)]; simp [List.getElem_append, HDL.out]
   have z0 := (Sv.own_at S10.out 0 rfl).free (j * 5)
   go_upto_region 6 with fail
   try simp only [← HM1.out]
   clear q0 z0
   have HOV := Lib.hid (show Run.over (D0 ++ (.int .i64 x.f_Id :: .slice x.f_Ops_a x.f_Ops.length x.f_Ops_c :: .int .i64 x.f_At :: .int .i64 x.f_State :: .slice x.f_Backup_a x.f_Backup.length x.f_Backup_c :: R0)) (j * 5) [.int .i64 m] = D0 ++ (.int .i64 m :: .slice x.f_Ops_a x.f_Ops.length x.f_Ops_c :: .int .i64 x.f_At :: .int .i64 x.f_State :: .slice x.f_Backup_a x.f_Backup.length x.f_Backup_c :: R0) from by rw [show D0 ++ (.int .i64 x.f_Id :: .slice x.f_Ops_a x.f_Ops.length x.f_Ops_c :: .int .i64 x.f_At :: .int .i64 x.f_State :: .slice x.f_Backup_a x.f_Backup.length x.f_Backup_c :: R0) = D0 ++ ([.int .i64 x.f_Id] ++ (.slice x.f_Ops_a x.f_Ops.length x.f_Ops_c :: .int .i64 x.f_At :: .int .i64 x.f_State :: .slice x.f_Backup_a x.f_Backup.length x.f_Backup_c :: R0)) from by simp, Run.over_mid D0 (.slice x.f_Ops_a x.f_Ops.length x.f_Ops_c :: .int .i64 x.f_At :: .int .i64 x.f_State :: .slice x.f_Backup_a x.f_Backup.length x.f_Backup_c :: R0) [.int .i64 m] [.int .i64 x.f_Id] (j * 5) (by simp [HDL.out]) rfl]; simp)
   have S11 := Lib.hid (show Sl.Sep W (wr.setCell ⟨g, j * 5, none⟩ (.int .i64 m)) [Sv.ownV 89 5 (some ⟨g, 0, none⟩) c N (D0 ++ (.int .i64 m :: .slice x.f_Ops_a x.f_Ops.length x.f_Ops_c :: .int .i64 x.f_At :: .int .i64 x.f_State :: .slice x.f_Backup_a x.f_Backup.length x.f_Backup_c :: R0)), _, _, _, _] from (by have h := Run.put_run S10.out 0 rfl (j * 5) [.int .i64 m] (by rw [List.length_append, HDL.out]; simp <;> omega); rw [HOV.out] at h; exact h))
   clear S10
   clear HOV
   generalize (wr.setCell ⟨g, j * 5, none⟩ (.int .i64 m)) = w1 at S11 ⊢
   have q1 : World.cell? w1 ⟨g, j * 5 + 1, none⟩ = some (.slice x.f_Ops_a x.f_Ops.length x.f_Ops_c) := by rw [(Sv.own_at S11.out 0 rfl).cell (j * 5 + 1) (by rw [List.length_append, HDL.out]; simp <;> omega)]; simp [List.getElem_append, HDL.out]
   go_wp2_with fail
   go_at_call 91
   have HC := mark_OpS S11.out 3 (a := x.f_Ops_a) (c := x.f_Ops_c) (xs := x.f_Ops) rfl m1' HFW1.out (by omega) (by have := HS1.out; have := bd1.2; have := HM2.out; omega)
   rw [← HS1.out, ← HM2.out] at HC
   refine HC.mono ?_
   clear HC
   rintro e w2 ⟨rfl, hS⟩
   clear q1
   have S12 := Lib.hid (show Sl.Sep W _ [_, _, _, Bag.bag (rs_Op x.f_Ops_a x.f_Ops_c (mks em_Op cnt_Op m1' x.f_Ops)), _] from hS)
   clear S11
   clear hS
   go_upto_region 7 with fail
   have q2 : World.cell? w2 ⟨g, j * 5 + 2, none⟩ = some (.int .i64 x.f_At) := by rw [(Sv.own_at S12.out 0 rfl).cell (j * 5 + 2) (by rw [List.length_append, HDL.out]; simp <;> omega)]; simp [List.getElem_append, HDL.out]
   have z2 := (Sv.own_at S12.out 0 rfl).free (j * 5 + 2)
   go_upto_region 9 with fail
   try simp only [← HM3.out]
   clear q2 z2
   have HOV := Lib.hid (show Run.over (D0 ++ (.int .i64 m :: .slice x.f_Ops_a x.f_Ops.length x.f_Ops_c :: .int .i64 x.f_At :: .int .i64 x.f_State :: .slice x.f_Backup_a x.f_Backup.length x.f_Backup_c :: R0)) (j * 5 + 2) [.int .i64 m2'] = D0 ++ (.int .i64 m :: .slice x.f_Ops_a x.f_Ops.length x.f_Ops_c :: .int .i64 m2' :: .int .i64 x.f_State :: .slice x.f_Backup_a x.f_Backup.length x.f_Backup_c :: R0) from by rw [show D0 ++ (.int .i64 m :: .slice x.f_Ops_a x.f_Ops.length x.f_Ops_c :: .int .i64 x.f_At :: .int .i64 x.f_State :: .slice x.f_Backup_a x.f_Backup.length x.f_Backup_c :: R0) = (D0 ++ ([.int .i64 m, .slice x.f_Ops_a x.f_Ops.length x.f_Ops_c] : List Value)) ++ ([.int .i64 x.f_At] ++ (.int .i64 x.f_State :: .slice x.f_Backup_a x.f_Backup.length x.f_Backup_c :: R0)) from by simp, Run.over_mid (D0 ++ ([.int .i64 m, .slice x.f_Ops_a x.f_Ops.length x.f_Ops_c] : List Value)) (.int .i64 x.f_State :: .slice x.f_Backup_a x.f_Backup.length x.f_Backup_c :: R0) [.int .i64 m2'] [.int .i64 x.f_At] (j * 5 + 2) (by simp [HDL.out]) rfl]; simp)
   have S13 := Lib.hid (show Sl.Sep W (w2.setCell ⟨g, j * 5 + 2, none⟩ (.int .i64 m2')) [Sv.ownV 89 5 (some ⟨g, 0, none⟩) c N (D0 ++ (.int .i64 m :: .slice x.f_Ops_a x.f_Ops.length x.f_Ops_c :: .int .i64 m2' :: .int .i64 x.f_State :: .slice x.f_Backup_a x.f_Backup.length x.f_Backup_c :: R0)), _, _, _, _] from (by have h := Run.put_run S12.out 0 rfl (j * 5 + 2) [.int .i64 m2'] (by rw [List.length_append, HDL.out]; simp <;> omega); rw [HOV.out] at h; exact h))
   clear S12
   clear HOV
   generalize (w2.setCell ⟨g, j * 5 + 2, none⟩ (.int .i64 m2')) = w3 at S13 ⊢
   have q3 : World.cell? w3 ⟨g, j * 5 + 3, none⟩ = some (.int .i64 x.f_State) := by rw [(Sv.own_at S13.out 0 rfl).cell (j * 5 + 3) (by rw [List.length_append, HDL.out]; simp <;> omega)]; simp [List.getElem_append, HDL.out]
   have z3 := (Sv.own_at S13.out 0 rfl).free (j * 5 + 3)
   go_upto_region 11 with fail
   try simp only [← HM4.out]
   clear q3 z3
   have HOV := Lib.hid (show Run.over (D0 ++ (.int .i64 m :: .slice x.f_Ops_a x.f_Ops.length x.f_Ops_c :: .int .i64 m2' :: .int .i64 x.f_State :: .slice x.f_Backup_a x.f_Backup.length x.f_Backup_c :: R0)) (j * 5 + 3) [.int .i64 m3'] = D0 ++ (.int .i64 m :: .slice x.f_Ops_a x.f_Ops.length x.f_Ops_c :: .int .i64 m2' :: .int .i64 m3' :: .slice x.f_Backup_a x.f_Backup.length x.f_Backup_c :: R0) from by rw [show D0 ++ (.int .i64 m :: .slice x.f_Ops_a x.f_Ops.length x.f_Ops_c :: .int .i64 m2' :: .int .i64 x.f_State :: .slice x.f_Backup_a x.f_Backup.length x.f_Backup_c :: R0) = (D0 ++ ([.int .i64 m, .slice x.f_Ops_a x.f_Ops.length x.f_Ops_c, .int .i64 m2'] : List Value)) ++ ([.int .i64 x.f_State] ++ (.slice x.f_Backup_a x.f_Backup.length x.f_Backup_c :: R0)) from by simp, Run.over_mid (D0 ++ ([.int .i64 m, .slice x.f_Ops_a x.f_Ops.length x.f_Ops_c, .int .i64 m2'] : List Value)) (.slice x.f_Backup_a x.f_Backup.length x.f_Backup_c :: R0) [.int .i64 m3'] [.int .i64 x.f_State] (j * 5 + 3) (by simp [HDL.out]) rfl]; simp)
   have S14 := Lib.hid (show Sl.Sep W (w3.setCell ⟨g, j * 5 + 3, none⟩ (.int .i64 m3')) [Sv.ownV 89 5 (some ⟨g, 0, none⟩) c N (D0 ++ (.int .i64 m :: .slice x.f_Ops_a x.f_Ops.length x.f_Ops_c :: .int .i64 m2' :: .int .i64 m3' :: .slice x.f_Backup_a x.f_Backup.length x.f_Backup_c :: R0)), _, _, _, _] from (by have h := Run.put_run S13.out 0 rfl (j * 5 + 3) [.int .i64 m3'] (by rw [List.length_append, HDL.out]; simp <;> omega); rw [HOV.out] at h; exact h))
   clear S13
   clear HOV
   generalize (w3.setCell ⟨g, j * 5 + 3, none⟩ (.int .i64 m3')) = w4 at S14 ⊢
   have q4 : World.cell? w4 ⟨g, j * 5 + 4, none⟩ = some (.slice x.f_Backup_a x.f_Backup.length x.f_Backup_c) := by rw [(Sv.own_at S14.out 0 rfl).cell (j * 5 + 4) (by rw [List.length_append, HDL.out]; simp <;> omega)]; simp [List.getElem_append, HDL.out]
   go_wp2_with fail
   go_at_call 42
   have HC := mark_StoreS S14.out 4 (a := x.f_Backup_a) (c := x.f_Backup_c) (xs := x.f_Backup) rfl m4' HFW4.out (by omega) (by have := HS4.out; have := bd4.2; have := HM5.out; omega)
   rw [← HS4.out, ← HM5.out] at HC
   refine HC.mono ?_
   clear HC
   rintro e w5 ⟨rfl, hS⟩
   clear q4
   have S15 := Lib.hid (show Sl.Sep W _ [_, _, _, _, Bag.bag (rs_Store x.f_Backup_a x.f_Backup_c (mks em_Store cnt_Store m4' x.f_Backup))] from hS)
   clear S14
   clear hS
   go_wp2_with fail
   have S16 := Lib.hid (show Sl.Sep W _ [_, _, _, Bag.bag ((rs_Op x.f_Ops_a x.f_Ops_c (mks em_Op cnt_Op m1' x.f_Ops)) ++ (rs_Store x.f_Backup_a x.f_Backup_c (mks em_Store cnt_Store m4' x.f_Backup))), Bag.bag ([])] from Bag.bag_join S15.out 3 4 (by decide) rfl rfl)
   clear S15
   have HEM := Lib.hid (show rw_Tx (em_Tx m x) = rs_Op x.f_Ops_a x.f_Ops_c (mks em_Op cnt_Op m1' x.f_Ops) ++ (rs_Store x.f_Backup_a x.f_Backup_c (mks em_Store cnt_Store m4' x.f_Backup)) from by first | rfl | (simp only [HM5.out, HM4.out, HM3.out, HM2.out, HM1.out, HS1.out, HS4.out]; rfl))
   have S17 := Lib.hid (show Sl.Sep W _ [_, _, _, Bag.bag (rw_Tx (em_Tx m x)), Bag.bag ([])] from (by rw [HEM.out]; exact S16.out))
   clear S16
   have S18 := Lib.hid (show Sl.Sep W _ [_, Bag.bag ((rws_Tx (mks em_Tx cnt_Tx k (xs.take j)) ++ rws_Tx (xs.drop (j + 1))) ++ (rw_Tx (em_Tx m x))), _, Bag.bag ([]), Bag.bag ([])] from Bag.bag_join S17.out 1 3 (by decide) rfl rfl)
   clear S17
   have S19 := Lib.hid (show Sl.Sep W _ [_, _, _] from Bag.take S18.out [0, 1, 2] (by rfl) (by decide))
   clear S18
   have S20 := Lib.hid (show Sl.Sep W _ [Sv.ownV 89 5 (some ⟨g, 0, none⟩) c N (D0 ++ (.int .i64 m :: .slice x.f_Ops_a x.f_Ops.length x.f_Ops_c :: .int .i64 m2' :: .int .i64 m3' :: .slice x.f_Backup_a x.f_Backup.length x.f_Backup_c :: R0)), Bag.bag (rws_Tx (mks em_Tx cnt_Tx k (xs.take (j + 1))) ++ rws_Tx (xs.drop (j + 1))), Run.restL W w fps] from (by rw [HMN.out, rws_Tx_eq, rws_Tx_eq]; have h := S19.out; rw [rws_Tx_eq, rws_Tx_eq] at h; exact Bag.bag_perm h 1 rfl (flat_back _ _ _)))
   clear S19
   have HROW := Lib.hid (show ((mks em_Tx cnt_Tx k (xs.take (j + 1))) ++ xs.drop (j + 1)).flatMap cl_Tx = D0 ++ (.int .i64 m :: .slice x.f_Ops_a x.f_Ops.length x.f_Ops_c :: .int .i64 m2' :: .int .i64 m3' :: .slice x.f_Backup_a x.f_Backup.length x.f_Backup_c :: R0) from by rw [HMN.out, List.flatMap_append, List.flatMap_append, ← HR0.out, ← HD0.out, List.append_assoc, List.flatMap_cons, List.flatMap_nil, List.append_nil]; simp only [HM5.out, HM4.out, HM3.out, HM2.out, HM1.out, HS1.out, HS4.out]; unfold cl_Tx em_Tx; simp only [mks_len]; rfl)
   have S21 := Lib.hid (show Sl.Sep W _ [Sv.ownV 89 5 (some ⟨g, 0, none⟩) c N (((mks em_Tx cnt_Tx k (xs.take (j + 1))) ++ xs.drop (j + 1)).flatMap cl_Tx), _, _] from (by rw [HROW.out]; exact S20.out))
   clear S20
   go_roundw
   case rel => exact ⟨j + 1, m5', by omega, by go_num, by first | rfl | go_num, by omega, by omega, And.intro (by have h1 := HFT.out; have h2 := HCX.out; have h3 := HM.out; have := HM1.out; have := HM2.out; have := HM3.out; have := HM4.out; have := HM5.out; omega) S21.out⟩
   case measure => simp [intOf]; omega
  ·
   skip
   obtain rfl : j = N := by omega
   have hT : xs.take j = xs := List.take_of_length_le (by have := HN.out; omega)
   have hD : xs.drop j = [] := List.drop_of_length_le (by have := HN.out; omega)
   have HT := Lib.hid hT
   have HD := Lib.hid hD
   clear hT hD
   have S7 := Lib.hid (show Sl.Sep W _ [Sv.ownV 89 5 (some ⟨g, 0, none⟩) c j ((mks em_Tx cnt_Tx k xs).flatMap cl_Tx), Bag.bag (rws_Tx (mks em_Tx cnt_Tx k xs)), Run.restL W w fps] from (by have h := S6.out; rw [HT.out, HD.out, List.append_nil, ← rws_Tx_app, List.append_nil] at h; exact h))
   clear S6
   have S8 := Lib.hid (show Sl.Sep W _ [Bag.bag ([row_Tx (some ⟨g, 0, none⟩) c (mks em_Tx cnt_Tx k xs)]), _, _] from Bag.bag_of_one S7.out 0 (r := row_Tx (some ⟨g, 0, none⟩) c (mks em_Tx cnt_Tx k xs)) (by unfold RowS.res row_Tx; dsimp only; rw [mks_len, ← HN.out]; rfl))
   clear S7
   have S9 := Lib.hid (show Sl.Sep W _ [Bag.bag ([row_Tx (some ⟨g, 0, none⟩) c (mks em_Tx cnt_Tx k xs)] ++ (rws_Tx (mks em_Tx cnt_Tx k xs))), Bag.bag ([]), _] from Bag.bag_join S8.out 0 1 (by decide) rfl rfl)
   clear S8
   have S10 := Lib.hid (show Sl.Sep W _ [_, _] from Bag.take S9.out [0, 2] (by rfl) (by decide))
   clear S9
   go_wp2_with fail
   go_ret
   exact ⟨by have h := HM.out; rw [HT.out] at h; rw [← h] <;> rfl, S10.out⟩
theorem mark_TxS {W w : World} {rs : List Res} (h : Sl.Sep W w rs) (i : Nat) {a : Option Addr} {c : Nat} {xs : List Y_Tx} (hi : rs[i]? = some (bag (rs_Tx a c xs))) (k : Int) (hf : wsum wt_Tx (coS_Tx xs) ≤ 1125899906842624) (hk0 : 0 < k) (hk1 : k + (fsum cnt_Tx xs : Int) ≤ 2305843009213693952) :
  Calls Tryz.prog 58 #[.slice a xs.length c, .int .i64 k] w fun e w' => e = .returned (.int .i64 (k + (fsum cnt_Tx xs : Int))) ∧ Sl.Sep W w' (rs.set i (bag (rs_Tx a c (mks em_Tx cnt_Tx k xs)))) :=
 (mark_TxS_sep a c xs k W w (Run.restL_start h i hi) hf hk0 hk1).mono fun _ _ ⟨he, hs⟩ => ⟨he, Run.restL_back h i hi hs (rs_Tx_fp a c xs k)⟩
set_option maxHeartbeats 8000000 in
theorem held_TxS (a : Option Addr) (c : Nat) (xs : List Y_Tx) (k : Int) (hf : wsum wt_Tx (coS_Tx xs) ≤ 1125899906842624) (hk0 : 0 < k) (hk1 : k + (fsum cnt_Tx xs : Int) ≤ 2305843009213693952) (w : World) (hr : Reads w w.heap.size a ((mks em_Tx cnt_Tx k xs).flatMap cl_Tx)) (hx : RowsRd w w.heap.size (rws_Tx (mks em_Tx cnt_Tx k xs))) :
  Calls Tryz.prog 59 #[.slice a xs.length c, .int .i64 k] w fun e w' => e = .returned (.int .i64 (k + (fsum cnt_Tx xs : Int))) ∧ Below w.heap.size w w' := by
 have HF := Lib.hid hf
 have hl : xs.length ≤ 1125899906842624 := by have := wsum_len wt_Tx (coS_Tx xs); rw [coS_Tx_eq, List.length_map] at this; rw [coS_Tx_eq] at hf; omega
 clear hf
 have HR := Lib.hid (fun w' (h : Below w.heap.size w w') => hr.below h)
 have HX := Lib.hid (fun w' (h : Below w.heap.size w w') => (hx.below h).more h.size)
 obtain ⟨N, hN⟩ : ∃ n, n = xs.length := ⟨_, rfl⟩
 rw [← hN] at hl ⊢
 have hl' : (N : Int) ≤ 1125899906842624 := by omega
 have HN := Lib.hid hN
 have HK1 := Lib.hid hk1
 have hk2 : k ≤ 2305843009213693952 := by omega
 clear hN hr hx hk1
 have S1 := Lib.hid (show Sl.Sep w w [] from Sl.Sep.start w)
 go_enter Tryz.func59, Tryz.ntmps59
 go_wp2_with fail
 go_loopw [1, 5] (fun v i wr => ∃ (j : Nat) (m : Int), j ≤ N ∧ i = .int .i64 j ∧ v = .int .i64 m ∧ k ≤ m ∧ m ≤ 2305843009213693952 ∧ Hid (m = k + (fsum cnt_Tx (xs.take j) : Int) ∧ Sl.Sep w wr [])) (fun _ i _ => N - (intOf i).toNat)
 case atStart => exact ⟨0, k, Nat.zero_le _, rfl, rfl, by omega, by omega, And.intro (by rw [List.take_zero, fsum_nil]; omega) S1.out⟩
 case round =>
  obtain ⟨j, m, hj, rfl, rfl, hm0, hm1, hrel⟩ := hrel
  have HM := Lib.hid hrel.out.1
  have S2 := Lib.hid hrel.out.2
  clear hrel S1
  by_cases hlt : (j : Int) < (N : Int)
  ·
   skip
   have hjl : j < xs.length := by have := HN.out; omega
   obtain ⟨x, hx⟩ : ∃ x, xs[j]? = some x := ⟨_, List.getElem?_eq_getElem hjl⟩
   have HFT := Lib.hid (fsum_take (f := cnt_Tx) hx)
   have hfa := fsum_at (f := cnt_Tx) hx
   have hcx : cnt_Tx x = 1 + (fsum cnt_Op x.f_Ops + (1 + (1 + (fsum cnt_Store x.f_Backup)))) := rfl
   have hmx : (mks em_Tx cnt_Tx k xs)[j]? = some (em_Tx m x) := by rw [mks_at em_Tx cnt_Tx k hx, ← HM.out]
   obtain ⟨ad, e'⟩ := el_some cl_Tx_len (by decide) (HR.out _ S2.out.old) (List.getElem?_eq_some_iff.1 hmx).1
   subst e'
   have HK := fun w' (h : Below w.heap.size w w') => el5 cl_Tx_len (HR.out _ h) hmx rfl
   dsimp only [em_Tx] at HK
   have hwm : wt_Tx (co_Tx x) + 1 ≤ 1125899906842624 := by have h1 := wsum_mem (f := wt_Tx) (List.mem_map.2 ⟨x, List.mem_of_getElem? hx, rfl⟩ : co_Tx x ∈ xs.map co_Tx); have h2 := HF.out; rw [coS_Tx_eq] at h2; omega
   have HFW1 := Lib.hid (show wsum wt_Op (coS_Op x.f_Ops) ≤ 1125899906842624 from by have h2 : wt_Tx (co_Tx x) = wsum wt_Op (coS_Op x.f_Ops) + (wsum wt_Store (coS_Store x.f_Backup)) := rfl; omega)
   have HFW4 := Lib.hid (show wsum wt_Store (coS_Store x.f_Backup) ≤ 1125899906842624 from by have h2 : wt_Tx (co_Tx x) = wsum wt_Op (coS_Op x.f_Ops) + (wsum wt_Store (coS_Store x.f_Backup)) := rfl; omega)
   clear hwm
   obtain ⟨s1, hs1⟩ : ∃ u, u = fsum cnt_Op x.f_Ops := ⟨_, rfl⟩
   obtain ⟨s4, hs4⟩ : ∃ u, u = fsum cnt_Store x.f_Backup := ⟨_, rfl⟩
   rw [← hs1, ← hs4] at hcx
   have hmc : m + (cnt_Tx x : Int) ≤ 2305843009213693952 := by have := HM.out; have := HK1.out; omega
   have HCX := Lib.hid hcx
   have hcx' : (cnt_Tx x : Int) = 1 + (s1 : Int) + 1 + 1 + (s4 : Int) := by omega
   rw [hcx'] at hmc
   clear hcx' hcx hfa
   obtain ⟨m1', hm⟩ : ∃ u : Int, u = m + 1 := ⟨_, rfl⟩
   have bd0 : 0 < m1' ∧ m1' ≤ 2305843009213693952 := by omega
   have bl0 : m ≤ m1' := by omega
   have HM1 := Lib.hid hm
   have hme1 := hm
   clear hm
   obtain ⟨m2', hm⟩ : ∃ u : Int, u = m1' + (s1 : Int) := ⟨_, rfl⟩
   have bd1 : 0 < m2' ∧ m2' ≤ 2305843009213693952 := by omega
   have bl1 : m1' ≤ m2' := by omega
   have HM2 := Lib.hid hm
   have hme2 := hm
   clear hm
   obtain ⟨m3', hm⟩ : ∃ u : Int, u = m2' + 1 := ⟨_, rfl⟩
   have bd2 : 0 < m3' ∧ m3' ≤ 2305843009213693952 := by omega
   have bl2 : m2' ≤ m3' := by omega
   have HM3 := Lib.hid hm
   have hme3 := hm
   clear hm
   obtain ⟨m4', hm⟩ : ∃ u : Int, u = m3' + 1 := ⟨_, rfl⟩
   have bd3 : 0 < m4' ∧ m4' ≤ 2305843009213693952 := by omega
   have bl3 : m3' ≤ m4' := by omega
   have HM4 := Lib.hid hm
   have hme4 := hm
   clear hm
   obtain ⟨m5', hm⟩ : ∃ u : Int, u = m4' + (s4 : Int) := ⟨_, rfl⟩
   have bd4 : 0 < m5' ∧ m5' ≤ 2305843009213693952 := by omega
   have bl4 : m4' ≤ m5' := by omega
   have HM5 := Lib.hid hm
   have hme5 := hm
   clear hm
   have HRX := fun w' (h : Below w.heap.size w w') => rd_el (rw_ := rw_Tx) (by rw [← rws_Tx_eq]; exact HX.out w' h) hmx
   have hpt1 : rw_Tx (em_Tx m x) = rs_Op x.f_Ops_a x.f_Ops_c (mks em_Op cnt_Op (m + 1) x.f_Ops) ++ (rs_Store x.f_Backup_a x.f_Backup_c (mks em_Store cnt_Store ((((m + 1) + (fsum cnt_Op x.f_Ops : Int)) + 1) + 1) x.f_Backup)) := rfl
   have HD1 := fun w' (h : Below w.heap.size w w') => (show RowsRd w' w'.heap.size (rs_Op x.f_Ops_a x.f_Ops_c (mks em_Op cnt_Op (m + 1) x.f_Ops)) from (rd_left (by have h1 := HRX w' h; rw [hpt1] at h1; exact h1)))
   have hpt4 : rw_Tx (em_Tx m x) = rs_Op x.f_Ops_a x.f_Ops_c (mks em_Op cnt_Op (m + 1) x.f_Ops) ++ (rs_Store x.f_Backup_a x.f_Backup_c (mks em_Store cnt_Store ((((m + 1) + (fsum cnt_Op x.f_Ops : Int)) + 1) + 1) x.f_Backup)) := rfl
   have HD4 := fun w' (h : Below w.heap.size w w') => (show RowsRd w' w'.heap.size (rs_Store x.f_Backup_a x.f_Backup_c (mks em_Store cnt_Store ((((m + 1) + (fsum cnt_Op x.f_Ops : Int)) + 1) + 1) x.f_Backup)) from (rd_right (by have h1 := HRX w' h; rw [hpt4] at h1; exact h1)))
   try simp only [← hs1] at HK HD1 HD4
   try simp only [← hs4] at HK HD1 HD4
   try simp only [mks_len] at HK
   try simp only [← hme1] at HK HD1 HD4
   try simp only [← hme2] at HK HD1 HD4
   try simp only [← hme3] at HK HD1 HD4
   try simp only [← hme4] at HK HD1 HD4
   try simp only [← hme5] at HK HD1 HD4
   have HC1 := fun w' (h : Below w.heap.size w w') => held_OpS x.f_Ops_a x.f_Ops_c x.f_Ops m1' HFW1.out (by omega) (by have := bd1.2; omega) w' (rd_head (HD1 w' h)).reads (rd_tail (HD1 w' h))
   rw [← hs1, ← hme2] at HC1
   replace HC1 := Lib.hid HC1
   have HC4 := fun w' (h : Below w.heap.size w w') => held_StoreS x.f_Backup_a x.f_Backup_c x.f_Backup m4' HFW4.out (by omega) (by have := bd4.2; omega) w' (rd_head (HD4 w' h)).reads (rd_tail (HD4 w' h))
   rw [← hs4, ← hme5] at HC4
   replace HC4 := Lib.hid HC4
   replace HK := Lib.hid HK
   clear hmx hx hme1 hme2 hme3 hme4 hme5 hs1 HD1 hs4 HD4 HRX hpt1 hpt4 hmc
   obtain ⟨f0, f1, f2, f3, f4⟩ := HK.out _ S2.out.old
   go_upto_region 7 with fail
   try simp only [← HM1.out]
   go_wp2_with fail
   go_at_call 92
   refine (HC1.out _ S2.out.old).mono ?_
   rintro e w1 ⟨rfl, hb⟩
   clear f0 f1 f2 f3 f4
   have S3 := Lib.hid (S2.out.keep hb)
   clear S2
   clear hb
   obtain ⟨f0, f1, f2, f3, f4⟩ := HK.out _ S3.out.old
   have hneg1 : ¬ (m2' < 0) := by omega
   go_upto_region 10 with fail
   go_upto_region 13 with fail
   try simp only [← HM3.out]
   go_upto_region 16 with fail
   try simp only [← HM4.out]
   go_wp2_with fail
   go_at_call 44
   refine (HC4.out _ S3.out.old).mono ?_
   rintro e w2 ⟨rfl, hb⟩
   clear f0 f1 f2 f3 f4
   have S4 := Lib.hid (S3.out.keep hb)
   clear S3
   clear hb
   obtain ⟨f0, f1, f2, f3, f4⟩ := HK.out _ S4.out.old
   have hneg4 : ¬ (m5' < 0) := by omega
   go_wp2_with fail
   go_roundw
   case rel => exact ⟨j + 1, m5', by omega, by go_num, by first | rfl | go_num, by omega, by omega, And.intro (by have h1 := HFT.out; have h2 := HCX.out; have h3 := HM.out; have := HM1.out; have := HM2.out; have := HM3.out; have := HM4.out; have := HM5.out; omega) S4.out⟩
   case measure => simp [intOf]; omega
  ·
   skip
   obtain rfl : j = N := by omega
   have hT : xs.take j = xs := List.take_of_length_le (by have := HN.out; omega)
   have HT := Lib.hid hT
   clear hT
   go_wp2_with fail
   go_ret
   exact ⟨by have h := HM.out; rw [HT.out] at h; rw [← h] <;> rfl, S2.out.old⟩
end Go.Proofs.YthljdhfgphebnaaGreat.V

namespace Go.Proofs.YthljdhfgphebnaaGreat.V
open Go.ChangeShapes Go.WideShapes Go.ChangeAt Go.RowKit Mem Sl Sv Bag
open L5 (markT)
structure X_TxQueue where
 f_Txs : List X_Tx
structure Y_TxQueue where
 f_Txs_a : Option Addr
 f_Txs_c : Nat
 f_Txs : List Y_Tx
def co_TxQueue (z : Y_TxQueue) : X_TxQueue := ⟨coS_Tx z.f_Txs⟩
def cl_TxQueue (z : Y_TxQueue) : List Value := [.slice z.f_Txs_a z.f_Txs.length z.f_Txs_c]
def cs_TxQueue (z : Y_TxQueue) : Array Value := #[.slice z.f_Txs_a z.f_Txs.length z.f_Txs_c]
def cz_TxQueue : Array Value := #[.slice none 0 0]
def vv_TxQueue (z : Y_TxQueue) : Value := .agg #[.slice z.f_Txs_a z.f_Txs.length z.f_Txs_c]
def rw_TxQueue (z : Y_TxQueue) : List RowS := rs_Tx z.f_Txs_a z.f_Txs_c z.f_Txs
def wt_TxQueue (c : X_TxQueue) : Nat := wsum wt_Tx c.f_Txs
theorem wt_TxQueue_parts (z : Y_TxQueue) : wt_TxQueue (co_TxQueue z) = wsum wt_Tx (coS_Tx z.f_Txs) := rfl
def Wide_TxQueue (z : Y_TxQueue) : Prop := (z.f_Txs.length ≤ maxLen ∧ ∀ x ∈ z.f_Txs, Wide_Tx x)
section
variable {H : Type} {enc : TypeId × Value → H} {W : World} {b : Nat} {sp : Nat → Bool} {hd : Bool}
theorem trod_TxQueue {fuel : Nat} {cs : List Value} {x : DataW H × List MemPlace} (h : DataW.trod enc Tryz.prog W b sp hd fuel 52 cs = some x) (hlt : ∀ p ∈ x.2, p.block < W.heap.size) : ∃ z : Y_TxQueue, cs = cl_TxQueue z ∧ RowsRd W W.heap.size (rw_TxQueue z) ∧ Wide_TxQueue z := by
 obtain ⟨xs, n, _, hx, hl, hlen, hf⟩ := DataW.trod_struct Tryz.underlying52 h
 have hlN : cs.length = 1 := hl.trans (by kernel_rfl)
 match cs, hlN with
 | [c0], _ =>
  have h0 : DataW.trod enc Tryz.prog W b sp hd n 50 (List.take (Tryz.prog.cellsOf 50) (List.drop 0 [c0])) = xs[0]? := hf 0 _ rfl
  rw [show Tryz.prog.cellsOf 50 = 1 by kernel_rfl, List.getElem?_eq_getElem (by rw [hlen]; decide)] at h0
  obtain ⟨a0, x0, c0', e0, r0, v0, l0, w0⟩ := trods_Tx h0 (fun p hp => hlt p (by rw [hx]; exact List.mem_flatMap.2 ⟨_, List.getElem_mem (show 0 < xs.length by rw [hlen]; decide), hp⟩))
  simp only [List.drop_succ_cons, List.drop_zero, List.take_succ_cons, List.take_zero, List.cons.injEq, and_true] at e0
  subst e0
  exact ⟨⟨a0, c0', x0⟩, rfl, rd_cons ⟨r0.1, r0.2.1, r0.2.2⟩ (by rw [rws_Tx_eq]; exact v0), ⟨l0, w0⟩⟩
theorem open_TxQueue {b0 : Nat} {v : Value} {d : DataW H} {ps : List MemPlace} (hval : Value.okWide Tryz.prog W .any b0 52 v) (h0 : DataW.Trod enc Tryz.prog W b sp hd 52 v d ps) (hlt : ∀ p ∈ ps, p.block < W.heap.size) : ∃ z : Y_TxQueue, v = vv_TxQueue z ∧ RowsRd W W.heap.size (rw_TxQueue z) ∧ Wide_TxQueue z := by
 obtain ⟨cs, rfl, _⟩ := okWide_struct Tryz.underlying52 hval
 obtain ⟨fuel, hf0⟩ := h0
 obtain ⟨z, e, h1, h2⟩ := trod_TxQueue hf0 hlt
 obtain ⟨l⟩ := cs
 exact ⟨z, by rw [show l = cl_TxQueue z from e]; rfl, h1, h2⟩
end
set_option maxHeartbeats 4000000 in
theorem to_TxQueue (z : Y_TxQueue) (hf : wt_TxQueue (co_TxQueue z) ≤ 1048576) (w : World) (hr : RowsRd w w.heap.size (rw_TxQueue z)) : Calls Tryz.prog 23 #[vv_TxQueue z] w fun e w' => ∃ y : Y_TxQueue, e = .returned (vv_TxQueue y) ∧ co_TxQueue y = co_TxQueue z ∧ BagOwn w' w.heap.size (rw_TxQueue y) ∧ Below w.heap.size w w' := by
 have hfp := hf
 rw [wt_TxQueue_parts] at hfp
 have HC0 := Lib.hid (fun w' (h : Below w.heap.size w w') => to_TxS z.f_Txs_a z.f_Txs_c z.f_Txs (by omega) w' (((rd_head hr).reads.below h).more h.size) (((rd_tail hr).below h).more h.size))
 clear hfp hf hr
 unfold vv_TxQueue
 have S1 := Lib.hid (show Sl.Sep w _ [_, _] from L4.push_box (L4.push_box (Sl.Sep.start w) 52 #[.slice z.f_Txs_a z.f_Txs.length z.f_Txs_c] (w.heap.size) (by simp)) 56 #[.slice none 0 0] (w.heap.size + 1) (by simp))
 obtain ⟨wa, hwa⟩ : ∃ w_, w_ = ((w.alloc (.cells #[.slice z.f_Txs_a z.f_Txs.length z.f_Txs_c] 52)).alloc (.cells #[.slice none 0 0] 56)) := ⟨_, rfl⟩
 rw [← hwa] at S1
 go_enter Tryz.func23, Tryz.ntmps23
 go_upto_region 1 with fail
 rw [← hwa]
 clear hwa
 go_upto_region 2 with fail
 have S2 := Lib.hid (show Sl.Sep w _ [_, _, _] from L4.push_box S1.out 56 #[.slice none 0 0] wa.heap.size rfl)
 clear S1
 obtain ⟨g1, hg⟩ : ∃ g', g' = wa.heap.size := ⟨_, rfl⟩
 rw [← hg] at S2 ⊢
 clear hg
 generalize wa.alloc (.cells #[.slice none 0 0] 56) = w1 at S2 ⊢
 have f0 := Bag.cs1 S2.out 0 rfl
 go_wp2_with fail
 go_at_call 54
 refine (HC0.out _ S2.out.old).mono ?_
 rintro e w2 ⟨a0', c0', y0, rfl, hc0, ho, hb⟩
 clear f0
 have S3 := Lib.hid (show Sl.Sep w _ [_, _, L4.boxR g1 56 #[.slice none 0 0], Bag.bag (rs_Tx a0' c0' y0)] from Bag.push_bag S2.out hb ho)
 clear S2
 clear hb ho
 have HQ0 := Lib.hid hc0
 clear hc0
 have f0 := Bag.cs1 S3.out 0 rfl
 have f1 := Bag.cs1 S3.out 2 rfl
 have z0 := Bag.free_at S3.out 2 rfl 0
 go_upto_region 3 with fail
 clear f0 f1 z0
 have S4 := Lib.hid (show Sl.Sep w _ [_, _, L4.boxR g1 56 #[.slice a0' y0.length c0'], _] from L5.put_box5 (S3.out) 2 rfl 0 (.slice a0' y0.length c0'))
 clear S3
 have f0 := Bag.cs1 S4.out 1 rfl
 have f1 := Bag.cs1 S4.out 2 rfl
 have z0 := Bag.free_at S4.out 1 rfl 0
 go_wp2_with fail
 clear f0 f1 z0
 have S5 := Lib.hid (show Sl.Sep w _ [_, L4.boxR (w.heap.size + 1) 56 #[.slice a0' y0.length c0'], _, _] from L5.put_box5 (S4.out) 1 rfl 0 (.slice a0' y0.length c0'))
 clear S4
 have f0 := Bag.cs1 S5.out 1 rfl
 refine bodyPost_ret (v := .agg #[.slice a0' y0.length c0']) (by simp [results, Tryz.results23, go_sem, *]) rfl ?_
 clear f0
 refine ⟨⟨a0', c0', y0⟩, rfl, ?_, Bag.bag_from S5.out 3 rfl, S5.out.old⟩
 show (⟨coS_Tx y0⟩ : X_TxQueue) = (⟨coS_Tx z.f_Txs⟩ : X_TxQueue)
 rw [HQ0.out]
set_option maxHeartbeats 4000000 in
theorem sz_TxQueue (z : Y_TxQueue) (q : Int) (hw : Wide_TxQueue z) (hq0 : -1 ≤ q) (hq1 : q ≤ 1048576) (w : World) (hr : RowsRd w w.heap.size (rw_TxQueue z)) : Calls Tryz.prog 21 #[vv_TxQueue z, .int .i64 q] w fun e w' => e = .returned (.int .i64 (lft q (wt_TxQueue (co_TxQueue z)))) ∧ Below w.heap.size w w' := by
 have HS0 := Lib.hid (fun (m : Int) (h0 : -1 ≤ m) (h1 : m ≤ 1048576) w' (h : Below w.heap.size w w') => sz_TxS z.f_Txs_a z.f_Txs_c z.f_Txs m hw.2 hw.1 h0 h1 w' (((rd_head hr).reads.below h).more h.size) (((rd_tail hr).below h).more h.size))
 have HW := Lib.hid (wt_TxQueue_parts z)
 clear hw hr
 unfold vv_TxQueue
 have S1 := Lib.hid (show Sl.Sep w _ [_] from L4.push_box (Sl.Sep.start w) 52 #[.slice z.f_Txs_a z.f_Txs.length z.f_Txs_c] (w.heap.size) (by simp))
 obtain ⟨wa, hwa⟩ : ∃ w_, w_ = (w.alloc (.cells #[.slice z.f_Txs_a z.f_Txs.length z.f_Txs_c] 52)) := ⟨_, rfl⟩
 rw [← hwa] at S1
 go_enter Tryz.func21, Tryz.ntmps21
 go_upto_region 1 with fail
 rw [← hwa]
 clear hwa
 have f0 := Bag.cs1 S1.out 0 rfl
 obtain ⟨u0, hu⟩ : ∃ u, lft q (wsum wt_Tx (coS_Tx z.f_Txs)) = u := ⟨_, rfl⟩
 have hc0 := lft_cases hu
 have hr0 := lft_range (q := q) (wsum wt_Tx (coS_Tx z.f_Txs)) (by omega)
 rw [hu] at hr0
 have HCU := HS0.out q (by omega) (by omega)
 simp only [hu] at HCU
 replace HCU := Lib.hid HCU
 clear hu
 go_wp2_with fail
 go_at_call 49
 refine (HCU.out _ S1.out.old).mono ?_
 rintro e w1 ⟨rfl, hb⟩
 clear f0
 have S2 := Lib.hid (S1.out.keep hb)
 clear S1
 clear hb
 have f0 := Bag.cs1 S2.out 0 rfl
 clear HCU
 by_cases hn0 : u0 < 0
 ·
  have hm1 : u0 = -1 := by omega
  subst hm1
  go_wp2_with fail
  go_ret
  exact ⟨by rw [HW.out, lft_neg (by omega)] <;> rfl, S2.out.old⟩
 ·
  skip
  go_wp2_with fail
  go_ret
  exact ⟨by rw [HW.out, lft_pos (by omega)] <;> first | rfl | (refine congrArg (fun i => Ending.returned (.int .i64 i)) ?_; omega), S2.out.old⟩
set_option maxHeartbeats 4000000 in
theorem eq_TxQueue (y z : Y_TxQueue) (hc : co_TxQueue y = co_TxQueue z) (hf : wt_TxQueue (co_TxQueue y) ≤ 1125899906842624) (w : World) (hr : RowsRd w w.heap.size (rw_TxQueue y)) (hr2 : RowsRd w w.heap.size (rw_TxQueue z)) : Calls Tryz.prog 25 #[vv_TxQueue y, vv_TxQueue z] w fun e w' => e = .returned (.bool true) ∧ Below w.heap.size w w' := by
 have hfp := hf
 rw [wt_TxQueue_parts] at hfp
 have ee0 : z.f_Txs.length = y.f_Txs.length := (by have h := congrArg List.length (show coS_Tx y.f_Txs = coS_Tx z.f_Txs from congrArg X_TxQueue.f_Txs (hc)); rw [coS_Tx_eq, coS_Tx_eq, List.length_map, List.length_map] at h; exact h.symm)
 have HE0 := Lib.hid (fun w' (h : Below w.heap.size w w') => eq_TxS y.f_Txs_a z.f_Txs_a y.f_Txs_c z.f_Txs_c y.f_Txs z.f_Txs (congrArg X_TxQueue.f_Txs hc) (by omega) w' (((rd_head hr).reads.below h).more h.size) (((rd_tail hr).below h).more h.size) (((rd_head hr2).reads.below h).more h.size) (((rd_tail hr2).below h).more h.size))
 simp only [ee0] at HE0
 have hv : vv_TxQueue z = .agg #[.slice z.f_Txs_a y.f_Txs.length z.f_Txs_c] := by unfold vv_TxQueue; simp only [ee0]
 rw [hv]
 clear hv hfp hf hc hr hr2 ee0
 unfold vv_TxQueue
 have S1 := Lib.hid (show Sl.Sep w _ [_, _] from L4.push_box (L4.push_box (Sl.Sep.start w) 56 #[.slice y.f_Txs_a y.f_Txs.length y.f_Txs_c] (w.heap.size) (by simp)) 56 #[.slice z.f_Txs_a y.f_Txs.length z.f_Txs_c] (w.heap.size + 1) (by simp))
 obtain ⟨wa, hwa⟩ : ∃ w_, w_ = ((w.alloc (.cells #[.slice y.f_Txs_a y.f_Txs.length y.f_Txs_c] 56)).alloc (.cells #[.slice z.f_Txs_a y.f_Txs.length z.f_Txs_c] 56)) := ⟨_, rfl⟩
 rw [← hwa] at S1
 go_enter Tryz.func25, Tryz.ntmps25
 go_upto_region 1 with fail
 rw [← hwa]
 clear hwa
 have f0 := Bag.cs1 S1.out 0 rfl
 have f1 := Bag.cs1 S1.out 1 rfl
 go_wp2_with fail
 go_at_call 57
 refine (HE0.out _ S1.out.old).mono ?_
 rintro e w1 ⟨rfl, hb⟩
 clear f0 f1
 have S2 := Lib.hid (S1.out.keep hb)
 clear S1
 clear hb
 have f0 := Bag.cs1 S2.out 0 rfl
 have f1 := Bag.cs1 S2.out 1 rfl
 go_wp2_with fail
 go_ret
 exact ⟨rfl, S2.out.old⟩
def cnt_TxQueue (z : Y_TxQueue) : Nat := fsum cnt_Tx z.f_Txs
theorem cntS_TxQueue (z : Y_TxQueue) : cnt_TxQueue z ≤ 64 * (wt_TxQueue (co_TxQueue z) + 1) := by
 have h0 := cnt_sum cntS_Tx z.f_Txs
 have hw : wt_TxQueue (co_TxQueue z) = wsum wt_Tx (coS_Tx z.f_Txs) := by rfl
 rw [← coS_Tx_eq] at h0
 unfold cnt_TxQueue
 omega
def md_TxQueue (k : Int) (z : Y_TxQueue) : Y_TxQueue := ⟨z.f_Txs_a, z.f_Txs_c, (mks em_Tx cnt_Tx k z.f_Txs)⟩
def ct_TxQueue (z : Y_TxQueue) : Nat := fsum cnt_Tx z.f_Txs
theorem ctS_TxQueue (z : Y_TxQueue) : ct_TxQueue z ≤ 64 * (wt_TxQueue (co_TxQueue z) + 1) := by
 have h : ct_TxQueue z ≤ cnt_TxQueue z := by unfold ct_TxQueue cnt_TxQueue; omega
 exact Nat.le_trans h (cntS_TxQueue z)
theorem rw_TxQueue_fp (k : Int) (z : Y_TxQueue) : (bag (rw_TxQueue (md_TxQueue k z))).fp = (bag (rw_TxQueue z)).fp := by
 show (rs_Tx z.f_Txs_a z.f_Txs_c (mks em_Tx cnt_Tx k z.f_Txs)).flatMap RowS.fp = (rs_Tx z.f_Txs_a z.f_Txs_c z.f_Txs).flatMap RowS.fp
 simp only [List.flatMap_append, rs_Tx_fp]
set_option maxHeartbeats 8000000 in
theorem mark_TxQueue_sep (z : Y_TxQueue) (k : Int) (W w : World) (S : Sl.Sep W w [bag (rw_TxQueue z), Run.restL W w (bag (rw_TxQueue z)).fp]) (hf : wt_TxQueue (co_TxQueue z) ≤ 1125899906842624) (hk0 : 0 < k) (hk1 : k + (ct_TxQueue z : Int) ≤ 2305843009213693952) :
  Calls Tryz.prog 26 #[vv_TxQueue z, .int .i64 k] w fun e w' => e = .returned (.int .i64 (k + (ct_TxQueue z : Int))) ∧ Sl.Sep W w' [bag (rw_TxQueue (md_TxQueue k z)), Run.restL W w (bag (rw_TxQueue z)).fp] := by
 have hct : ct_TxQueue z = fsum cnt_Tx z.f_Txs := rfl
 rw [wt_TxQueue_parts] at hf
 have HFW0 := Lib.hid (show wsum wt_Tx (coS_Tx z.f_Txs) ≤ 1125899906842624 from by omega)
 obtain ⟨s0, hs0⟩ : ∃ u, u = fsum cnt_Tx z.f_Txs := ⟨_, rfl⟩
 rw [← hs0] at hct
 obtain ⟨m1', hm1⟩ : ∃ u : Int, u = k + (s0 : Int) := ⟨_, rfl⟩
 have bd0 : 0 < m1' ∧ m1' ≤ 2305843009213693952 := by omega
 have HM1 := Lib.hid hm1
 have HS0 := Lib.hid hs0
 have HCT := Lib.hid (show k + (ct_TxQueue z : Int) = m1' by omega)
 obtain ⟨fps, hfps⟩ : ∃ f, f = (bag (rw_TxQueue z)).fp := ⟨_, rfl⟩
 rw [← hfps] at S ⊢
 have S1 := Lib.hid S
 clear hf hct hfps S hk1 hs0 hm1
 unfold vv_TxQueue
 have S2 := Lib.hid (show Sl.Sep W _ [Bag.bag (rs_Tx z.f_Txs_a z.f_Txs_c z.f_Txs), Run.restL W w fps] from S1.out)
 clear S1
 have S3 := Lib.hid (show Sl.Sep W _ [_, _, _] from L4.push_box S2.out 56 #[.slice z.f_Txs_a z.f_Txs.length z.f_Txs_c] w.heap.size rfl)
 clear S2
 obtain ⟨wa, hwa⟩ : ∃ u, u = (w.alloc (.cells #[.slice z.f_Txs_a z.f_Txs.length z.f_Txs_c] 56)) := ⟨_, rfl⟩
 rw [← hwa] at S3
 go_enter Tryz.func26, Tryz.ntmps26
 go_upto_region 1 with fail
 rw [← hwa]
 clear hwa
 have f0 := Bag.cs1 S3.out 2 rfl
 go_wp2_with fail
 go_at_call 58
 have HC := mark_TxS S3.out 0 (a := z.f_Txs_a) (c := z.f_Txs_c) (xs := z.f_Txs) rfl k HFW0.out (by omega) (by have := HS0.out; have := bd0.2; have := HM1.out; omega)
 try dsimp only [vv_TxS] at HC
 rw [← HS0.out, ← HM1.out] at HC
 refine HC.mono ?_
 clear HC
 rintro e w1 ⟨rfl, hS⟩
 clear f0
 have S4 := Lib.hid (show Sl.Sep W _ [Bag.bag (rs_Tx z.f_Txs_a z.f_Txs_c (mks em_Tx cnt_Tx k z.f_Txs)), _, _] from hS)
 clear S3
 clear hS
 have f0 := Bag.cs1 S4.out 2 rfl
 clear f0
 have HEM := Lib.hid (show rw_TxQueue (md_TxQueue k z) = (rs_Tx z.f_Txs_a z.f_Txs_c (mks em_Tx cnt_Tx k z.f_Txs)) from by first | rfl | (simp only [HM1.out, HS0.out]; rfl))
 have S5 := Lib.hid (show Sl.Sep W _ [Bag.bag (rw_TxQueue (md_TxQueue k z)), _, _] from (by rw [HEM.out]; exact S4.out))
 clear S4
 have S6 := Lib.hid (show Sl.Sep W _ [_, _] from Bag.take S5.out [0, 1] (by rfl) (by decide))
 clear S5
 go_wp2_with fail
 go_ret
 exact ⟨by rw [HCT.out] <;> rfl, S6.out⟩
theorem mark_TxQueue {W w : World} {rs : List Res} (h : Sl.Sep W w rs) (i : Nat) {z : Y_TxQueue} (hi : rs[i]? = some (bag (rw_TxQueue z))) (k : Int) (hf : wt_TxQueue (co_TxQueue z) ≤ 1125899906842624) (hk0 : 0 < k) (hk1 : k + (ct_TxQueue z : Int) ≤ 2305843009213693952) :
  Calls Tryz.prog 26 #[vv_TxQueue z, .int .i64 k] w fun e w' => e = .returned (.int .i64 (k + (ct_TxQueue z : Int))) ∧ Sl.Sep W w' (rs.set i (bag (rw_TxQueue (md_TxQueue k z)))) :=
 (mark_TxQueue_sep z k W w (Run.restL_start h i hi) hf hk0 hk1).mono fun _ _ ⟨he, hs⟩ => ⟨he, Run.restL_back h i hi hs (rw_TxQueue_fp k z)⟩
set_option maxHeartbeats 4000000 in
theorem held_TxQueue (z : Y_TxQueue) (k : Int) (hf : wt_TxQueue (co_TxQueue z) ≤ 1125899906842624) (hk0 : 0 < k) (hk1 : k + (ct_TxQueue z : Int) ≤ 2305843009213693952) (w : World) (hr : RowsRd w w.heap.size (rw_TxQueue (md_TxQueue k z))) :
  Calls Tryz.prog 27 #[vv_TxQueue z, .int .i64 k] w fun e w' => e = .returned (.int .i64 (k + (ct_TxQueue z : Int))) ∧ Below w.heap.size w w' := by
 have hct : ct_TxQueue z = fsum cnt_Tx z.f_Txs := rfl
 rw [wt_TxQueue_parts] at hf
 have hr' : RowsRd w w.heap.size (rs_Tx z.f_Txs_a z.f_Txs_c (mks em_Tx cnt_Tx k z.f_Txs)) := hr
 have hp0 : RowsRd w w.heap.size (rs_Tx z.f_Txs_a z.f_Txs_c (mks em_Tx cnt_Tx k z.f_Txs)) := hr'
 have HFW0 := Lib.hid (show wsum wt_Tx (coS_Tx z.f_Txs) ≤ 1125899906842624 from by omega)
 obtain ⟨s0, hs0⟩ : ∃ u, u = fsum cnt_Tx z.f_Txs := ⟨_, rfl⟩
 try simp only [← hs0] at hct hp0
 obtain ⟨m1', hm1⟩ : ∃ u : Int, u = k + (s0 : Int) := ⟨_, rfl⟩
 have bd0 : 0 < m1' ∧ m1' ≤ 2305843009213693952 := by omega
 have hneg0 : ¬ (m1' < 0) := by omega
 try simp only [← hm1] at hp0
 have HC0 := fun w' (h : Below w.heap.size w w') => held_TxS z.f_Txs_a z.f_Txs_c z.f_Txs k HFW0.out (by omega) (by have := bd0.2; omega) w' (((rd_head hp0).reads.below h).more h.size) (((rd_tail hp0).below h).more h.size)
 rw [← hs0, ← hm1] at HC0
 replace HC0 := Lib.hid HC0
 have HCT := Lib.hid (show k + (ct_TxQueue z : Int) = m1' by omega)
 clear hf hct hr hr' hk1 hs0 hm1 hp0
 unfold vv_TxQueue
 have S1 := Lib.hid (show Sl.Sep w _ [_] from L4.push_box (Sl.Sep.start w) 56 #[.slice z.f_Txs_a z.f_Txs.length z.f_Txs_c] (w.heap.size) (by simp))
 obtain ⟨wa, hwa⟩ : ∃ w_, w_ = (w.alloc (.cells #[.slice z.f_Txs_a z.f_Txs.length z.f_Txs_c] 56)) := ⟨_, rfl⟩
 rw [← hwa] at S1
 go_enter Tryz.func27, Tryz.ntmps27
 go_upto_region 1 with fail
 rw [← hwa]
 clear hwa
 have f0 := Bag.cs1 S1.out 0 rfl
 go_wp2_with fail
 go_at_call 59
 refine (HC0.out _ S1.out.old).mono ?_
 rintro e w1 ⟨rfl, hb⟩
 clear f0
 have S2 := Lib.hid (S1.out.keep hb)
 clear S1
 clear hb
 have f0 := Bag.cs1 S2.out 0 rfl
 go_wp2_with fail
 go_ret
 exact ⟨by rw [HCT.out] <;> rfl, S2.out.old⟩
end Go.Proofs.YthljdhfgphebnaaGreat.V

namespace Go.Proofs.YthljdhfgphebnaaGreat.L10
theorem any_no {α : Type} {p : α → Bool} {xs : List α} (h : ∀ j (hj : j < xs.length), p xs[j] = false) : xs.any p = false := by
 rw [List.any_eq_false]
 intro x hx
 obtain ⟨j, hj, rfl⟩ := List.mem_iff_getElem.1 hx
 rw [h j hj]; decide
theorem any_yes {α : Type} {p : α → Bool} {xs : List α} {k : Nat} {x : α} (hx : xs[k]? = some x) (h : p x = true) : xs.any p = true :=
 List.any_eq_true.2 ⟨x, List.mem_of_getElem? hx, h⟩
end Go.Proofs.YthljdhfgphebnaaGreat.L10

namespace Go.Proofs.YthljdhfgphebnaaGreat.L10
open V L6 L9
open L4 (K isK cmpK R)
open Go.ChangeShapes Go.WideShapes Go.ChangeAt Go.RowKit Mem Sl Sv Bag

def confO (x y : X_Op) : Bool := x.f_Store.toList == y.f_Store.toList && (isW x.f_Kind || isW y.f_Kind)
def conf (a b : List X_Op) : Bool := a.any fun x => b.any fun y => confO x y
def live (s : Int) : Bool := s == 0 || s == 1
theorem live_eq (s : Int) : L1.inB s 0 1 = live s := by
 unfold L1.inB live
 rw [Bool.eq_iff_iff]
 simp only [Bool.and_eq_true, decide_eq_true_eq, Bool.or_eq_true, beq_iff_eq]
 omega
def holdsBack (u t : X_Tx) : Bool := live u.f_State && conf u.f_Ops t.f_Ops
def csQ (l : List X_Tx) (i : Int) : Bool :=
 L1.inB i 0 ((l.length : Int) - 1) && match l[i.toNat]? with
 | none => false
 | some t => t.f_State == 0 && !((l.take i.toNat).any fun u => holdsBack u t)

def inSt (l : List X_Tx) (i s : Int) : Bool :=
 L1.inB i 0 ((l.length : Int) - 1) && match l[i.toNat]? with
 | none => false
 | some t => t.f_State == s

structure FitT (t : X_Tx) : Prop where
 ops : ∀ o ∈ t.f_Ops, FitO o
 len : t.f_Ops.length ≤ 1048576
 back : ∀ s ∈ t.f_Backup, FitS s
 blen : t.f_Backup.length ≤ 1048576
structure FitQ (q : List X_Tx) : Prop where
 txs : ∀ t ∈ q, FitT t
 len : q.length ≤ 1048576

theorem coT_len {ts : List Y_Tx} : (coS_Tx ts).length = ts.length := by rw [coS_Tx_eq, List.length_map]
theorem coT_at {ts : List Y_Tx} {k : Nat} {x : Y_Tx} (h : ts[k]? = some x) : (coS_Tx ts)[k]? = some (co_Tx x) := by rw [coS_Tx_eq, List.getElem?_map, h]; rfl
section
variable {w : World} {B : Nat} {z : Y_Tx}
theorem rdTs {ts : List Y_Tx} {k : Nat} {x : Y_Tx} (h : RowsRd w B (rws_Tx ts)) (hx : ts[k]? = some x) : RowsRd w B (rw_Tx x) := rd_el (rw_ := rw_Tx) h hx
theorem rdTo (h : RowsRd w B (rw_Tx z)) : Reads w B z.f_Ops_a (z.f_Ops.flatMap cl_Op) := (rd_head (rd_left h)).reads
theorem rdTox (h : RowsRd w B (rw_Tx z)) : RowsRd w B (rws_Op z.f_Ops) := rd_tail (rd_left h)
theorem rdTb (h : RowsRd w B (rw_Tx z)) : Reads w B z.f_Backup_a (z.f_Backup.flatMap cl_Store) := (rd_head (rd_right h)).reads
theorem rdTbx (h : RowsRd w B (rw_Tx z)) : RowsRd w B (rws_Store z.f_Backup) := rd_tail (rd_right h)
end
section
variable {w : World} {B : Nat} {z : Y_TxQueue}
theorem rdQ (h : RowsRd w B (rw_TxQueue z)) : Reads w B z.f_Txs_a (z.f_Txs.flatMap cl_Tx) := (rd_head h).reads
theorem rdQx (h : RowsRd w B (rw_TxQueue z)) : RowsRd w B (rws_Tx z.f_Txs) := rd_tail h
end

theorem csQ_out {l : List X_Tx} {i : Int} (h : L1.inB i 0 ((l.length : Int) - 1) = false) : csQ l i = false := by unfold csQ; rw [h]; rfl
theorem csQ_state {l : List X_Tx} {k : Nat} {t : X_Tx} (ht : l[k]? = some t) (h : (t.f_State == 0) = false) : csQ l (k : Int) = false := by
 unfold csQ
 rw [Int.toNat_natCast, ht]
 dsimp only
 rw [h, Bool.false_and, Bool.and_false]
theorem csQ_back {l : List X_Tx} {k j : Nat} {t u : X_Tx} (ht : l[k]? = some t) (hj : j < k) (hu : l[j]? = some u) (h : holdsBack u t = true) : csQ l (k : Int) = false := by
 unfold csQ
 rw [Int.toNat_natCast, ht]
 dsimp only
 rw [any_yes (k := j) (x := u) (by rw [List.getElem?_take, if_pos hj]; exact hu) h]
 simp
theorem csQ_yes {l : List X_Tx} {k : Nat} {t : X_Tx} (ht : l[k]? = some t) (h : (t.f_State == 0) = true) (ha : ∀ j (h1 : j < l.length), j < k → holdsBack l[j] t = false) : csQ l (k : Int) = true := by
 have hk := (List.getElem?_eq_some_iff.1 ht).1
 unfold csQ
 rw [Int.toNat_natCast, ht, L1.inB_true.2 (by omega)]
 dsimp only
 rw [h, any_no (fun j hj => by rw [List.getElem_take]; exact ha j (by rw [List.length_take] at hj; omega) (by rw [List.length_take] at hj; omega))]
 rfl
theorem inSt_out {l : List X_Tx} {i s : Int} (h : L1.inB i 0 ((l.length : Int) - 1) = false) : inSt l i s = false := by unfold inSt; rw [h]; rfl
theorem inSt_at {l : List X_Tx} {k : Nat} {s : Int} {t : X_Tx} (ht : l[k]? = some t) : inSt l (k : Int) s = (t.f_State == s) := by
 have hk := (List.getElem?_eq_some_iff.1 ht).1
 unfold inSt
 rw [Int.toNat_natCast, ht, L1.inB_true.2 (by omega)]
 rfl
theorem inSt_yes {l : List X_Tx} {i s : Int} (h : inSt l i s = true) : ∃ (k : Nat) (t : X_Tx), i = (k : Int) ∧ l[k]? = some t ∧ (t.f_State == s) = true := by
 unfold inSt at h
 rw [Bool.and_eq_true, L1.inB_true] at h
 obtain ⟨⟨h1, h2⟩, h3⟩ := h
 obtain ⟨k, rfl⟩ : ∃ k : Nat, i = (k : Int) := ⟨i.toNat, by omega⟩
 rw [Int.toNat_natCast] at h3
 cases ht : l[k]? with
 | none => rw [ht] at h3; cases h3
 | some t => rw [ht] at h3; exact ⟨k, t, rfl, ht, h3⟩
theorem csQ_at {l : List X_Tx} {k : Nat} {t : X_Tx} (ht : l[k]? = some t) (h : (t.f_State == 0) = true) : csQ l (k : Int) = !((l.take k).any fun u => holdsBack u t) := by
 have hk := (List.getElem?_eq_some_iff.1 ht).1
 unfold csQ
 rw [Int.toNat_natCast, ht, L1.inB_true.2 (by omega)]
 dsimp only
 rw [h]
 simp
theorem csQ_not {l : List X_Tx} {i : Int} (h : inSt l i 0 = false) : csQ l i = false := by
 unfold inSt at h
 unfold csQ
 cases hb : L1.inB i 0 ((l.length : Int) - 1) with
 | false => rfl
 | true =>
  rw [hb, Bool.true_and] at h
  rw [Bool.true_and]
  cases ht : l[i.toNat]? with
  | none => rfl
  | some t => rw [ht] at h; dsimp only at h ⊢; rw [h]; rfl
end Go.Proofs.YthljdhfgphebnaaGreat.L10

namespace Go.Proofs.YthljdhfgphebnaaGreat.V
open Go.ChangeShapes Go.WideShapes Go.ChangeAt Go.RowKit Mem Sl Sv Bag
structure Y_OpZ where
 a : Option Addr
 c : Nat
 xs : List Y_Op
section
variable {H : Type} {enc : TypeId × Value → H} {W : World} {b : Nat} {sp : Nat → Bool} {hd : Bool}
end
end Go.Proofs.YthljdhfgphebnaaGreat.V

namespace Go.Proofs.YthljdhfgphebnaaGreat.L9
open V L6
open L4 (K isK cmpK)
open L5 (F isR isN Small)
open Go.ChangeShapes Go.WideShapes Go.ChangeAt Go.RowKit Mem Sl Ex L2 Sv Bag

theorem fitR_wt {l : List F} (h : wt_Record l ≤ 1048576) : l.length ≤ 1048576 ∧ Small l := by
 have h1 : l.length ≤ wt_Record l := wsum_len wt_Field l
 refine ⟨by omega, fun f hf => ?_⟩
 have h2 : wt_Field f + 1 ≤ wt_Record l := wsum_mem hf
 have h3 : wt_Field f = f.name.size := rfl
 omega
theorem fitO_wt {o : X_Op} (h : wt_Op o ≤ 1048576) : FitO o := by
 have h1 : wt_Op o = o.f_Store.size + (o.f_Key.text.size + (wt_Record o.f_Record + o.f_Field.size)) := rfl
 obtain ⟨h2, h3⟩ := fitR_wt (l := o.f_Record) (by omega)
 exact ⟨by omega, by omega, h2, h3, by omega⟩
theorem fitOs_wt {l : List X_Op} (h : wsum wt_Op l ≤ 1048576) : l.length ≤ 1048576 ∧ ∀ o ∈ l, FitO o := by
 have h1 := wsum_len wt_Op l
 refine ⟨by omega, fun o ho => fitO_wt ?_⟩
 have h2 : wt_Op o + 1 ≤ wsum wt_Op l := wsum_mem ho
 omega
end Go.Proofs.YthljdhfgphebnaaGreat.L9

namespace Go.Proofs.YthljdhfgphebnaaGreat.L10
open V L6 L9
open Go.ChangeShapes Go.WideShapes Go.ChangeAt Go.RowKit Mem Sl Sv Bag

theorem fitI_wt {x : It} (h : wt_Item x ≤ 1048576) : FitI x := by
 have h1 : wt_Item x = x.k.text.size + wt_Record x.l := rfl
 obtain ⟨h2, h3⟩ := fitR_wt (l := x.l) (by omega)
 exact ⟨by omega, h2, h3⟩
theorem fitS_wt {s : S6} (h : wt_Store s ≤ 1048576) : FitS s := by
 have h1 : wt_Store s = s.name.size + wsum wt_Item s.items := rfl
 have h2 := wsum_len wt_Item s.items
 refine ⟨by omega, by omega, fun x hx => fitI_wt ?_⟩
 have h3 : wt_Item x + 1 ≤ wsum wt_Item s.items := wsum_mem hx
 omega
theorem fitT_wt {t : X_Tx} (h : wt_Tx t ≤ 1048576) : FitT t := by
 have h1 : wt_Tx t = wsum wt_Op t.f_Ops + wsum wt_Store t.f_Backup := rfl
 have h2 := fitOs_wt (l := t.f_Ops) (by omega)
 have h3 := wsum_len wt_Store t.f_Backup
 refine ⟨h2.2, h2.1, fun s hs => fitS_wt ?_, by omega⟩
 have h4 : wt_Store s + 1 ≤ wsum wt_Store t.f_Backup := wsum_mem hs
 omega
theorem fitQ_wt {z : Y_TxQueue} (h : wt_TxQueue (co_TxQueue z) ≤ 1048576) : z.f_Txs.length ≤ 1048576 ∧ ∀ t ∈ coS_Tx z.f_Txs, FitT t := by
 have h1 : wt_TxQueue (co_TxQueue z) = wsum wt_Tx (coS_Tx z.f_Txs) := rfl
 have h2 := wsum_len wt_Tx (coS_Tx z.f_Txs)
 rw [coT_len] at h2
 refine ⟨by omega, fun t ht => fitT_wt ?_⟩
 have h4 : wt_Tx t + 1 ≤ wsum wt_Tx (coS_Tx z.f_Txs) := wsum_mem ht
 omega
end Go.Proofs.YthljdhfgphebnaaGreat.L10

namespace Go.Proofs.YthljdhfgphebnaaGreat.L9
open V L6
open L2 Ex
open L4 (K isK encU toU toI decK)
open L5 (F isR isN encR decL Small)
open Go.ChangeShapes Go.WideShapes Go.ChangeAt Go.RowKit Mem Sl Bag

def RaMid (m : Lim) (l : List Int) (off : Int) (n k : Nat) (acc : List X_Op) (o : Int) : Prop := acc.length = k ∧ rdAll m l off n = (rdAll m l o (n - k)).map fun p => (acc ++ p.1, p.2)
theorem RaMid.start (m : Lim) (l : List Int) (off : Int) (n : Nat) : RaMid m l off n 0 [] off := ⟨rfl, by simp⟩
theorem RaMid.fail {m : Lim} {l : List Int} {off : Int} {n k : Nat} {acc : List X_Op} {o : Int} (h : RaMid m l off n k acc o) (hk : k < n) (hr : rdOp m l o = Option.none) : rdAll m l off n = Option.none := by
 rw [h.2, show n - k = (n - (k + 1)) + 1 by omega, rdAll, hr]
 rfl
theorem RaMid.next {m : Lim} {l : List Int} {off : Int} {n k : Nat} {acc : List X_Op} {o e : Int} {x : X_Op} (h : RaMid m l off n k acc o) (hk : k < n) (hr : rdOp m l o = some (x, e)) : RaMid m l off n (k + 1) (acc ++ [x]) e := by
 refine ⟨by rw [List.length_append, h.1]; rfl, ?_⟩
 rw [h.2, show n - k = (n - (k + 1)) + 1 by omega, rdAll, hr]
 dsimp only
 cases rdAll m l e (n - (k + 1)) with
 | none => rfl
 | some q => simp
end Go.Proofs.YthljdhfgphebnaaGreat.L9

namespace Go.Proofs.YthljdhfgphebnaaGreat.L9s
abbrev T := List UInt8
def insN : List T → T → List T
 | [], x => [x]
 | y :: t, x => if y < x then y :: insN t x else if y = x then y :: t else x :: y :: t
def scopeN (l : List T) : List T := l.foldl insN []

theorem mem_insN (x z : T) : ∀ l, z ∈ insN l x ↔ z = x ∨ z ∈ l
 | [] => by simp [insN]
 | y :: t => by
  simp only [insN]
  split
  ·
   rw [List.mem_cons, mem_insN x z t, List.mem_cons]
   constructor
   ·
    rintro (h | h | h)
    ·
     exact .inr (.inl h)
    ·
     exact .inl h
    ·
     exact .inr (.inr h)
   ·
    rintro (h | h | h)
    ·
     exact .inr (.inl h)
    ·
     exact .inl h
    ·
     exact .inr (.inr h)
  ·
   split
   ·
    rename_i h; subst h; simp
   ·
    simp

theorem tr {a b c : T} (h : a < b) (h' : b < c) : a < c := Std.lt_trans h h'
theorem ir (a : T) : ¬ a < a := Std.lt_irrefl
theorem tot {a b : T} (h : ¬ a < b) (hn : a ≠ b) : b < a := by
 rcases Std.lt_trichotomy a b with h1 | h1 | h1
 ·
  exact absurd h1 h
 ·
  exact absurd h1 hn
 ·
  exact h1

theorem insN_lt (x : T) : ∀ l : List T, l.Pairwise (· < ·) → (insN l x).Pairwise (· < ·)
 | [], _ => by simp [insN]
 | y :: t, h => by
  obtain ⟨h1, h2⟩ := List.pairwise_cons.1 h
  simp only [insN]
  split
  ·
   rename_i hy
   refine List.pairwise_cons.2 ⟨fun z hz => ?_, insN_lt x t h2⟩
   rcases (mem_insN x z t).1 hz with rfl | hz
   ·
    exact hy
   ·
    exact h1 z hz
  ·
   split
   ·
    exact h
   ·
    rename_i hy hn
    refine List.pairwise_cons.2 ⟨fun z hz => ?_, h⟩
    rcases List.mem_cons.1 hz with rfl | hz
    ·
     exact tot hy hn
    ·
     exact tr (tot hy hn) (h1 z hz)

theorem fold_lt : ∀ (l acc : List T), acc.Pairwise (· < ·) → (l.foldl insN acc).Pairwise (· < ·)
 | [], _, h => h
 | x :: l, acc, h => fold_lt l _ (insN_lt x acc h)
theorem mem_fold (z : T) : ∀ (l acc : List T), z ∈ l.foldl insN acc ↔ z ∈ l ∨ z ∈ acc
 | [], acc => by simp
 | x :: l, acc => by
  rw [List.foldl_cons, mem_fold z l, mem_insN, List.mem_cons]
  constructor
  ·
   rintro (h | h | h)
   ·
    exact .inl (.inr h)
   ·
    exact .inl (.inl h)
   ·
    exact .inr h
  ·
   rintro ((h | h) | h)
   ·
    exact .inr (.inl h)
   ·
    exact .inl h
   ·
    exact .inr (.inr h)
theorem scopeN_lt (l : List T) : (scopeN l).Pairwise (· < ·) := fold_lt l [] List.Pairwise.nil
theorem mem_scopeN (z : T) (l : List T) : z ∈ scopeN l ↔ z ∈ l := by simp [scopeN, mem_fold]
theorem length_insN (x : T) : ∀ l, (insN l x).length ≤ l.length + 1
 | [] => by simp [insN]
 | y :: t => by
  have := length_insN x t
  simp only [insN]; split <;> (try split) <;> simp <;> omega
theorem length_fold : ∀ (l acc : List T), (l.foldl insN acc).length ≤ l.length + acc.length
 | [], acc => by simp
 | x :: l, acc => by
  have h := length_fold l (insN acc x); have h' := length_insN x acc
  simp only [List.foldl_cons, List.length_cons]; omega
theorem length_scopeN (l : List T) : (scopeN l).length ≤ l.length := by simpa [scopeN] using length_fold l []

theorem uniq : ∀ (a b : List T), a.Pairwise (· < ·) → b.Pairwise (· < ·) → (∀ z, z ∈ a ↔ z ∈ b) → a = b
 | [], [], _, _, _ => rfl
 | [], y :: b, _, _, h => absurd ((h y).2 List.mem_cons_self) (by simp)
 | x :: a, [], _, _, h => absurd ((h x).1 List.mem_cons_self) (by simp)
 | x :: a, y :: b, ha, hb, h => by
  obtain ⟨a1, a2⟩ := List.pairwise_cons.1 ha
  obtain ⟨b1, b2⟩ := List.pairwise_cons.1 hb
  have hxy : x = y := by
   rcases List.mem_cons.1 ((h x).1 List.mem_cons_self) with e | e
   ·
    exact e
   ·
    rcases List.mem_cons.1 ((h y).2 List.mem_cons_self) with e' | e'
    ·
     exact e'.symm
    ·
     exact absurd (tr (b1 x e) (a1 y e')) (ir y)
  subst hxy
  refine congrArg (x :: ·) (uniq a b a2 b2 fun z => ?_)
  constructor
  ·
   intro hz
   rcases List.mem_cons.1 ((h z).1 (List.mem_cons_of_mem _ hz)) with e | e
   ·
    subst e; exact absurd (a1 z hz) (ir z)
   ·
    exact e
  ·
   intro hz
   rcases List.mem_cons.1 ((h z).2 (List.mem_cons_of_mem _ hz)) with e | e
   ·
    subst e; exact absurd (b1 z hz) (ir z)
   ·
    exact e

open Go.Lib in
theorem upTo_ok (d : Array T) (hs : ∀ i j, i < j → j < d.size → d[i]! ≤ d[j]!) : ∀ m, m ≤ d.size →
  (compactUpTo d m).Pairwise (· < ·) ∧ (∀ z, z ∈ compactUpTo d m ↔ ∃ j, j < m ∧ z = d[j]!)
 | 0, _ => by simp [compactUpTo]
 | m + 1, hm => by
  obtain ⟨h1, h2⟩ := upTo_ok d hs m (by omega)
  rw [compactUpTo_succ]
  cases hk : keeps d m with
  | true =>
   simp only [if_true]
   constructor
   ·
    rw [List.pairwise_append]
    refine ⟨h1, by simp, fun a ha b hb => ?_⟩
    rw [List.mem_singleton] at hb; subst hb
    obtain ⟨j, hj, rfl⟩ := (h2 a).1 ha
    have hne : d[m]! ≠ d[m - 1]! := by
     intro e; rw [keeps_neg (by omega) e] at hk; cases hk
    have hlt : d[m - 1]! < d[m]! := Std.lt_of_le_of_ne (hs (m - 1) m (by omega) (by omega)) (Ne.symm hne)
    rcases Nat.lt_or_ge j (m - 1) with hjm | hjm
    ·
     exact Std.lt_of_le_of_lt (hs j (m - 1) hjm (by omega)) hlt
    ·
     have : j = m - 1 := by omega
     subst this; exact hlt
   ·
    intro z
    rw [List.mem_append, h2, List.mem_singleton]
    constructor
    ·
     rintro (⟨j, hj, e⟩ | e)
     ·
      exact ⟨j, by omega, e⟩
     ·
      exact ⟨m, by omega, e⟩
    ·
     rintro ⟨j, hj, e⟩
     rcases Nat.lt_or_ge j m with hjm | hjm
     ·
      exact .inl ⟨j, hjm, e⟩
     ·
      have : j = m := by omega
      subst this; exact .inr e
  | false =>
   simp only [Bool.false_eq_true, if_false, List.append_nil]
   refine ⟨h1, fun z => ?_⟩
   have hm0 : 0 < m := by
    rcases Nat.eq_zero_or_pos m with e | e
    ·
     subst e; rw [keeps_lt_one d 0 (by omega)] at hk; cases hk
    ·
     exact e
   have he : d[m]! = d[m - 1]! := by
    rcases Classical.em (d[m]! = d[m - 1]!) with e | e
    ·
     exact e
    ·
     rw [keeps_pos e] at hk; cases hk
   rw [h2]
   constructor
   ·
    rintro ⟨j, hj, e⟩; exact ⟨j, by omega, e⟩
   ·
    rintro ⟨j, hj, e⟩
    rcases Nat.lt_or_ge j m with hjm | hjm
    ·
     exact ⟨j, hjm, e⟩
    ·
     have : j = m := by omega
     subst this; exact ⟨j - 1, by omega, e.trans he⟩

theorem compact_sorted (l : List T) (h : l.Pairwise (· ≤ ·)) :
  (Go.Lib.compact l).Pairwise (· < ·) ∧ ∀ z, z ∈ Go.Lib.compact l ↔ z ∈ l := by
 have hs : ∀ i j, i < j → j < l.toArray.size → l.toArray[i]! ≤ l.toArray[j]! := by
  intro i j hij hj
  have hj' : j < l.length := by simpa using hj
  have := List.pairwise_iff_getElem.1 h i j (by omega) hj' hij
  simpa [getElem!_pos, hj', show i < l.length by omega] using this
 obtain ⟨h1, h2⟩ := upTo_ok l.toArray hs l.length (by simp)
 refine ⟨h1, fun z => (h2 z).trans ?_⟩
 rw [List.mem_iff_getElem]
 constructor
 ·
  rintro ⟨j, hj, rfl⟩; exact ⟨j, hj, by simp [getElem!_pos, hj]⟩
 ·
  rintro ⟨j, hj, rfl⟩; exact ⟨j, hj, by simp [getElem!_pos, hj]⟩

theorem compact_sort (l : List T) : Go.Lib.compact (l.mergeSort fun x y => decide (x ≤ y)) = scopeN l := by
 have hp : (l.mergeSort fun x y => decide (x ≤ y)).Pairwise (· ≤ ·) := by
  have := List.pairwise_mergeSort (le := fun x y : T => decide (x ≤ y)) (fun a b c h h' => by
   simp only [decide_eq_true_eq] at *; exact Std.le_trans h h') (fun a b => by
   simp only [Bool.or_eq_true, decide_eq_true_eq]; exact Std.le_total) l
  exact this.imp fun h => by simpa using h
 obtain ⟨h1, h2⟩ := compact_sorted _ hp
 exact uniq _ _ h1 (scopeN_lt l) fun z => (h2 z).trans (List.mem_mergeSort.trans (mem_scopeN z l).symm)
def atN : List T → T → Nat
 | [], _ => 0
 | y :: t, x => if y < x then atN t x + 1 else 0
theorem atN_le (x : T) : ∀ l, atN l x ≤ l.length
 | [] => by simp [atN]
 | y :: t => by have := atN_le x t; simp only [atN]; split <;> simp <;> omega
theorem atN_lt (x : T) : ∀ (l : List T) (i : Nat), i < atN l x → ∃ h : i < l.length, l[i] < x
 | [], i, h => by simp [atN] at h
 | y :: t, i, h => by
  simp only [atN] at h
  split at h
  ·
   rename_i hy
   cases i with
   | zero => exact ⟨by simp, hy⟩
   | succ i => obtain ⟨h1, h2⟩ := atN_lt x t i (by omega); exact ⟨by simp; omega, by simpa using h2⟩
  ·
   omega
theorem atN_eq (x : T) : ∀ (l : List T) (h : atN l x < l.length), ¬ l[atN l x] < x
 | [], h => by simp at h
 | y :: t, h => by
  by_cases hy : y < x
  ·
   have e : atN (y :: t) x = atN t x + 1 := by simp [atN, hy]
   have h' : atN t x < t.length := by rw [e] at h; simpa using h
   have := atN_eq x t h'
   simpa [e] using this
  ·
   have e : atN (y :: t) x = 0 := by simp [atN, hy]
   simpa [e] using hy
theorem atN_step (x : T) (l : List T) (i : Nat) (h : i ≤ atN l x) (hi : i < l.length) : l[i] < x ↔ i < atN l x := by
 constructor
 ·
  intro hx
  rcases Nat.lt_or_ge i (atN l x) with h1 | h1
  ·
   exact h1
  ·
   have : i = atN l x := by omega
   subst this; exact absurd hx (atN_eq x l hi)
 ·
  intro h1; exact (atN_lt x l i h1).2
theorem insN_at (x : T) : ∀ l : List T, insN l x = if l[atN l x]? = some x then l else l.take (atN l x) ++ x :: l.drop (atN l x)
 | [] => by simp [insN, atN]
 | y :: t => by
  have ih := insN_at x t
  by_cases hy : y < x
  ·
   simp only [insN, atN, hy, if_true, ih]
   simp only [List.getElem?_cons_succ, List.take_succ_cons, List.drop_succ_cons, List.cons_append]
   split <;> rfl
  ·
   by_cases he : y = x
   ·
    simp [insN, atN, he, ir]
   ·
    simp [insN, atN, hy, he]
theorem fold_snoc (l : List T) (x : T) : scopeN (l ++ [x]) = insN (scopeN l) x := by simp [scopeN]
end Go.Proofs.YthljdhfgphebnaaGreat.L9s

set_option linter.unusedSimpArgs false
namespace Go.Proofs.YthljdhfgphebnaaGreat.L9
open V L6
open L4 (K isK cmpK)
open L5 (F isR isN string_geq)
open Go.Op (bytesLess)
open Go.ChangeShapes Go.WideShapes Go.ChangeAt Go.RowKit Mem Sl Ex L2 Sv Bag
theorem infoT : ∃ i, Tryz.prog.info? 9 = some i ∧ i.zero = some (.string ⟨#[]⟩) ∧ i.size = 1 ∧ i.bytes = 16 := Ex.infoOf _ _ _ _ (by kernel_rfl)
def cT (ns : List L9s.T) : List Value := ns.map fun n => .string ⟨n.toArray⟩
@[simp] theorem cT_length (ns : List L9s.T) : (cT ns).length = ns.length := List.length_map ..
theorem cT_append (a b : List L9s.T) : cT (a ++ b) = cT a ++ cT b := List.map_append
theorem cT_one (b : ByteArray) : [Value.string b] = cT [b.data.toList] := by simp [cT]
theorem one_str (ns : List L9s.T) : ∀ u ∈ cT ns, u.oneCell' = true := fun u hu => by
 obtain ⟨n, _, rfl⟩ := List.mem_map.1 hu
 rfl
theorem one_str1 (b : ByteArray) : ∀ u ∈ [Value.string b], u.oneCell' = true := fun u hu => by rw [List.mem_singleton] at hu; rw [hu]; rfl
def rowT (a : Option Addr) (c : Nat) (ns : List L9s.T) : RowS := ⟨9, 1, a, c, ns.length, cT ns⟩
def GaveNS (w : World) (ns : List L9s.T) (e : Ending) (w' : World) : Prop :=
 ∃ (a : Option Addr) (c : Nat), e = .returned (.slice a ns.length c) ∧ BagOwn w' w.heap.size [rowT a c ns] ∧ Below w.heap.size w w'
def nmO (l : List X_Op) : List L9s.T := l.map fun o => o.f_Store.data.toList
theorem nmO_len (l : List X_Op) : (nmO l).length = l.length := List.length_map ..
theorem nm_take {l : List X_Op} {k : Nat} {o : X_Op} (h : l[k]? = some o) : (nmO l).take (k + 1) = (nmO l).take k ++ [o.f_Store.data.toList] := by
 rw [List.take_add_one]
 unfold nmO
 rw [List.getElem?_map, h]
 rfl
theorem readsT_head {w : World} {B : Nat} {a : Option Addr} {ns : List L9s.T} (h : Reads w B a (cT ns)) (k : Nat) : Reads w B a (cT (ns.take k)) := fun j hj => by
 have hj' : j < (cT ns).length := by simp at hj ⊢; omega
 obtain ⟨ad, e, hb, hc⟩ := h j hj'
 exact ⟨ad, e, hb, by rw [hc]; simp [cT]⟩
theorem readsT_rest {w : World} {B g : Nat} {ns : List L9s.T} (h : Reads w B (some ⟨g, 0, none⟩) (cT ns)) (k : Nat) : Reads w B (some ⟨g, k, none⟩) (cT (ns.drop k)) := by
 have h9 : Reads w B (some (Addr.add ⟨g, 0, none⟩ k)) (cT (ns.drop k)) := fun j hj => by
  have hj' : k + j < (cT ns).length := by simp at hj ⊢; omega
  obtain ⟨ad, e, hb, hc⟩ := h (k + j) hj'
  injection e with e
  subst e
  exact ⟨_, rfl, by rw [add_block]; exact hb, by rw [add_add, hc]; simp [cT]⟩
 rwa [Addr.add_lit, Nat.zero_add] at h9
theorem readsT_at {w : World} {B : Nat} {a : Option Addr} {ns : List L9s.T} (h : Reads w B a (cT ns)) (j : Nat) (hj : j < ns.length) : ∃ ad, a = some ad ∧ w.cell? (ad.add j) = some (.string ⟨ns[j].toArray⟩) := by
 obtain ⟨ad, e, hb, hc⟩ := h j (by simpa using hj)
 exact ⟨ad, e, by rw [hc]; simp [cT]⟩
theorem readsT_cell {w : World} {B : Nat} {ad : Addr} {ns : List L9s.T} (h : Reads w B (some ad) (cT ns)) (j : Nat) (t : ByteArray) (hj : (cT ns)[j]? = some (.string t)) : w.cell? (ad.add j) = some (.string t) := by
 obtain ⟨h1, h2⟩ := List.getElem?_eq_some_iff.1 hj
 obtain ⟨ad', e, hb, hc⟩ := h j h1
 injection e with e
 subst e
 rw [hc, h2]

set_option maxHeartbeats 8000000 in
theorem specScopeOf_any (a : Option Addr) (c : Nat) (os : List Y_Op) (hl : os.length ≤ 1048576) (hf : ∀ o ∈ coS_Op os, FitO o) (w : World) (hr : Reads w w.heap.size a (os.flatMap cl_Op)) (hx : RowsRd w w.heap.size (rws_Op os)) :
  Calls Tryz.prog 52 #[.slice a os.length c] w (GaveNS w (L9s.scopeN (nmO (coS_Op os)))) := by
 have HR := Lib.hid (fun w' (h : Below w.heap.size w w') => hr.below h)
 have HX := Lib.hid (fun w' (h : Below w.heap.size w w') => (hx.below h).more h.size)
 have HF := Lib.hid hf
 obtain ⟨N, hN⟩ : ∃ n, n = os.length := ⟨_, rfl⟩
 rw [← hN] at hl ⊢
 have hl' : (N : Int) ≤ 1048576 := by omega
 have HN := Lib.hid hN
 clear hN hr hx hf
 obtain ⟨iT, hi1, hi2, hi3, hi4⟩ := infoT
 have HIT := Lib.hid (And.intro hi1 (And.intro hi2 (And.intro hi3 hi4)))
 clear hi1 hi2 hi3 hi4
 have HSL := Lib.hid (show (coS_Op os).length = N from by rw [coS_len, HN.out])
 have S1 := Lib.hid (show Sl.Sep w w [] from Sl.Sep.start w)
 go_enter Tryz.func52, Tryz.ntmps52
 go_upto_region 2 with fail
 have S2 := Lib.hid (show Sl.Sep w _ [Sv.ownV 9 1 (some ⟨w.heap.size, 0, none⟩) 0 0 (cT [])] from Sv.push_own S1.out ((Below.refl _ _).alloc (Nat.le_refl _) _) (OwnV.madeAt w 9 1 0 w.heap.size #[] rfl (Nat.le_refl _) rfl (by decide)))
 clear S1
 obtain ⟨g1, hg⟩ : ∃ g', g' = w.heap.size := ⟨_, rfl⟩
 rw [← hg] at S2 ⊢
 clear hg
 generalize w.alloc (.cells #[] 9) = w1 at S2 ⊢
 go_wp2_with fail
 go_loopw [3, 4] (fun v i wr => ∃ (k m : Nat) (A : Option Addr) (C : Nat) (ns : List L9s.T), k ≤ N ∧ i = .int .i64 k ∧ v = .slice A m C ∧ m ≤ k ∧ Hid ((m = ns.length ∧ ns = L9s.scopeN ((nmO (coS_Op os)).take k)) ∧ Sl.Sep w wr [Sv.ownV 9 1 A C m (cT ns)])) (fun _ i _ => N - (intOf i).toNat)
 case atStart => exact ⟨0, 0, _, _, [], Nat.zero_le _, rfl, rfl, Nat.le_refl _, And.intro ⟨rfl, rfl⟩ S2.out⟩
 case round =>
  obtain ⟨k, m, A, C, ns, hk, rfl, rfl, hmk, hrel⟩ := hrel
  have HCO := Lib.hid hrel.out.1
  have S40 := Lib.hid hrel.out.2
  clear hrel S2
  have HML := Lib.hid HCO.out.1
  by_cases hlt : (k : Int) < (N : Int)
  ·
   skip
   have hkl : k < os.length := by have := HN.out; omega
   obtain ⟨x, hx⟩ : ∃ x, os[k]? = some x := ⟨_, List.getElem?_eq_getElem hkl⟩
   obtain ⟨oad, e'⟩ := el_some cl_Op_len (by decide) (HR.out _ S40.out.old) hkl
   subst e'
   have hro := fun w' (h : Below w.heap.size w w') => rdOs (HX.out w' h) hx
   have hrr := fun w' (h : Below w.heap.size w w') => rdO (rdOs (HX.out w' h) hx)
   obtain ⟨kd, st, ⟨kk, kn, kt⟩, ⟨ra, rc, rl⟩, fd⟩ := x
   have HK := Lib.hid (fun w' (h : Below w.heap.size w w') => el7 cl_Op_len (HR.out _ h) hx rfl)
   dsimp only at HK hrr
   have HRO := Lib.hid hro
   have HRR := Lib.hid hrr
   have HC := Lib.hid (show (coS_Op os)[k]? = some (⟨kd, st, ⟨kk, kn, kt⟩, rl, fd⟩ : X_Op) from coS_at hx)
   have HFO := Lib.hid (HF.out _ (List.mem_of_getElem? HC.out))
   clear hx hrr hro
   have HT := Lib.hid (show L9s.scopeN ((nmO (coS_Op os)).take (k + 1)) = L9s.insN ns st.data.toList from by rw [nm_take HC.out, L9s.fold_snoc, ← HCO.out.2])
   have HAL := Lib.hid (L9s.atN_le st.data.toList ns)
   obtain ⟨f0, f1, f2, f3, f4, f5, f6⟩ := HK.out _ S40.out.old
   go_wp2_with fail
   go_loopw [5] (fun v wr2 => ∃ j : Nat, j ≤ m ∧ v = .int .i64 j ∧ Hid (j ≤ L9s.atN ns st.data.toList ∧ Sl.Sep w wr2 [Sv.ownV 9 1 A C m (cT ns)])) (fun v _ => m - (intOf v).toNat)
   case atStart => exact ⟨0, Nat.zero_le _, rfl, And.intro (Nat.zero_le _) S40.out⟩
   case round =>
    clear f0 f1 f2 f3 f4 f5 f6
    obtain ⟨j, hjm, rfl, hrel⟩ := hrel
    have HJ := Lib.hid hrel.out.1
    have S41 := Lib.hid hrel.out.2
    clear hrel S40
    have hjn : j ≤ ns.length := by have := HML.out; omega
    by_cases hjl : j = m
    ·
     subst hjl
     obtain ⟨f0, f1, f2, f3, f4, f5, f6⟩ := HK.out _ S41.out.old
     go_upto_region 6 with fail
     clear f0 f1 f2 f3 f4 f5 f6
     refine wp_region_held_drew (S := (fun w' => (w'.cell? (oad.add (k * 7)) = some (.int .i64 kd) ∧ w'.cell? (⟨(oad.add (k * 7)).block, (oad.add (k * 7)).off + 1, none⟩) = some (.string st) ∧ w'.cell? (⟨(oad.add (k * 7)).block, (oad.add (k * 7)).off + 2, none⟩) = some (.int .i64 kk) ∧ w'.cell? (⟨(oad.add (k * 7)).block, (oad.add (k * 7)).off + 3, none⟩) = some (.int .i64 kn) ∧ w'.cell? (⟨(oad.add (k * 7)).block, (oad.add (k * 7)).off + 4, none⟩) = some (.string kt) ∧ w'.cell? (⟨(oad.add (k * 7)).block, (oad.add (k * 7)).off + 5, none⟩) = some (.slice ra rl.length rc) ∧ w'.cell? (⟨(oad.add (k * 7)).block, (oad.add (k * 7)).off + 6, none⟩) = some (.string fd)))) (by kernel_rfl) (HK.out _ (Bag.drew1 S41.out).old) (fun hS => ?_)
     have S42 := Lib.hid (Bag.drew1 S41.out)
     clear S41
     generalize World.drew _ = w2 at hS S42 ⊢
     refine tk 0 rfl ?_
     try simp only [zp0, zp1, zp2, zp3, zp4]
     refine tk 1 rfl ?_
     try simp only [zp0, zp1, zp2, zp3, zp4]
     refine tk 2 rfl ?_
     try simp only [zp0, zp1, zp2, zp3, zp4]
     refine tk 3 rfl ?_
     try simp only [zp0, zp1, zp2, zp3, zp4]
     refine tk 4 rfl ?_
     try simp only [zp0, zp1, zp2, zp3, zp4]
     refine sk 5 rfl ?_
     try simp only [zp0, zp1, zp2, zp3, zp4]
     refine sk 6 rfl ?_
     try simp only [zp0, zp1, zp2, zp3, zp4]
     refine sk 7 rfl ?_
     try simp only [zp0, zp1, zp2, zp3, zp4]
     refine sk 8 rfl ?_
     try simp only [zp0, zp1, zp2, zp3, zp4]
     refine sk 9 rfl ?_
     try simp only [zp0, zp1, zp2, zp3, zp4]
     refine sk 10 rfl ?_
     try simp only [zp0, zp1, zp2, zp3, zp4]
     refine sk 11 rfl ?_
     try simp only [zp0, zp1, zp2, zp3, zp4]
     refine sk 12 rfl ?_
     try simp only [zp0, zp1, zp2, zp3, zp4]
     refine sk 13 rfl ?_
     try simp only [zp0, zp1, zp2, zp3, zp4]
     refine sk 14 rfl ?_
     try simp only [zp0, zp1, zp2, zp3, zp4]
     refine tk 15 rfl ?_
     try simp only [zp0, zp1, zp2, zp3, zp4]
     refine wpAnyH_done (by kernel_rfl) ?_ _
     obtain ⟨f0, f1, f2, f3, f4, f5, f6⟩ := HK.out _ S42.out.old
     have HAT := Lib.hid (show L9s.atN ns st.data.toList = j from by have := HAL.out; have := HML.out; have := HJ.out; omega)
     have HINS := Lib.hid (show L9s.insN ns st.data.toList = ns.take j ++ st.data.toList :: ns.drop j from by rw [L9s.insN_at, HAT.out, if_neg (by rw [List.getElem?_eq_none (by have := HML.out; omega)]; simp)])
     go_upto_region 8 with fail
     clear f0 f1 f2 f3 f4 f5 f6
     refine wp_region_held_drew (S := (fun w' => (w'.cell? (oad.add (k * 7)) = some (.int .i64 kd) ∧ w'.cell? (⟨(oad.add (k * 7)).block, (oad.add (k * 7)).off + 1, none⟩) = some (.string st) ∧ w'.cell? (⟨(oad.add (k * 7)).block, (oad.add (k * 7)).off + 2, none⟩) = some (.int .i64 kk) ∧ w'.cell? (⟨(oad.add (k * 7)).block, (oad.add (k * 7)).off + 3, none⟩) = some (.int .i64 kn) ∧ w'.cell? (⟨(oad.add (k * 7)).block, (oad.add (k * 7)).off + 4, none⟩) = some (.string kt) ∧ w'.cell? (⟨(oad.add (k * 7)).block, (oad.add (k * 7)).off + 5, none⟩) = some (.slice ra rl.length rc) ∧ w'.cell? (⟨(oad.add (k * 7)).block, (oad.add (k * 7)).off + 6, none⟩) = some (.string fd)))) (by kernel_rfl) (HK.out _ (Bag.drew1 S42.out).old) (fun hS => ?_)
     have S43 := Lib.hid (Bag.drew1 S42.out)
     clear S42
     generalize World.drew _ = w3 at hS S43 ⊢
     refine tk 0 rfl ?_
     try simp only [zp0, zp1, zp2, zp3, zp4]
     refine tk 1 rfl ?_
     try simp only [zp0, zp1, zp2, zp3, zp4]
     refine tk 2 rfl ?_
     try simp only [zp0, zp1, zp2, zp3, zp4]
     refine tk 3 rfl ?_
     try simp only [zp0, zp1, zp2, zp3, zp4]
     refine tk 4 rfl ?_
     try simp only [zp0, zp1, zp2, zp3, zp4]
     refine sk 5 rfl ?_
     try simp only [zp0, zp1, zp2, zp3, zp4]
     refine sk 6 rfl ?_
     try simp only [zp0, zp1, zp2, zp3, zp4]
     refine sk 7 rfl ?_
     try simp only [zp0, zp1, zp2, zp3, zp4]
     refine sk 8 rfl ?_
     try simp only [zp0, zp1, zp2, zp3, zp4]
     refine sk 9 rfl ?_
     try simp only [zp0, zp1, zp2, zp3, zp4]
     refine sk 10 rfl ?_
     try simp only [zp0, zp1, zp2, zp3, zp4]
     refine sk 11 rfl ?_
     try simp only [zp0, zp1, zp2, zp3, zp4]
     refine sk 12 rfl ?_
     try simp only [zp0, zp1, zp2, zp3, zp4]
     refine sk 13 rfl ?_
     try simp only [zp0, zp1, zp2, zp3, zp4]
     refine sk 14 rfl ?_
     try simp only [zp0, zp1, zp2, zp3, zp4]
     refine tk 15 rfl ?_
     try simp only [zp0, zp1, zp2, zp3, zp4]
     refine wpAnyH_done (by kernel_rfl) ?_ _
     obtain ⟨f0, f1, f2, f3, f4, f5, f6⟩ := HK.out _ S43.out.old
     have hcap : j ≤ C := by have := (Sv.own_at S43.out 0 rfl).cap; omega
     have hck : (j : Int) ≤ (C : Int) := by omega
     have hjm' : (j : Int) ≤ (j : Int) := by omega
     have hmc : (j : Int) ≤ (C : Int) := by omega
     have hm6 : j ≤ 1048576 := by omega
     clear f0 f1 f2 f3 f4 f5 f6
     obtain ⟨f0, f1, f2, f3, f4, f5, f6⟩ := HK.out _ S43.out.old
     go_upto_region 9 with fail
     clear f0 f1 f2 f3 f4 f5 f6
     refine wp_region_held_drew (S := (fun w' => (w'.cell? (oad.add (k * 7)) = some (.int .i64 kd) ∧ w'.cell? (⟨(oad.add (k * 7)).block, (oad.add (k * 7)).off + 1, none⟩) = some (.string st) ∧ w'.cell? (⟨(oad.add (k * 7)).block, (oad.add (k * 7)).off + 2, none⟩) = some (.int .i64 kk) ∧ w'.cell? (⟨(oad.add (k * 7)).block, (oad.add (k * 7)).off + 3, none⟩) = some (.int .i64 kn) ∧ w'.cell? (⟨(oad.add (k * 7)).block, (oad.add (k * 7)).off + 4, none⟩) = some (.string kt) ∧ w'.cell? (⟨(oad.add (k * 7)).block, (oad.add (k * 7)).off + 5, none⟩) = some (.slice ra rl.length rc) ∧ w'.cell? (⟨(oad.add (k * 7)).block, (oad.add (k * 7)).off + 6, none⟩) = some (.string fd)))) (by kernel_rfl) (HK.out _ (Bag.drew1 S43.out).old) (fun hS => ?_)
     have S44 := Lib.hid (Bag.drew1 S43.out)
     clear S43
     generalize World.drew _ = w4 at hS S44 ⊢
     refine tk 1 rfl ?_
     try simp only [zp0, zp1, zp2, zp3, zp4]
     refine tk 2 rfl ?_
     try simp only [zp0, zp1, zp2, zp3, zp4]
     refine tk 3 rfl ?_
     try simp only [zp0, zp1, zp2, zp3, zp4]
     refine tk 5 rfl ?_
     try simp only [zp0, zp1, zp2, zp3, zp4]
     refine tk 6 rfl ?_
     try simp only [zp0, zp1, zp2, zp3, zp4]
     refine tk 7 rfl ?_
     try simp only [zp0, zp1, zp2, zp3, zp4]
     refine tk 8 rfl ?_
     try simp only [zp0, zp1, zp2, zp3, zp4]
     refine tk 9 rfl ?_
     try simp only [zp0, zp1, zp2, zp3, zp4]
     refine tk 12 rfl ?_
     try simp only [zp0, zp1, zp2, zp3, zp4]
     refine tk 13 rfl ?_
     try simp only [zp0, zp1, zp2, zp3, zp4]
     refine tk 14 rfl ?_
     try simp only [zp0, zp1, zp2, zp3, zp4]
     refine wpAnyH_ready (rs := [0, 10]) (by kernel_rfl) (by simp) ?_
     refine Reg.cons_op (i := 0) rfl (fun K hK => ?_) ?_
     ·
      skip
      go_simp
      have S45 := Lib.hid (show Sl.Sep w _ [_, Sv.ownV 9 1 (some ⟨w4.heap.size, 0, none⟩) 0 0 (cT [])] from Sv.push_own S44.out ((Below.refl _ _).alloc (Nat.le_refl _) _) (OwnV.madeAt w4 9 1 0 w4.heap.size #[] rfl (Nat.le_refl _) rfl (by decide)))
      clear S44
      obtain ⟨g2, hg⟩ : ∃ g', g' = w4.heap.size := ⟨_, rfl⟩
      rw [← hg] at S45 ⊢
      clear hg
      generalize w4.alloc (.cells #[] 9) = w5 at S45 ⊢
      refine hK.out _ _ (HK.out _ S45.out.old) (fun hS => ?_)
      clear hK K
      try simp only [zp0, zp1, zp2, zp3, zp4]
      refine wpAnyH_ready (rs := [4, 10]) (by kernel_rfl) (by simp) ?_
      refine Reg.cons_op (i := 4) rfl (fun K hK => ?_) ?_
      ·
       skip
       refine Sv.step_append_s S45.out 1 rfl rfl _ _ 90 (by rfl) iT (.string ⟨#[]⟩) 16 Tryz.underlying90 HIT.out.1 HIT.out.2.1 HIT.out.2.2.1 HIT.out.2.2.2 rfl (by omega) _ (by rfl) rfl _ _ j _ _ (cT (ns.take j)) (by rfl) rfl (readsT_head (Sv.own_at S45.out 0 rfl).reads j) (by rw [cT_length, List.length_take, Nat.min_eq_left hjn]; omega) (one_str _) (by unfold maxLen; omega) (by omega) ?_
       intro a3' c3' w6 hA
       have S46 := Lib.hid (show Sl.Sep w _ [_, Sv.ownV 9 1 a3' c3' (0 + j) (cT [] ++ (cT (ns.take j)))] from hA)
       clear S45
       clear hA
       have S47 := Lib.hid (show Sl.Sep w _ [_, Sv.ownV 9 1 a3' c3' j (cT [] ++ (cT (ns.take j)))] from (by have h := S46.out; rw [Nat.zero_add] at h; exact h))
       clear S46
       refine hK.out _ _ (HK.out _ S47.out.old) (fun hS => ?_)
       clear hK K
       try simp only [zp0, zp1, zp2, zp3, zp4]
       refine Reg.one_op (i := 10) rfl (by kernel_rfl) (fun K hK => ?_)
       go_simp
       have S48 := Lib.hid (show Sl.Sep w _ [_, _, Sv.ownV 9 1 (some ⟨w6.heap.size, 0, none⟩) 1 1 ([.string st])] from Sv.push_own S47.out ((Below.refl _ _).alloc (Nat.le_refl _) _) (OwnV.madeAt w6 9 1 1 w6.heap.size #[.string st] rfl (Nat.le_refl _) rfl (by decide)))
       clear S47
       obtain ⟨g4, hg⟩ : ∃ g', g' = w6.heap.size := ⟨_, rfl⟩
       rw [← hg] at S48 ⊢
       clear hg
       generalize w6.alloc (.cells #[.string st] 9) = w7 at S48 ⊢
       refine hK.out _ _ (HK.out _ S48.out.old) (fun hS => ?_)
       clear hK K
       try simp only [zp0, zp1, zp2, zp3, zp4]
       refine Reg.one_op (i := 11) rfl (by kernel_rfl) (fun K hK => ?_)
       refine Sv.step_append_s S48.out 1 rfl rfl _ _ 90 (by rfl) iT (.string ⟨#[]⟩) 16 Tryz.underlying90 HIT.out.1 HIT.out.2.1 HIT.out.2.2.1 HIT.out.2.2.2 rfl (by omega) _ (by rfl) (by first | rfl | exact Nat.zero_add _) _ _ 1 _ _ ([.string st]) (by rfl) rfl ((Sv.own_at S48.out 2 rfl).reads) rfl (one_str1 _) (by unfold maxLen; omega) (by omega) ?_
       intro a5' c5' w8 hA
       have S49 := Lib.hid (show Sl.Sep w _ [_, Sv.ownV 9 1 a5' c5' (j + 1) (cT [] ++ (cT (ns.take j)) ++ ([.string st])), Sv.ownV 9 1 (some ⟨g4, 0, none⟩) 1 1 ([.string st])] from hA)
       clear S48
       clear hA
       refine hK.out _ _ (HK.out _ S49.out.old) (fun hS => ?_)
       clear hK K
       try simp only [zp0, zp1, zp2, zp3, zp4]
       refine Reg.one_op (i := 15) rfl (by kernel_rfl) (fun K hK => ?_)
       refine Sv.step_append_s S49.out 1 rfl rfl _ _ 90 (by rfl) iT (.string ⟨#[]⟩) 16 Tryz.underlying90 HIT.out.1 HIT.out.2.1 HIT.out.2.2.1 HIT.out.2.2.2 rfl (by omega) _ (by rfl) rfl _ _ 0 _ _ (cT []) (by rfl) rfl (Sl.Reads.nil (B := 0)) rfl (one_str _) (by unfold maxLen; omega) (by omega) ?_
       intro a6' c6' w9 hA
       have S50 := Lib.hid (show Sl.Sep w _ [_, Sv.ownV 9 1 a6' c6' (j + 1 + 0) (cT [] ++ (cT (ns.take j)) ++ ([.string st]) ++ (cT [])), _] from hA)
       clear S49
       clear hA
       refine hK.out _ _ (HK.out _ S50.out.old) (fun hS => ?_)
       clear hK K
       try simp only [zp0, zp1, zp2, zp3, zp4]
       refine tk 16 rfl ?_
       try simp only [zp0, zp1, zp2, zp3, zp4]
       refine wpAnyH_done (by kernel_rfl) ?_ _
       obtain ⟨f0, f1, f2, f3, f4, f5, f6⟩ := HK.out _ S50.out.old
       clear f0 f1 f2 f3 f4 f5 f6
       have S51 := Lib.hid (show Sl.Sep w _ [_] from Bag.take S50.out [1] (by rfl) (by decide))
       clear S50
       have HZ := Lib.hid (show cT (ns.take j ++ st.data.toList :: ns.drop j) = cT [] ++ (cT (ns.take j)) ++ ([.string st]) ++ (cT []) from by rw [cT_append, show st.data.toList :: ns.drop j = [st.data.toList] ++ ns.drop j from rfl, cT_append, ← cT_one, List.drop_of_length_le (show ns.length ≤ j by have := HML.out; omega)]; simp [cT])
       have hlz : (ns.take j ++ st.data.toList :: ns.drop j).length = j + 1 + 0 := by rw [List.length_append, List.length_cons, List.length_take, List.length_drop]; have := HML.out; omega
       go_wp2_with fail
       go_roundw
       case rel => exact ⟨k + 1, j + 1 + 0, a6', c6', (ns.take j ++ st.data.toList :: ns.drop j), by omega, by go_num, by first | rfl | go_num, by omega, And.intro ⟨hlz.symm, by rw [HT.out, HINS.out]⟩ (by rw [HZ.out]; exact S51.out)⟩
       case measure => simp [intOf]; omega
      refine Reg.cons_op (i := 10) rfl (fun K hK => ?_) ?_
      ·
       skip
       go_simp
       have S46 := Lib.hid (show Sl.Sep w _ [_, Sv.ownV 9 1 (some ⟨g2, 0, none⟩) 0 0 (cT []), Sv.ownV 9 1 (some ⟨w5.heap.size, 0, none⟩) 1 1 ([.string st])] from Sv.push_own S45.out ((Below.refl _ _).alloc (Nat.le_refl _) _) (OwnV.madeAt w5 9 1 1 w5.heap.size #[.string st] rfl (Nat.le_refl _) rfl (by decide)))
       clear S45
       obtain ⟨g3, hg⟩ : ∃ g', g' = w5.heap.size := ⟨_, rfl⟩
       rw [← hg] at S46 ⊢
       clear hg
       generalize w5.alloc (.cells #[.string st] 9) = w6 at S46 ⊢
       refine hK.out _ _ (HK.out _ S46.out.old) (fun hS => ?_)
       clear hK K
       try simp only [zp0, zp1, zp2, zp3, zp4]
       refine Reg.one_op (i := 4) rfl (by kernel_rfl) (fun K hK => ?_)
       refine Sv.step_append_s S46.out 1 rfl rfl _ _ 90 (by rfl) iT (.string ⟨#[]⟩) 16 Tryz.underlying90 HIT.out.1 HIT.out.2.1 HIT.out.2.2.1 HIT.out.2.2.2 rfl (by omega) _ (by rfl) rfl _ _ j _ _ (cT (ns.take j)) (by rfl) rfl (readsT_head (Sv.own_at S46.out 0 rfl).reads j) (by rw [cT_length, List.length_take, Nat.min_eq_left hjn]; omega) (one_str _) (by unfold maxLen; omega) (by omega) ?_
       intro a4' c4' w7 hA
       have S47 := Lib.hid (show Sl.Sep w _ [_, Sv.ownV 9 1 a4' c4' (0 + j) (cT [] ++ (cT (ns.take j))), Sv.ownV 9 1 (some ⟨g3, 0, none⟩) 1 1 ([.string st])] from hA)
       clear S46
       clear hA
       have S48 := Lib.hid (show Sl.Sep w _ [_, Sv.ownV 9 1 a4' c4' j (cT [] ++ (cT (ns.take j))), _] from (by have h := S47.out; rw [Nat.zero_add] at h; exact h))
       clear S47
       refine hK.out _ _ (HK.out _ S48.out.old) (fun hS => ?_)
       clear hK K
       try simp only [zp0, zp1, zp2, zp3, zp4]
       refine Reg.one_op (i := 11) rfl (by kernel_rfl) (fun K hK => ?_)
       refine Sv.step_append_s S48.out 1 rfl rfl _ _ 90 (by rfl) iT (.string ⟨#[]⟩) 16 Tryz.underlying90 HIT.out.1 HIT.out.2.1 HIT.out.2.2.1 HIT.out.2.2.2 rfl (by omega) _ (by rfl) (by first | rfl | exact Nat.zero_add _) _ _ 1 _ _ ([.string st]) (by rfl) rfl ((Sv.own_at S48.out 2 rfl).reads) rfl (one_str1 _) (by unfold maxLen; omega) (by omega) ?_
       intro a5' c5' w8 hA
       have S49 := Lib.hid (show Sl.Sep w _ [_, Sv.ownV 9 1 a5' c5' (j + 1) (cT [] ++ (cT (ns.take j)) ++ ([.string st])), _] from hA)
       clear S48
       clear hA
       refine hK.out _ _ (HK.out _ S49.out.old) (fun hS => ?_)
       clear hK K
       try simp only [zp0, zp1, zp2, zp3, zp4]
       refine Reg.one_op (i := 15) rfl (by kernel_rfl) (fun K hK => ?_)
       refine Sv.step_append_s S49.out 1 rfl rfl _ _ 90 (by rfl) iT (.string ⟨#[]⟩) 16 Tryz.underlying90 HIT.out.1 HIT.out.2.1 HIT.out.2.2.1 HIT.out.2.2.2 rfl (by omega) _ (by rfl) rfl _ _ 0 _ _ (cT []) (by rfl) rfl (Sl.Reads.nil (B := 0)) rfl (one_str _) (by unfold maxLen; omega) (by omega) ?_
       intro a6' c6' w9 hA
       have S50 := Lib.hid (show Sl.Sep w _ [_, Sv.ownV 9 1 a6' c6' (j + 1 + 0) (cT [] ++ (cT (ns.take j)) ++ ([.string st]) ++ (cT [])), _] from hA)
       clear S49
       clear hA
       refine hK.out _ _ (HK.out _ S50.out.old) (fun hS => ?_)
       clear hK K
       try simp only [zp0, zp1, zp2, zp3, zp4]
       refine tk 16 rfl ?_
       try simp only [zp0, zp1, zp2, zp3, zp4]
       refine wpAnyH_done (by kernel_rfl) ?_ _
       obtain ⟨f0, f1, f2, f3, f4, f5, f6⟩ := HK.out _ S50.out.old
       clear f0 f1 f2 f3 f4 f5 f6
       have S51 := Lib.hid (show Sl.Sep w _ [_] from Bag.take S50.out [1] (by rfl) (by decide))
       clear S50
       have HZ := Lib.hid (show cT (ns.take j ++ st.data.toList :: ns.drop j) = cT [] ++ (cT (ns.take j)) ++ ([.string st]) ++ (cT []) from by rw [cT_append, show st.data.toList :: ns.drop j = [st.data.toList] ++ ns.drop j from rfl, cT_append, ← cT_one, List.drop_of_length_le (show ns.length ≤ j by have := HML.out; omega)]; simp [cT])
       have hlz : (ns.take j ++ st.data.toList :: ns.drop j).length = j + 1 + 0 := by rw [List.length_append, List.length_cons, List.length_take, List.length_drop]; have := HML.out; omega
       go_wp2_with fail
       go_roundw
       case rel => exact ⟨k + 1, j + 1 + 0, a6', c6', (ns.take j ++ st.data.toList :: ns.drop j), by omega, by go_num, by first | rfl | go_num, by omega, And.intro ⟨hlz.symm, by rw [HT.out, HINS.out]⟩ (by rw [HZ.out]; exact S51.out)⟩
       case measure => simp [intOf]; omega
      exact AllReadyH.nil
     refine Reg.cons_op (i := 10) rfl (fun K hK => ?_) ?_
     ·
      skip
      go_simp
      have S45 := Lib.hid (show Sl.Sep w _ [_, Sv.ownV 9 1 (some ⟨w4.heap.size, 0, none⟩) 1 1 ([.string st])] from Sv.push_own S44.out ((Below.refl _ _).alloc (Nat.le_refl _) _) (OwnV.madeAt w4 9 1 1 w4.heap.size #[.string st] rfl (Nat.le_refl _) rfl (by decide)))
      clear S44
      obtain ⟨g2, hg⟩ : ∃ g', g' = w4.heap.size := ⟨_, rfl⟩
      rw [← hg] at S45 ⊢
      clear hg
      generalize w4.alloc (.cells #[.string st] 9) = w5 at S45 ⊢
      refine hK.out _ _ (HK.out _ S45.out.old) (fun hS => ?_)
      clear hK K
      try simp only [zp0, zp1, zp2, zp3, zp4]
      refine Reg.one_op (i := 0) rfl (by kernel_rfl) (fun K hK => ?_)
      go_simp
      have S46 := Lib.hid (show Sl.Sep w _ [_, Sv.ownV 9 1 (some ⟨g2, 0, none⟩) 1 1 ([.string st]), Sv.ownV 9 1 (some ⟨w5.heap.size, 0, none⟩) 0 0 (cT [])] from Sv.push_own S45.out ((Below.refl _ _).alloc (Nat.le_refl _) _) (OwnV.madeAt w5 9 1 0 w5.heap.size #[] rfl (Nat.le_refl _) rfl (by decide)))
      clear S45
      obtain ⟨g3, hg⟩ : ∃ g', g' = w5.heap.size := ⟨_, rfl⟩
      rw [← hg] at S46 ⊢
      clear hg
      generalize w5.alloc (.cells #[] 9) = w6 at S46 ⊢
      refine hK.out _ _ (HK.out _ S46.out.old) (fun hS => ?_)
      clear hK K
      try simp only [zp0, zp1, zp2, zp3, zp4]
      refine Reg.one_op (i := 4) rfl (by kernel_rfl) (fun K hK => ?_)
      refine Sv.step_append_s S46.out 2 rfl rfl _ _ 90 (by rfl) iT (.string ⟨#[]⟩) 16 Tryz.underlying90 HIT.out.1 HIT.out.2.1 HIT.out.2.2.1 HIT.out.2.2.2 rfl (by omega) _ (by rfl) rfl _ _ j _ _ (cT (ns.take j)) (by rfl) rfl (readsT_head (Sv.own_at S46.out 0 rfl).reads j) (by rw [cT_length, List.length_take, Nat.min_eq_left hjn]; omega) (one_str _) (by unfold maxLen; omega) (by omega) ?_
      intro a4' c4' w7 hA
      have S47 := Lib.hid (show Sl.Sep w _ [_, _, Sv.ownV 9 1 a4' c4' (0 + j) (cT [] ++ (cT (ns.take j)))] from hA)
      clear S46
      clear hA
      have S48 := Lib.hid (show Sl.Sep w _ [_, _, Sv.ownV 9 1 a4' c4' j (cT [] ++ (cT (ns.take j)))] from (by have h := S47.out; rw [Nat.zero_add] at h; exact h))
      clear S47
      refine hK.out _ _ (HK.out _ S48.out.old) (fun hS => ?_)
      clear hK K
      try simp only [zp0, zp1, zp2, zp3, zp4]
      refine Reg.one_op (i := 11) rfl (by kernel_rfl) (fun K hK => ?_)
      refine Sv.step_append_s S48.out 2 rfl rfl _ _ 90 (by rfl) iT (.string ⟨#[]⟩) 16 Tryz.underlying90 HIT.out.1 HIT.out.2.1 HIT.out.2.2.1 HIT.out.2.2.2 rfl (by omega) _ (by rfl) (by first | rfl | exact Nat.zero_add _) _ _ 1 _ _ ([.string st]) (by rfl) rfl ((Sv.own_at S48.out 1 rfl).reads) rfl (one_str1 _) (by unfold maxLen; omega) (by omega) ?_
      intro a5' c5' w8 hA
      have S49 := Lib.hid (show Sl.Sep w _ [_, _, Sv.ownV 9 1 a5' c5' (j + 1) (cT [] ++ (cT (ns.take j)) ++ ([.string st]))] from hA)
      clear S48
      clear hA
      refine hK.out _ _ (HK.out _ S49.out.old) (fun hS => ?_)
      clear hK K
      try simp only [zp0, zp1, zp2, zp3, zp4]
      refine Reg.one_op (i := 15) rfl (by kernel_rfl) (fun K hK => ?_)
      refine Sv.step_append_s S49.out 2 rfl rfl _ _ 90 (by rfl) iT (.string ⟨#[]⟩) 16 Tryz.underlying90 HIT.out.1 HIT.out.2.1 HIT.out.2.2.1 HIT.out.2.2.2 rfl (by omega) _ (by rfl) rfl _ _ 0 _ _ (cT []) (by rfl) rfl (Sl.Reads.nil (B := 0)) rfl (one_str _) (by unfold maxLen; omega) (by omega) ?_
      intro a6' c6' w9 hA
      have S50 := Lib.hid (show Sl.Sep w _ [_, _, Sv.ownV 9 1 a6' c6' (j + 1 + 0) (cT [] ++ (cT (ns.take j)) ++ ([.string st]) ++ (cT []))] from hA)
      clear S49
      clear hA
      refine hK.out _ _ (HK.out _ S50.out.old) (fun hS => ?_)
      clear hK K
      try simp only [zp0, zp1, zp2, zp3, zp4]
      refine tk 16 rfl ?_
      try simp only [zp0, zp1, zp2, zp3, zp4]
      refine wpAnyH_done (by kernel_rfl) ?_ _
      obtain ⟨f0, f1, f2, f3, f4, f5, f6⟩ := HK.out _ S50.out.old
      clear f0 f1 f2 f3 f4 f5 f6
      have S51 := Lib.hid (show Sl.Sep w _ [_] from Bag.take S50.out [2] (by rfl) (by decide))
      clear S50
      have HZ := Lib.hid (show cT (ns.take j ++ st.data.toList :: ns.drop j) = cT [] ++ (cT (ns.take j)) ++ ([.string st]) ++ (cT []) from by rw [cT_append, show st.data.toList :: ns.drop j = [st.data.toList] ++ ns.drop j from rfl, cT_append, ← cT_one, List.drop_of_length_le (show ns.length ≤ j by have := HML.out; omega)]; simp [cT])
      have hlz : (ns.take j ++ st.data.toList :: ns.drop j).length = j + 1 + 0 := by rw [List.length_append, List.length_cons, List.length_take, List.length_drop]; have := HML.out; omega
      go_wp2_with fail
      go_roundw
      case rel => exact ⟨k + 1, j + 1 + 0, a6', c6', (ns.take j ++ st.data.toList :: ns.drop j), by omega, by go_num, by first | rfl | go_num, by omega, And.intro ⟨hlz.symm, by rw [HT.out, HINS.out]⟩ (by rw [HZ.out]; exact S51.out)⟩
      case measure => simp [intOf]; omega
     exact AllReadyH.nil
    ·
     skip
     have hjl2 : j < ns.length := by have := HML.out; omega
     have hmj : ¬ m = j := by omega
     have hmj2 : ¬ (m : Int) = (j : Int) := by omega
     have hmj3 : ¬ m - j = 0 := by omega
     obtain ⟨ad2, e2, _⟩ := readsT_at (Sv.own_at S41.out 0 rfl).reads j hjl2
     subst e2
     obtain ⟨t, ht⟩ : ∃ t : ByteArray, t = ⟨ns[j].toArray⟩ := ⟨_, rfl⟩
     have HX2 := Lib.hid (show (cT ns)[j]? = some (.string t) from by rw [ht, List.getElem?_eq_getElem (by simpa using hjl2)]; simp [cT])
     have HTL := Lib.hid (show t.toList = ns[j] from by rw [ht, ByteArray.toList_eq])
     clear ht
     have HSTL := Lib.hid (show st.toList = st.data.toList from ByteArray.toList_eq ..)
     have hjm2 : (j : Int) < (m : Int) := by omega
     obtain ⟨bo, hbo⟩ : ∃ b, Op.bytesLess t.toList st.toList = b := ⟨_, rfl⟩
     have HBO := Lib.hid (show decide (ns[j] < st.data.toList) = bo from by rw [← hbo, Go.Proofs.bytesLess_eq, HTL.out, HSTL.out])
     obtain ⟨f0, f1, f2, f3, f4, f5, f6⟩ := HK.out _ S41.out.old
     have f7 : World.cell? _ (ad2.add j) = some (.string t) := readsT_cell (Sv.own_at S41.out 0 rfl).reads j _ HX2.out
     go_upto_region 6 with fail
     clear f0 f1 f2 f3 f4 f5 f6 f7
     refine wp_region_held_drew (S := (fun w' => (w'.cell? (oad.add (k * 7)) = some (.int .i64 kd) ∧ w'.cell? (⟨(oad.add (k * 7)).block, (oad.add (k * 7)).off + 1, none⟩) = some (.string st) ∧ w'.cell? (⟨(oad.add (k * 7)).block, (oad.add (k * 7)).off + 2, none⟩) = some (.int .i64 kk) ∧ w'.cell? (⟨(oad.add (k * 7)).block, (oad.add (k * 7)).off + 3, none⟩) = some (.int .i64 kn) ∧ w'.cell? (⟨(oad.add (k * 7)).block, (oad.add (k * 7)).off + 4, none⟩) = some (.string kt) ∧ w'.cell? (⟨(oad.add (k * 7)).block, (oad.add (k * 7)).off + 5, none⟩) = some (.slice ra rl.length rc) ∧ w'.cell? (⟨(oad.add (k * 7)).block, (oad.add (k * 7)).off + 6, none⟩) = some (.string fd)) ∧ w'.cell? (ad2.add j) = some (.string t))) (by kernel_rfl) ⟨HK.out _ (Bag.drew1 S41.out).old, readsT_cell (Sv.own_at (Bag.drew1 S41.out) 0 rfl).reads j _ HX2.out⟩ (fun hS => ?_)
     have S42 := Lib.hid (Bag.drew1 S41.out)
     clear S41
     generalize World.drew _ = w2 at hS S42 ⊢
     refine tk 0 rfl ?_
     try simp only [zp0, zp1, zp2, zp3, zp4]
     refine tk 1 rfl ?_
     try simp only [zp0, zp1, zp2, zp3, zp4]
     refine tk 2 rfl ?_
     try simp only [zp0, zp1, zp2, zp3, zp4]
     refine tk 3 rfl ?_
     try simp only [zp0, zp1, zp2, zp3, zp4]
     refine tk 4 rfl ?_
     try simp only [zp0, zp1, zp2, zp3, zp4]
     refine tk 5 rfl ?_
     try simp only [zp0, zp1, zp2, zp3, zp4]
     refine tk 6 rfl ?_
     try simp only [zp0, zp1, zp2, zp3, zp4]
     refine tk 7 rfl ?_
     try simp only [zp0, zp1, zp2, zp3, zp4]
     refine tk 8 rfl ?_
     try simp only [zp0, zp1, zp2, zp3, zp4]
     refine tk 9 rfl ?_
     try simp only [zp0, zp1, zp2, zp3, zp4]
     refine tk 10 rfl ?_
     try simp only [zp0, zp1, zp2, zp3, zp4]
     refine tk 11 rfl ?_
     try simp only [zp0, zp1, zp2, zp3, zp4]
     refine tk 12 rfl ?_
     try simp only [zp0, zp1, zp2, zp3, zp4]
     refine tk 13 rfl ?_
     try simp only [zp0, zp1, zp2, zp3, zp4]
     refine tk 14 rfl ?_
     try simp only [zp0, zp1, zp2, zp3, zp4]
     refine tk 15 rfl ?_
     try simp only [zp0, zp1, zp2, zp3, zp4]
     refine wpAnyH_done (by kernel_rfl) ?_ _
     obtain ⟨f0, f1, f2, f3, f4, f5, f6⟩ := HK.out _ S42.out.old
     have f7 : World.cell? _ (ad2.add j) = some (.string t) := readsT_cell (Sv.own_at S42.out 0 rfl).reads j _ HX2.out
     cases bo with
     | true =>
      have hj2 : j + 1 ≤ L9s.atN ns st.data.toList := (L9s.atN_step st.data.toList ns j HJ.out hjl2).1 (of_decide_eq_true HBO.out)
      go_wp2_with fail
      go_roundw
      case rel => exact ⟨j + 1, by omega, by go_num, And.intro hj2 S42.out⟩
      case measure => simp [intOf]; omega
     | false =>
      have HAT := Lib.hid (show L9s.atN ns st.data.toList = j from by have h1 := HJ.out; have h2 : ¬ j < L9s.atN ns st.data.toList := fun h => absurd ((L9s.atN_step st.data.toList ns j HJ.out hjl2).2 h) (of_decide_eq_false HBO.out); omega)
      obtain ⟨be, hbe⟩ : ∃ b, (t.toList == st.toList) = b := ⟨_, rfl⟩
      have HBE := Lib.hid (show decide (ns[j] = st.data.toList) = be from by rw [← hbe, HTL.out, HSTL.out]; exact Bool.eq_iff_iff.2 (by simp))
      clear f0 f1 f2 f3 f4 f5 f6 f7
      obtain ⟨f0, f1, f2, f3, f4, f5, f6⟩ := HK.out _ S42.out.old
      have f7 : World.cell? _ (ad2.add j) = some (.string t) := readsT_cell (Sv.own_at S42.out 0 rfl).reads j _ HX2.out
      go_upto_region 8 with fail
      clear f0 f1 f2 f3 f4 f5 f6 f7
      refine wp_region_held_drew (S := (fun w' => (w'.cell? (oad.add (k * 7)) = some (.int .i64 kd) ∧ w'.cell? (⟨(oad.add (k * 7)).block, (oad.add (k * 7)).off + 1, none⟩) = some (.string st) ∧ w'.cell? (⟨(oad.add (k * 7)).block, (oad.add (k * 7)).off + 2, none⟩) = some (.int .i64 kk) ∧ w'.cell? (⟨(oad.add (k * 7)).block, (oad.add (k * 7)).off + 3, none⟩) = some (.int .i64 kn) ∧ w'.cell? (⟨(oad.add (k * 7)).block, (oad.add (k * 7)).off + 4, none⟩) = some (.string kt) ∧ w'.cell? (⟨(oad.add (k * 7)).block, (oad.add (k * 7)).off + 5, none⟩) = some (.slice ra rl.length rc) ∧ w'.cell? (⟨(oad.add (k * 7)).block, (oad.add (k * 7)).off + 6, none⟩) = some (.string fd)) ∧ w'.cell? (ad2.add j) = some (.string t))) (by kernel_rfl) ⟨HK.out _ (Bag.drew1 S42.out).old, readsT_cell (Sv.own_at (Bag.drew1 S42.out) 0 rfl).reads j _ HX2.out⟩ (fun hS => ?_)
      have S43 := Lib.hid (Bag.drew1 S42.out)
      clear S42
      generalize World.drew _ = w3 at hS S43 ⊢
      refine tk 0 rfl ?_
      try simp only [zp0, zp1, zp2, zp3, zp4]
      refine tk 1 rfl ?_
      try simp only [zp0, zp1, zp2, zp3, zp4]
      refine tk 2 rfl ?_
      try simp only [zp0, zp1, zp2, zp3, zp4]
      refine tk 3 rfl ?_
      try simp only [zp0, zp1, zp2, zp3, zp4]
      refine tk 4 rfl ?_
      try simp only [zp0, zp1, zp2, zp3, zp4]
      refine tk 5 rfl ?_
      try simp only [zp0, zp1, zp2, zp3, zp4]
      refine tk 6 rfl ?_
      try simp only [zp0, zp1, zp2, zp3, zp4]
      refine tk 7 rfl ?_
      try simp only [zp0, zp1, zp2, zp3, zp4]
      refine tk 8 rfl ?_
      try simp only [zp0, zp1, zp2, zp3, zp4]
      refine tk 9 rfl ?_
      try simp only [zp0, zp1, zp2, zp3, zp4]
      refine tk 10 rfl ?_
      try simp only [zp0, zp1, zp2, zp3, zp4]
      refine tk 11 rfl ?_
      try simp only [zp0, zp1, zp2, zp3, zp4]
      refine tk 12 rfl ?_
      try simp only [zp0, zp1, zp2, zp3, zp4]
      refine tk 13 rfl ?_
      try simp only [zp0, zp1, zp2, zp3, zp4]
      refine tk 14 rfl ?_
      try simp only [zp0, zp1, zp2, zp3, zp4]
      refine tk 15 rfl ?_
      try simp only [zp0, zp1, zp2, zp3, zp4]
      refine wpAnyH_done (by kernel_rfl) ?_ _
      obtain ⟨f0, f1, f2, f3, f4, f5, f6⟩ := HK.out _ S43.out.old
      have f7 : World.cell? _ (ad2.add j) = some (.string t) := readsT_cell (Sv.own_at S43.out 0 rfl).reads j _ HX2.out
      cases be with
      | true =>
       have HINS := Lib.hid (show L9s.insN ns st.data.toList = ns from by rw [L9s.insN_at, HAT.out, if_pos (by rw [List.getElem?_eq_getElem hjl2, of_decide_eq_true HBE.out])])
       go_wp2_with fail
       go_roundw
       case rel => exact ⟨k + 1, m, _, _, ns, by omega, by go_num, rfl, by omega, And.intro ⟨HML.out, by rw [HT.out, HINS.out]⟩ S43.out⟩
       case measure => simp [intOf]; omega
      | false =>
       have HINS := Lib.hid (show L9s.insN ns st.data.toList = ns.take j ++ st.data.toList :: ns.drop j from by rw [L9s.insN_at, HAT.out, if_neg (by rw [List.getElem?_eq_getElem hjl2]; intro h; exact absurd (Option.some.inj h) (of_decide_eq_false HBE.out))])
       obtain ⟨g9, hg9⟩ : ∃ g, ad2 = ⟨g, 0, none⟩ := by
        rcases (Sv.own_at S43.out 0 rfl).form with ⟨_, h0, _⟩ | ⟨g, e, _⟩
        ·
         omega
        ·
         injection e with e; exact ⟨g, e⟩
       subst hg9
       have hcap : m ≤ C := by have := (Sv.own_at S43.out 0 rfl).cap; omega
       have hck : (j : Int) ≤ (C : Int) := by omega
       have hjm' : (j : Int) ≤ (m : Int) := by omega
       have hmc : (m : Int) ≤ (C : Int) := by omega
       have hm6 : m ≤ 1048576 := by omega
       have hCj : ¬ C = j := by omega
       have hCj2 : ¬ j = C := by omega
       have hCj3 : ¬ C - j = 0 := by omega
       have hCj4 : ¬ (C : Int) = (j : Int) := by omega
       have hCj5 : (j : Int) < (C : Int) := by omega
       have hCj6 : j < C := by omega
       have hCj7 : ¬ C ≤ j := by omega
       clear f0 f1 f2 f3 f4 f5 f6 f7
       obtain ⟨f0, f1, f2, f3, f4, f5, f6⟩ := HK.out _ S43.out.old
       go_upto_region 9 with fail
       clear f0 f1 f2 f3 f4 f5 f6
       refine wp_region_held_drew (S := (fun w' => (w'.cell? (oad.add (k * 7)) = some (.int .i64 kd) ∧ w'.cell? (⟨(oad.add (k * 7)).block, (oad.add (k * 7)).off + 1, none⟩) = some (.string st) ∧ w'.cell? (⟨(oad.add (k * 7)).block, (oad.add (k * 7)).off + 2, none⟩) = some (.int .i64 kk) ∧ w'.cell? (⟨(oad.add (k * 7)).block, (oad.add (k * 7)).off + 3, none⟩) = some (.int .i64 kn) ∧ w'.cell? (⟨(oad.add (k * 7)).block, (oad.add (k * 7)).off + 4, none⟩) = some (.string kt) ∧ w'.cell? (⟨(oad.add (k * 7)).block, (oad.add (k * 7)).off + 5, none⟩) = some (.slice ra rl.length rc) ∧ w'.cell? (⟨(oad.add (k * 7)).block, (oad.add (k * 7)).off + 6, none⟩) = some (.string fd)))) (by kernel_rfl) (HK.out _ (Bag.drew1 S43.out).old) (fun hS => ?_)
       have S44 := Lib.hid (Bag.drew1 S43.out)
       clear S43
       generalize World.drew _ = w4 at hS S44 ⊢
       refine tk 1 rfl ?_
       try simp only [zp0, zp1, zp2, zp3, zp4]
       refine tk 2 rfl ?_
       try simp only [zp0, zp1, zp2, zp3, zp4]
       refine tk 3 rfl ?_
       try simp only [zp0, zp1, zp2, zp3, zp4]
       refine tk 5 rfl ?_
       try simp only [zp0, zp1, zp2, zp3, zp4]
       refine tk 6 rfl ?_
       try simp only [zp0, zp1, zp2, zp3, zp4]
       refine tk 7 rfl ?_
       try simp only [zp0, zp1, zp2, zp3, zp4]
       refine tk 8 rfl ?_
       try simp only [zp0, zp1, zp2, zp3, zp4]
       refine tk 9 rfl ?_
       try simp only [zp0, zp1, zp2, zp3, zp4]
       refine tk 12 rfl ?_
       try simp only [zp0, zp1, zp2, zp3, zp4]
       refine tk 13 rfl ?_
       try simp only [zp0, zp1, zp2, zp3, zp4]
       refine tk 14 rfl ?_
       try simp only [zp0, zp1, zp2, zp3, zp4]
       refine wpAnyH_ready (rs := [0, 10]) (by kernel_rfl) (by simp) ?_
       refine Reg.cons_op (i := 0) rfl (fun K hK => ?_) ?_
       ·
        skip
        go_simp
        have S45 := Lib.hid (show Sl.Sep w _ [_, Sv.ownV 9 1 (some ⟨w4.heap.size, 0, none⟩) 0 0 (cT [])] from Sv.push_own S44.out ((Below.refl _ _).alloc (Nat.le_refl _) _) (OwnV.madeAt w4 9 1 0 w4.heap.size #[] rfl (Nat.le_refl _) rfl (by decide)))
        clear S44
        obtain ⟨g2, hg⟩ : ∃ g', g' = w4.heap.size := ⟨_, rfl⟩
        rw [← hg] at S45 ⊢
        clear hg
        generalize w4.alloc (.cells #[] 9) = w5 at S45 ⊢
        refine hK.out _ _ (HK.out _ S45.out.old) (fun hS => ?_)
        clear hK K
        try simp only [zp0, zp1, zp2, zp3, zp4]
        refine wpAnyH_ready (rs := [4, 10]) (by kernel_rfl) (by simp) ?_
        refine Reg.cons_op (i := 4) rfl (fun K hK => ?_) ?_
        ·
         skip
         refine Sv.step_append_s S45.out 1 rfl rfl _ _ 90 (by rfl) iT (.string ⟨#[]⟩) 16 Tryz.underlying90 HIT.out.1 HIT.out.2.1 HIT.out.2.2.1 HIT.out.2.2.2 rfl (by omega) _ (by rfl) rfl _ _ j _ _ (cT (ns.take j)) (by rfl) rfl (readsT_head (Sv.own_at S45.out 0 rfl).reads j) (by rw [cT_length, List.length_take, Nat.min_eq_left hjn]; omega) (one_str _) (by unfold maxLen; omega) (by omega) ?_
         intro a3' c3' w6 hA
         have S46 := Lib.hid (show Sl.Sep w _ [_, Sv.ownV 9 1 a3' c3' (0 + j) (cT [] ++ (cT (ns.take j)))] from hA)
         clear S45
         clear hA
         have S47 := Lib.hid (show Sl.Sep w _ [_, Sv.ownV 9 1 a3' c3' j (cT [] ++ (cT (ns.take j)))] from (by have h := S46.out; rw [Nat.zero_add] at h; exact h))
         clear S46
         refine hK.out _ _ (HK.out _ S47.out.old) (fun hS => ?_)
         clear hK K
         try simp only [zp0, zp1, zp2, zp3, zp4]
         refine Reg.one_op (i := 10) rfl (by kernel_rfl) (fun K hK => ?_)
         go_simp
         have S48 := Lib.hid (show Sl.Sep w _ [_, _, Sv.ownV 9 1 (some ⟨w6.heap.size, 0, none⟩) 1 1 ([.string st])] from Sv.push_own S47.out ((Below.refl _ _).alloc (Nat.le_refl _) _) (OwnV.madeAt w6 9 1 1 w6.heap.size #[.string st] rfl (Nat.le_refl _) rfl (by decide)))
         clear S47
         obtain ⟨g4, hg⟩ : ∃ g', g' = w6.heap.size := ⟨_, rfl⟩
         rw [← hg] at S48 ⊢
         clear hg
         generalize w6.alloc (.cells #[.string st] 9) = w7 at S48 ⊢
         refine hK.out _ _ (HK.out _ S48.out.old) (fun hS => ?_)
         clear hK K
         try simp only [zp0, zp1, zp2, zp3, zp4]
         refine Reg.one_op (i := 11) rfl (by kernel_rfl) (fun K hK => ?_)
         refine Sv.step_append_s S48.out 1 rfl rfl _ _ 90 (by rfl) iT (.string ⟨#[]⟩) 16 Tryz.underlying90 HIT.out.1 HIT.out.2.1 HIT.out.2.2.1 HIT.out.2.2.2 rfl (by omega) _ (by rfl) (by first | rfl | exact Nat.zero_add _) _ _ 1 _ _ ([.string st]) (by rfl) rfl ((Sv.own_at S48.out 2 rfl).reads) rfl (one_str1 _) (by unfold maxLen; omega) (by omega) ?_
         intro a5' c5' w8 hA
         have S49 := Lib.hid (show Sl.Sep w _ [_, Sv.ownV 9 1 a5' c5' (j + 1) (cT [] ++ (cT (ns.take j)) ++ ([.string st])), Sv.ownV 9 1 (some ⟨g4, 0, none⟩) 1 1 ([.string st])] from hA)
         clear S48
         clear hA
         refine hK.out _ _ (HK.out _ S49.out.old) (fun hS => ?_)
         clear hK K
         try simp only [zp0, zp1, zp2, zp3, zp4]
         refine Reg.one_op (i := 15) rfl (by kernel_rfl) (fun K hK => ?_)
         refine Sv.step_append_s S49.out 1 rfl rfl _ _ 90 (by rfl) iT (.string ⟨#[]⟩) 16 Tryz.underlying90 HIT.out.1 HIT.out.2.1 HIT.out.2.2.1 HIT.out.2.2.2 rfl (by omega) _ (by rfl) rfl _ _ (m - j) _ _ (cT (ns.drop j)) (by rfl) rfl (readsT_rest (Sv.own_at S49.out 0 rfl).reads j) (by rw [cT_length, List.length_drop]; have := HML.out; omega) (one_str _) (by unfold maxLen; omega) (by omega) ?_
         intro a6' c6' w9 hA
         have S50 := Lib.hid (show Sl.Sep w _ [_, Sv.ownV 9 1 a6' c6' (j + 1 + (m - j)) (cT [] ++ (cT (ns.take j)) ++ ([.string st]) ++ (cT (ns.drop j))), _] from hA)
         clear S49
         clear hA
         refine hK.out _ _ (HK.out _ S50.out.old) (fun hS => ?_)
         clear hK K
         try simp only [zp0, zp1, zp2, zp3, zp4]
         refine tk 16 rfl ?_
         try simp only [zp0, zp1, zp2, zp3, zp4]
         refine wpAnyH_done (by kernel_rfl) ?_ _
         obtain ⟨f0, f1, f2, f3, f4, f5, f6⟩ := HK.out _ S50.out.old
         clear f0 f1 f2 f3 f4 f5 f6
         have S51 := Lib.hid (show Sl.Sep w _ [_] from Bag.take S50.out [1] (by rfl) (by decide))
         clear S50
         have HZ := Lib.hid (show cT (ns.take j ++ st.data.toList :: ns.drop j) = cT [] ++ (cT (ns.take j)) ++ ([.string st]) ++ (cT (ns.drop j)) from by rw [cT_append, show st.data.toList :: ns.drop j = [st.data.toList] ++ ns.drop j from rfl, cT_append, ← cT_one]; simp [cT])
         have hlz : (ns.take j ++ st.data.toList :: ns.drop j).length = j + 1 + (m - j) := by rw [List.length_append, List.length_cons, List.length_take, List.length_drop]; have := HML.out; omega
         go_wp2_with fail
         go_roundw
         case rel => exact ⟨k + 1, j + 1 + (m - j), a6', c6', (ns.take j ++ st.data.toList :: ns.drop j), by omega, by go_num, by first | rfl | go_num, by omega, And.intro ⟨hlz.symm, by rw [HT.out, HINS.out]⟩ (by rw [HZ.out]; exact S51.out)⟩
         case measure => simp [intOf]; omega
        refine Reg.cons_op (i := 10) rfl (fun K hK => ?_) ?_
        ·
         skip
         go_simp
         have S46 := Lib.hid (show Sl.Sep w _ [_, Sv.ownV 9 1 (some ⟨g2, 0, none⟩) 0 0 (cT []), Sv.ownV 9 1 (some ⟨w5.heap.size, 0, none⟩) 1 1 ([.string st])] from Sv.push_own S45.out ((Below.refl _ _).alloc (Nat.le_refl _) _) (OwnV.madeAt w5 9 1 1 w5.heap.size #[.string st] rfl (Nat.le_refl _) rfl (by decide)))
         clear S45
         obtain ⟨g3, hg⟩ : ∃ g', g' = w5.heap.size := ⟨_, rfl⟩
         rw [← hg] at S46 ⊢
         clear hg
         generalize w5.alloc (.cells #[.string st] 9) = w6 at S46 ⊢
         refine hK.out _ _ (HK.out _ S46.out.old) (fun hS => ?_)
         clear hK K
         try simp only [zp0, zp1, zp2, zp3, zp4]
         refine Reg.one_op (i := 4) rfl (by kernel_rfl) (fun K hK => ?_)
         refine Sv.step_append_s S46.out 1 rfl rfl _ _ 90 (by rfl) iT (.string ⟨#[]⟩) 16 Tryz.underlying90 HIT.out.1 HIT.out.2.1 HIT.out.2.2.1 HIT.out.2.2.2 rfl (by omega) _ (by rfl) rfl _ _ j _ _ (cT (ns.take j)) (by rfl) rfl (readsT_head (Sv.own_at S46.out 0 rfl).reads j) (by rw [cT_length, List.length_take, Nat.min_eq_left hjn]; omega) (one_str _) (by unfold maxLen; omega) (by omega) ?_
         intro a4' c4' w7 hA
         have S47 := Lib.hid (show Sl.Sep w _ [_, Sv.ownV 9 1 a4' c4' (0 + j) (cT [] ++ (cT (ns.take j))), Sv.ownV 9 1 (some ⟨g3, 0, none⟩) 1 1 ([.string st])] from hA)
         clear S46
         clear hA
         have S48 := Lib.hid (show Sl.Sep w _ [_, Sv.ownV 9 1 a4' c4' j (cT [] ++ (cT (ns.take j))), _] from (by have h := S47.out; rw [Nat.zero_add] at h; exact h))
         clear S47
         refine hK.out _ _ (HK.out _ S48.out.old) (fun hS => ?_)
         clear hK K
         try simp only [zp0, zp1, zp2, zp3, zp4]
         refine Reg.one_op (i := 11) rfl (by kernel_rfl) (fun K hK => ?_)
         refine Sv.step_append_s S48.out 1 rfl rfl _ _ 90 (by rfl) iT (.string ⟨#[]⟩) 16 Tryz.underlying90 HIT.out.1 HIT.out.2.1 HIT.out.2.2.1 HIT.out.2.2.2 rfl (by omega) _ (by rfl) (by first | rfl | exact Nat.zero_add _) _ _ 1 _ _ ([.string st]) (by rfl) rfl ((Sv.own_at S48.out 2 rfl).reads) rfl (one_str1 _) (by unfold maxLen; omega) (by omega) ?_
         intro a5' c5' w8 hA
         have S49 := Lib.hid (show Sl.Sep w _ [_, Sv.ownV 9 1 a5' c5' (j + 1) (cT [] ++ (cT (ns.take j)) ++ ([.string st])), _] from hA)
         clear S48
         clear hA
         refine hK.out _ _ (HK.out _ S49.out.old) (fun hS => ?_)
         clear hK K
         try simp only [zp0, zp1, zp2, zp3, zp4]
         refine Reg.one_op (i := 15) rfl (by kernel_rfl) (fun K hK => ?_)
         refine Sv.step_append_s S49.out 1 rfl rfl _ _ 90 (by rfl) iT (.string ⟨#[]⟩) 16 Tryz.underlying90 HIT.out.1 HIT.out.2.1 HIT.out.2.2.1 HIT.out.2.2.2 rfl (by omega) _ (by rfl) rfl _ _ (m - j) _ _ (cT (ns.drop j)) (by rfl) rfl (readsT_rest (Sv.own_at S49.out 0 rfl).reads j) (by rw [cT_length, List.length_drop]; have := HML.out; omega) (one_str _) (by unfold maxLen; omega) (by omega) ?_
         intro a6' c6' w9 hA
         have S50 := Lib.hid (show Sl.Sep w _ [_, Sv.ownV 9 1 a6' c6' (j + 1 + (m - j)) (cT [] ++ (cT (ns.take j)) ++ ([.string st]) ++ (cT (ns.drop j))), _] from hA)
         clear S49
         clear hA
         refine hK.out _ _ (HK.out _ S50.out.old) (fun hS => ?_)
         clear hK K
         try simp only [zp0, zp1, zp2, zp3, zp4]
         refine tk 16 rfl ?_
         try simp only [zp0, zp1, zp2, zp3, zp4]
         refine wpAnyH_done (by kernel_rfl) ?_ _
         obtain ⟨f0, f1, f2, f3, f4, f5, f6⟩ := HK.out _ S50.out.old
         clear f0 f1 f2 f3 f4 f5 f6
         have S51 := Lib.hid (show Sl.Sep w _ [_] from Bag.take S50.out [1] (by rfl) (by decide))
         clear S50
         have HZ := Lib.hid (show cT (ns.take j ++ st.data.toList :: ns.drop j) = cT [] ++ (cT (ns.take j)) ++ ([.string st]) ++ (cT (ns.drop j)) from by rw [cT_append, show st.data.toList :: ns.drop j = [st.data.toList] ++ ns.drop j from rfl, cT_append, ← cT_one]; simp [cT])
         have hlz : (ns.take j ++ st.data.toList :: ns.drop j).length = j + 1 + (m - j) := by rw [List.length_append, List.length_cons, List.length_take, List.length_drop]; have := HML.out; omega
         go_wp2_with fail
         go_roundw
         case rel => exact ⟨k + 1, j + 1 + (m - j), a6', c6', (ns.take j ++ st.data.toList :: ns.drop j), by omega, by go_num, by first | rfl | go_num, by omega, And.intro ⟨hlz.symm, by rw [HT.out, HINS.out]⟩ (by rw [HZ.out]; exact S51.out)⟩
         case measure => simp [intOf]; omega
        exact AllReadyH.nil
       refine Reg.cons_op (i := 10) rfl (fun K hK => ?_) ?_
       ·
        skip
        go_simp
        have S45 := Lib.hid (show Sl.Sep w _ [_, Sv.ownV 9 1 (some ⟨w4.heap.size, 0, none⟩) 1 1 ([.string st])] from Sv.push_own S44.out ((Below.refl _ _).alloc (Nat.le_refl _) _) (OwnV.madeAt w4 9 1 1 w4.heap.size #[.string st] rfl (Nat.le_refl _) rfl (by decide)))
        clear S44
        obtain ⟨g2, hg⟩ : ∃ g', g' = w4.heap.size := ⟨_, rfl⟩
        rw [← hg] at S45 ⊢
        clear hg
        generalize w4.alloc (.cells #[.string st] 9) = w5 at S45 ⊢
        refine hK.out _ _ (HK.out _ S45.out.old) (fun hS => ?_)
        clear hK K
        try simp only [zp0, zp1, zp2, zp3, zp4]
        refine Reg.one_op (i := 0) rfl (by kernel_rfl) (fun K hK => ?_)
        go_simp
        have S46 := Lib.hid (show Sl.Sep w _ [_, Sv.ownV 9 1 (some ⟨g2, 0, none⟩) 1 1 ([.string st]), Sv.ownV 9 1 (some ⟨w5.heap.size, 0, none⟩) 0 0 (cT [])] from Sv.push_own S45.out ((Below.refl _ _).alloc (Nat.le_refl _) _) (OwnV.madeAt w5 9 1 0 w5.heap.size #[] rfl (Nat.le_refl _) rfl (by decide)))
        clear S45
        obtain ⟨g3, hg⟩ : ∃ g', g' = w5.heap.size := ⟨_, rfl⟩
        rw [← hg] at S46 ⊢
        clear hg
        generalize w5.alloc (.cells #[] 9) = w6 at S46 ⊢
        refine hK.out _ _ (HK.out _ S46.out.old) (fun hS => ?_)
        clear hK K
        try simp only [zp0, zp1, zp2, zp3, zp4]
        refine Reg.one_op (i := 4) rfl (by kernel_rfl) (fun K hK => ?_)
        refine Sv.step_append_s S46.out 2 rfl rfl _ _ 90 (by rfl) iT (.string ⟨#[]⟩) 16 Tryz.underlying90 HIT.out.1 HIT.out.2.1 HIT.out.2.2.1 HIT.out.2.2.2 rfl (by omega) _ (by rfl) rfl _ _ j _ _ (cT (ns.take j)) (by rfl) rfl (readsT_head (Sv.own_at S46.out 0 rfl).reads j) (by rw [cT_length, List.length_take, Nat.min_eq_left hjn]; omega) (one_str _) (by unfold maxLen; omega) (by omega) ?_
        intro a4' c4' w7 hA
        have S47 := Lib.hid (show Sl.Sep w _ [_, _, Sv.ownV 9 1 a4' c4' (0 + j) (cT [] ++ (cT (ns.take j)))] from hA)
        clear S46
        clear hA
        have S48 := Lib.hid (show Sl.Sep w _ [_, _, Sv.ownV 9 1 a4' c4' j (cT [] ++ (cT (ns.take j)))] from (by have h := S47.out; rw [Nat.zero_add] at h; exact h))
        clear S47
        refine hK.out _ _ (HK.out _ S48.out.old) (fun hS => ?_)
        clear hK K
        try simp only [zp0, zp1, zp2, zp3, zp4]
        refine Reg.one_op (i := 11) rfl (by kernel_rfl) (fun K hK => ?_)
        refine Sv.step_append_s S48.out 2 rfl rfl _ _ 90 (by rfl) iT (.string ⟨#[]⟩) 16 Tryz.underlying90 HIT.out.1 HIT.out.2.1 HIT.out.2.2.1 HIT.out.2.2.2 rfl (by omega) _ (by rfl) (by first | rfl | exact Nat.zero_add _) _ _ 1 _ _ ([.string st]) (by rfl) rfl ((Sv.own_at S48.out 1 rfl).reads) rfl (one_str1 _) (by unfold maxLen; omega) (by omega) ?_
        intro a5' c5' w8 hA
        have S49 := Lib.hid (show Sl.Sep w _ [_, _, Sv.ownV 9 1 a5' c5' (j + 1) (cT [] ++ (cT (ns.take j)) ++ ([.string st]))] from hA)
        clear S48
        clear hA
        refine hK.out _ _ (HK.out _ S49.out.old) (fun hS => ?_)
        clear hK K
        try simp only [zp0, zp1, zp2, zp3, zp4]
        refine Reg.one_op (i := 15) rfl (by kernel_rfl) (fun K hK => ?_)
        refine Sv.step_append_s S49.out 2 rfl rfl _ _ 90 (by rfl) iT (.string ⟨#[]⟩) 16 Tryz.underlying90 HIT.out.1 HIT.out.2.1 HIT.out.2.2.1 HIT.out.2.2.2 rfl (by omega) _ (by rfl) rfl _ _ (m - j) _ _ (cT (ns.drop j)) (by rfl) rfl (readsT_rest (Sv.own_at S49.out 0 rfl).reads j) (by rw [cT_length, List.length_drop]; have := HML.out; omega) (one_str _) (by unfold maxLen; omega) (by omega) ?_
        intro a6' c6' w9 hA
        have S50 := Lib.hid (show Sl.Sep w _ [_, _, Sv.ownV 9 1 a6' c6' (j + 1 + (m - j)) (cT [] ++ (cT (ns.take j)) ++ ([.string st]) ++ (cT (ns.drop j)))] from hA)
        clear S49
        clear hA
        refine hK.out _ _ (HK.out _ S50.out.old) (fun hS => ?_)
        clear hK K
        try simp only [zp0, zp1, zp2, zp3, zp4]
        refine tk 16 rfl ?_
        try simp only [zp0, zp1, zp2, zp3, zp4]
        refine wpAnyH_done (by kernel_rfl) ?_ _
        obtain ⟨f0, f1, f2, f3, f4, f5, f6⟩ := HK.out _ S50.out.old
        clear f0 f1 f2 f3 f4 f5 f6
        have S51 := Lib.hid (show Sl.Sep w _ [_] from Bag.take S50.out [2] (by rfl) (by decide))
        clear S50
        have HZ := Lib.hid (show cT (ns.take j ++ st.data.toList :: ns.drop j) = cT [] ++ (cT (ns.take j)) ++ ([.string st]) ++ (cT (ns.drop j)) from by rw [cT_append, show st.data.toList :: ns.drop j = [st.data.toList] ++ ns.drop j from rfl, cT_append, ← cT_one]; simp [cT])
        have hlz : (ns.take j ++ st.data.toList :: ns.drop j).length = j + 1 + (m - j) := by rw [List.length_append, List.length_cons, List.length_take, List.length_drop]; have := HML.out; omega
        go_wp2_with fail
        go_roundw
        case rel => exact ⟨k + 1, j + 1 + (m - j), a6', c6', (ns.take j ++ st.data.toList :: ns.drop j), by omega, by go_num, by first | rfl | go_num, by omega, And.intro ⟨hlz.symm, by rw [HT.out, HINS.out]⟩ (by rw [HZ.out]; exact S51.out)⟩
        case measure => simp [intOf]; omega
       exact AllReadyH.nil
  ·
   skip
   go_wp2_with fail
   go_ret
   obtain rfl : k = N := by omega
   obtain ⟨hm, hc⟩ := HCO.out
   rw [List.take_of_length_le (show (nmO (coS_Op os)).length ≤ k by rw [nmO_len, HSL.out]; omega)] at hc
   subst hm
   subst hc
   have S90 := Lib.hid (Bag.bag_of_one S40.out 0 (r := rowT A C _) rfl)
   exact ⟨A, C, rfl, Bag.bag_from S90.out 0 rfl, S90.out.old⟩
end Go.Proofs.YthljdhfgphebnaaGreat.L9

namespace Go.Proofs.YthljdhfgphebnaaGreat.L10
open V L6 L9
open Go.ChangeShapes Go.WideShapes Go.ChangeAt Go.RowKit Mem Sl Sv Bag
def getSt (ss : List S6) (n : L9s.T) : Option S6 := match L8.fndS ss ⟨n.toArray⟩ with
 | none => none
 | some k => ss[k]?
def existS (ss : List S6) (ns : List L9s.T) : List S6 := ns.filterMap (getSt ss)
def stT (d : X_Database) (t : X_Tx) : X_Tx := ⟨t.f_Id, t.f_Ops, t.f_At, 1, existS d.f_Stores (L9s.scopeN (nmO t.f_Ops))⟩
def stX (d : X_Database) (q : List X_Tx) (i : Int) : List X_Tx := if csQ q i then
 (match q[i.toNat]? with
 | none => q
 | some t => q.set i.toNat (stT d t)) else q
theorem stX_no {d : X_Database} {q : List X_Tx} {i : Int} (h : csQ q i = false) : stX d q i = q := by unfold stX; rw [h]; rfl
theorem csQ_parts {q : List X_Tx} {i : Int} (h : csQ q i = true) : ∃ (k : Nat) (t : X_Tx), i = (k : Int) ∧ q[k]? = some t ∧ t.f_State = 0 := by
 unfold csQ at h
 rw [Bool.and_eq_true, L1.inB_true] at h
 obtain ⟨⟨h1, h2⟩, h3⟩ := h
 obtain ⟨k, rfl⟩ : ∃ k : Nat, i = (k : Int) := ⟨i.toNat, by omega⟩
 rw [Int.toNat_natCast] at h3
 cases ht : q[k]? with
 | none => rw [ht] at h3; cases h3
 | some t =>
  rw [ht] at h3
  dsimp only at h3
  rw [Bool.and_eq_true] at h3
  exact ⟨k, t, rfl, ht, by simpa using h3.1⟩
theorem stX_yes {d : X_Database} {q : List X_Tx} {k : Nat} {t : X_Tx} (h : csQ q (k : Int) = true) (ht : q[k]? = some t) : stX d q (k : Int) = q.set k (stT d t) := by
 unfold stX
 rw [h, Int.toNat_natCast, ht]
 rfl
theorem exist_snoc_none {ss : List S6} {ns : List L9s.T} {k : Nat} {n : L9s.T} (hn : ns[k]? = some n) (h : L8.fndS ss ⟨n.toArray⟩ = none) : existS ss (ns.take (k + 1)) = existS ss (ns.take k) := by
 unfold existS
 rw [V.take_next hn, List.filterMap_append]
 have e : getSt ss n = none := by unfold getSt; rw [h]
 rw [List.filterMap_cons, e]
 simp
theorem exist_snoc_some {ss : List S6} {ns : List L9s.T} {k j : Nat} {n : L9s.T} {s : S6} (hn : ns[k]? = some n) (h : L8.fndS ss ⟨n.toArray⟩ = some j) (hs : ss[j]? = some s) : existS ss (ns.take (k + 1)) = existS ss (ns.take k) ++ [s] := by
 unfold existS
 rw [V.take_next hn, List.filterMap_append]
 have e : getSt ss n = some s := by unfold getSt; rw [h]; exact hs
 rw [List.filterMap_cons, e]
 simp
def GaveQB (w : World) (l : List X_Tx) (b : Bool) (e : Ending) (w' : World) : Prop :=
 ∃ (a : Option Addr) (c : Nat) (ys : List Y_Tx), e = .returned (.tuple #[.agg #[.slice a ys.length c], .bool b]) ∧ coS_Tx ys = l ∧ BagOwn w' w.heap.size (rs_Tx a c ys) ∧ Below w.heap.size w w'
end Go.Proofs.YthljdhfgphebnaaGreat.L10

namespace Go.Proofs.YthljdhfgphebnaaGreat.L10
open V L6 L9
open Go.ChangeShapes Go.WideShapes Go.ChangeAt Go.RowKit Mem Sl Sv Bag
theorem fsum_most {α : Type} (f : α → Nat) (M : Nat) : ∀ xs : List α, (∀ x ∈ xs, f x ≤ M) → fsum f xs ≤ xs.length * M
 | [], _ => by rw [fsum_nil]; exact Nat.zero_le _
 | x :: xs, h => by
  have h1 := fsum_most f M xs (fun y hy => h y (List.mem_cons_of_mem _ hy))
  have h2 := h x (List.mem_cons_self ..)
  rw [fsum_cons, List.length_cons, Nat.add_mul, Nat.one_mul]
  omega
theorem exist_wt {ss : List S6} {ns : List L9s.T} (hs : ∀ s ∈ ss, wt_Store s ≤ 1048576) (hn : ns.length ≤ 1048576) : wsum wt_Store (existS ss ns) ≤ 1048576 * 1048577 := by
 have h1 : (existS ss ns).length ≤ 1048576 := Nat.le_trans (List.length_filterMap_le _ _) hn
 have h2 := fsum_most wt_Store 1048576 (existS ss ns) (fun s hm => by
  obtain ⟨n, _, he⟩ := List.mem_filterMap.1 hm
  unfold getSt at he
  split at he
  ·
   cases he
  ·
   exact hs s (List.mem_of_getElem? he))
 have h3 : (existS ss ns).length * 1048576 ≤ 1048576 * 1048576 := Nat.mul_le_mul_right _ h1
 unfold wsum
 omega
theorem set_wt {α : Type} (f : α → Nat) : ∀ (q : List α) (k : Nat) (t : α), wsum f (q.set k t) ≤ wsum f q + f t
 | [], k, t => by rw [List.set_nil]; omega
 | x :: q, 0, t => by
  rw [List.set_cons_zero]
  unfold wsum
  rw [List.length_cons, List.length_cons, fsum_cons, fsum_cons]
  omega
 | x :: q, k + 1, t => by
  have h := set_wt f q k t
  rw [List.set_cons_succ]
  unfold wsum at h ⊢
  rw [List.length_cons, List.length_cons, fsum_cons, fsum_cons]
  omega
theorem start_wt {d : X_Database} {q : List X_Tx} (i : Int) (h1 : wt_Database d ≤ 1048576) (h2 : wsum wt_Tx q ≤ 1048576) : wsum wt_Tx (stX d q i) ≤ 1125899906842624 := by
 cases hb : csQ q i with
 | false => rw [stX_no hb]; omega
 | true =>
  obtain ⟨k, t, rfl, ht, _⟩ := csQ_parts hb
  rw [stX_yes hb ht]
  have h3 := set_wt wt_Tx q k (stT d t)
  have h4 : wt_Tx (stT d t) = wsum wt_Op t.f_Ops + wsum wt_Store (existS d.f_Stores (L9s.scopeN (nmO t.f_Ops))) := rfl
  have h5 : wt_Tx t + 1 ≤ wsum wt_Tx q := wsum_mem (List.mem_of_getElem? ht)
  have h6 : wt_Tx t = wsum wt_Op t.f_Ops + wsum wt_Store t.f_Backup := rfl
  have h7 := wsum_len wt_Op t.f_Ops
  have h8 := L9s.length_scopeN (nmO t.f_Ops)
  rw [nmO_len] at h8
  have h9 := exist_wt (ss := d.f_Stores) (ns := L9s.scopeN (nmO t.f_Ops)) (fun s hs => by
   have e : wt_Database d = d.f_Name.size + (wsum wt_Store d.f_Stores + wsum wt_IndexDef d.f_Unique) := rfl
   have e2 : wt_Store s + 1 ≤ wsum wt_Store d.f_Stores := wsum_mem hs
   omega) (by omega)
  omega
end Go.Proofs.YthljdhfgphebnaaGreat.L10

namespace Go.Proofs.YthljdhfgphebnaaGreat.L9
open V L6
open L4 (K isK cmpK)
open L5 (F isR isN string_geq)
open Go.Op (bytesLess)
open Go.ChangeShapes Go.WideShapes Go.ChangeAt Go.RowKit Mem Sl Ex L2 Sv Bag

set_option maxHeartbeats 8000000 in
theorem specIsWrite_any (o : Y_Op) (hf : FitO (co_Op o)) (w : World) (hr : RowsRd w w.heap.size (rw_Op o)) :
  Calls Tryz.prog 121 #[vv_Op o] w fun e w' => e = .returned (.bool (isW (co_Op o).f_Kind)) ∧ Below w.heap.size w w' := by
 have HRR := Lib.hid (fun w' (h : Below w.heap.size w w') => (((rdO hr).below h).more h.size : Reads w' w'.heap.size o.f_Record.a (L5.cellsF o.f_Record.l)))
 have HFO := Lib.hid (show FitO ⟨o.f_Kind, o.f_Store, o.f_Key, o.f_Record.l, o.f_Field⟩ from hf)
 clear hf hr
 obtain ⟨kd, st, ⟨kk, kn, kt⟩, ⟨ra, rc, rl⟩, fd⟩ := o
 try unfold vv_Op
 dsimp only at HRR HFO ⊢
 show Calls _ _ _ _ fun e w' => e = .returned (.bool (L1.inB kd 1 6 && !(kd == 4))) ∧ _
 obtain ⟨bi, hbi⟩ : ∃ b, L1.inB kd 1 6 = b := ⟨_, rfl⟩
 have HIA := fun w => L1.l1In_any kd 1 6 w
 rw [hbi] at HIA ⊢
 replace HIA := Lib.hid HIA
 clear hbi
 generalize hB : (bi && _) = B
 have HB := Lib.hid hB.symm
 clear hB
 have S1 := Lib.hid (show Sl.Sep w _ [_] from L4.push_box (Sl.Sep.start w) 133 #[.int .i64 kd, .string st, .int .i64 kk, .int .i64 kn, .string kt, .slice ra rl.length rc, .string fd] (w.heap.size) (by simp))
 obtain ⟨wa, hwa⟩ : ∃ w_, w_ = (w.alloc (.cells #[.int .i64 kd, .string st, .int .i64 kk, .int .i64 kn, .string kt, .slice ra rl.length rc, .string fd] 133)) := ⟨_, rfl⟩
 rw [← hwa] at S1
 go_enter Tryz.func121, Tryz.ntmps121
 go_upto_region 1 with fail
 rw [← hwa]
 clear hwa
 obtain ⟨f0, f1, f2, f3, f4, f5, f6⟩ := Bag.cs7 S1.out 0 rfl
 cases bi with
 | false =>
  go_wp2_with fail
  go_at_call 65
  refine (HIA.out _).mono ?_
  rintro e w1 ⟨rfl, rfl⟩
  go_wp2_with fail
  go_ret
  exact ⟨by rw [HB.out]; simp [*], S1.out.old⟩
 | true =>
  go_wp2_with fail
  go_at_call 65
  refine (HIA.out _).mono ?_
  rintro e w1 ⟨rfl, rfl⟩
  by_cases h4 : kd = 4
  ·
   have h4' : (kd == 4) = true := by simp [h4]
   go_wp2_with fail
   go_ret
   exact ⟨by rw [HB.out]; simp [*], S1.out.old⟩
  skip
  ·
   have h4' : (kd == 4) = false := by simp [h4]
   go_wp2_with fail
   go_ret
   exact ⟨by rw [HB.out]; simp [*], S1.out.old⟩
end Go.Proofs.YthljdhfgphebnaaGreat.L9

set_option linter.unusedSimpArgs false
namespace Go.Proofs.YthljdhfgphebnaaGreat.L10
open V L6 L9
open L4 (K isK cmpK)
open L5 (F isR isN string_geq)
open Go.Op (bytesLess)
open Go.ChangeShapes Go.WideShapes Go.ChangeAt Go.RowKit Mem Sl Ex L2 Sv Bag

set_option maxHeartbeats 8000000 in
theorem specConflicts_any (a : Option Addr) (c : Nat) (os : List Y_Op) (hl : os.length ≤ 1048576) (hf : ∀ o ∈ coS_Op os, FitO o) (a2 : Option Addr) (c2 : Nat) (os2 : List Y_Op) (hl2 : os2.length ≤ 1048576) (hf2 : ∀ o ∈ coS_Op os2, FitO o) (w : World) (hr : Reads w w.heap.size a (os.flatMap cl_Op)) (hx : RowsRd w w.heap.size (rws_Op os)) (hr2 : Reads w w.heap.size a2 (os2.flatMap cl_Op)) (hx2 : RowsRd w w.heap.size (rws_Op os2)) :
  Calls Tryz.prog 83 #[.slice a os.length c, .slice a2 os2.length c2] w fun e w' => e = .returned (.bool (conf (coS_Op os) (coS_Op os2))) ∧ Below w.heap.size w w' := by
 have HR := Lib.hid (fun w' (h : Below w.heap.size w w') => hr.below h)
 have HX := Lib.hid (fun w' (h : Below w.heap.size w w') => (hx.below h).more h.size)
 have HF := Lib.hid hf
 obtain ⟨N, hN⟩ : ∃ n, n = os.length := ⟨_, rfl⟩
 rw [← hN] at hl ⊢
 have hl' : (N : Int) ≤ 1048576 := by omega
 have HN := Lib.hid hN
 clear hN hr hx hf
 have HR2 := Lib.hid (fun w' (h : Below w.heap.size w w') => hr2.below h)
 have HX2 := Lib.hid (fun w' (h : Below w.heap.size w w') => (hx2.below h).more h.size)
 have HF2 := Lib.hid hf2
 obtain ⟨N2, hN2⟩ : ∃ n, n = os2.length := ⟨_, rfl⟩
 rw [← hN2] at hl2 ⊢
 have hl2' : (N2 : Int) ≤ 1048576 := by omega
 have HN2 := Lib.hid hN2
 clear hN2 hr2 hx2 hf2
 have HSL := Lib.hid (show (coS_Op os).length = N ∧ (coS_Op os2).length = N2 from by rw [coS_len, coS_len, HN.out, HN2.out]; exact ⟨rfl, rfl⟩)
 obtain ⟨be, hbe⟩ : ∃ b, conf (coS_Op os) (coS_Op os2) = b := ⟨_, rfl⟩
 rw [hbe]
 have HB := Lib.hid hbe
 clear hbe
 have S1 := Lib.hid (show Sl.Sep w w [] from Sl.Sep.start w)
 go_enter Tryz.func83, Tryz.ntmps83
 go_wp2_with fail
 go_loopw [5] (fun i wr => ∃ k : Nat, k ≤ N ∧ i = .int .i64 k ∧ Hid ((∀ j (h1 : j < (coS_Op os).length), j < k → ((coS_Op os2).any fun y => confO (coS_Op os)[j] y) = false) ∧ Sl.Sep w wr [])) (fun i _ => N - (intOf i).toNat)
 case atStart => exact ⟨0, Nat.zero_le _, rfl, And.intro (fun j h1 h => absurd h (by omega)) S1.out⟩
 case round =>
  obtain ⟨k, hk, rfl, hrel⟩ := hrel
  have HA := Lib.hid hrel.out.1
  have S2 := Lib.hid hrel.out.2
  clear hrel S1
  by_cases hlt : (k : Int) < (N : Int)
  ·
   skip
   have hkl : k < os.length := by have := HN.out; omega
   obtain ⟨x, hx⟩ : ∃ x, os[k]? = some x := ⟨_, List.getElem?_eq_getElem hkl⟩
   obtain ⟨oad, e'⟩ := el_some cl_Op_len (by decide) (HR.out _ S2.out.old) hkl
   subst e'
   have hro := fun w' (h : Below w.heap.size w w') => rdOs (HX.out w' h) hx
   have hrr := fun w' (h : Below w.heap.size w w') => rdO (rdOs (HX.out w' h) hx)
   obtain ⟨kd, st, ⟨kk, kn, kt⟩, ⟨ra, rc, rl⟩, fd⟩ := x
   have HK := Lib.hid (fun w' (h : Below w.heap.size w w') => el7 cl_Op_len (HR.out _ h) hx rfl)
   dsimp only at HK hrr
   have HRO := Lib.hid hro
   have HRR := Lib.hid hrr
   have HC := Lib.hid (show (coS_Op os)[k]? = some (⟨kd, st, ⟨kk, kn, kt⟩, rl, fd⟩ : X_Op) from coS_at hx)
   have HFO := Lib.hid (HF.out _ (List.mem_of_getElem? HC.out))
   clear hx hrr hro
   obtain ⟨bw, hbw⟩ : ∃ b, isW kd = b := ⟨_, rfl⟩
   have HIW := fun w' (h : Below w.heap.size w w') => (specIsWrite_any (⟨kd, st, ⟨kk, kn, kt⟩, ⟨ra, rc, rl⟩, fd⟩ : Y_Op) HFO.out w' (HRO.out w' h)).mono (R' := fun e w2 => e = .returned (.bool bw) ∧ Below w'.heap.size w' w2) (fun e w2 hh => ⟨by rw [← hbw]; exact hh.1, hh.2⟩)
   unfold vv_Op at HIW
   dsimp only at HIW
   replace HIW := Lib.hid HIW
   have HBW := Lib.hid hbw
   clear hbw
   obtain ⟨f0, f1, f2, f3, f4, f5, f6⟩ := HK.out _ S2.out.old
   go_wp2_with fail
   clear f0 f1 f2 f3 f4 f5 f6
   go_loopw [6] (fun i wr2 => ∃ m : Nat, m ≤ N2 ∧ i = .int .i64 m ∧ Hid ((∀ j (h1 : j < (coS_Op os2).length), j < m → confO (⟨kd, st, ⟨kk, kn, kt⟩, rl, fd⟩ : X_Op) (coS_Op os2)[j] = false) ∧ Sl.Sep w wr2 [])) (fun i _ => N2 - (intOf i).toNat)
   case atStart => exact ⟨0, Nat.zero_le _, rfl, And.intro (fun j h1 h => absurd h (by omega)) S2.out⟩
   case round =>
    obtain ⟨m, hm, rfl, hrel⟩ := hrel
    have HA2 := Lib.hid hrel.out.1
    have S3 := Lib.hid hrel.out.2
    clear hrel S2
    by_cases hlt2 : (m : Int) < (N2 : Int)
    ·
     skip
     have hml : m < os2.length := by have := HN2.out; omega
     obtain ⟨x, hx⟩ : ∃ x, os2[m]? = some x := ⟨_, List.getElem?_eq_getElem hml⟩
     obtain ⟨oad2, e'⟩ := el_some cl_Op_len (by decide) (HR2.out _ S3.out.old) hml
     subst e'
     have hro := fun w' (h : Below w.heap.size w w') => rdOs (HX2.out w' h) hx
     have hrr := fun w' (h : Below w.heap.size w w') => rdO (rdOs (HX2.out w' h) hx)
     obtain ⟨kd2, st2, ⟨kk2, kn2, kt2⟩, ⟨ra2, rc2, rl2⟩, fd2⟩ := x
     have HK2 := Lib.hid (fun w' (h : Below w.heap.size w w') => el7 cl_Op_len (HR2.out _ h) hx rfl)
     dsimp only at HK2 hrr
     have HRO2 := Lib.hid hro
     have HRR2 := Lib.hid hrr
     have HC2 := Lib.hid (show (coS_Op os2)[m]? = some (⟨kd2, st2, ⟨kk2, kn2, kt2⟩, rl2, fd2⟩ : X_Op) from coS_at hx)
     have HFO2 := Lib.hid (HF2.out _ (List.mem_of_getElem? HC2.out))
     clear hx hrr hro
     obtain ⟨bw2, hbw⟩ : ∃ b, isW kd2 = b := ⟨_, rfl⟩
     have HIW2 := fun w' (h : Below w.heap.size w w') => (specIsWrite_any (⟨kd2, st2, ⟨kk2, kn2, kt2⟩, ⟨ra2, rc2, rl2⟩, fd2⟩ : Y_Op) HFO2.out w' (HRO2.out w' h)).mono (R' := fun e w2 => e = .returned (.bool bw2) ∧ Below w'.heap.size w' w2) (fun e w2 hh => ⟨by rw [← hbw]; exact hh.1, hh.2⟩)
     unfold vv_Op at HIW2
     dsimp only at HIW2
     replace HIW2 := Lib.hid HIW2
     have HBW2 := Lib.hid hbw
     clear hbw
     have HCO := Lib.hid (show confO (⟨kd, st, ⟨kk, kn, kt⟩, rl, fd⟩ : X_Op) (⟨kd2, st2, ⟨kk2, kn2, kt2⟩, rl2, fd2⟩ : X_Op) = (st.toList == st2.toList && (bw || bw2)) from by rw [← HBW.out, ← HBW2.out]; rfl)
     obtain ⟨f0, f1, f2, f3, f4, f5, f6⟩ := HK.out _ S3.out.old
     obtain ⟨f7, f8, f9, f10, f11, f12, f13⟩ := HK2.out _ S3.out.old
     cases hs : st.toList == st2.toList with
     | false =>
      go_upto_region 7 with fail
      clear f0 f1 f2 f3 f4 f5 f6 f7 f8 f9 f10 f11 f12 f13
      refine wp_region_held_drew (S := (fun w' => (w'.cell? (oad.add (k * 7)) = some (.int .i64 kd) ∧ w'.cell? (⟨(oad.add (k * 7)).block, (oad.add (k * 7)).off + 1, none⟩) = some (.string st) ∧ w'.cell? (⟨(oad.add (k * 7)).block, (oad.add (k * 7)).off + 2, none⟩) = some (.int .i64 kk) ∧ w'.cell? (⟨(oad.add (k * 7)).block, (oad.add (k * 7)).off + 3, none⟩) = some (.int .i64 kn) ∧ w'.cell? (⟨(oad.add (k * 7)).block, (oad.add (k * 7)).off + 4, none⟩) = some (.string kt) ∧ w'.cell? (⟨(oad.add (k * 7)).block, (oad.add (k * 7)).off + 5, none⟩) = some (.slice ra rl.length rc) ∧ w'.cell? (⟨(oad.add (k * 7)).block, (oad.add (k * 7)).off + 6, none⟩) = some (.string fd)) ∧ (w'.cell? (oad2.add (m * 7)) = some (.int .i64 kd2) ∧ w'.cell? (⟨(oad2.add (m * 7)).block, (oad2.add (m * 7)).off + 1, none⟩) = some (.string st2) ∧ w'.cell? (⟨(oad2.add (m * 7)).block, (oad2.add (m * 7)).off + 2, none⟩) = some (.int .i64 kk2) ∧ w'.cell? (⟨(oad2.add (m * 7)).block, (oad2.add (m * 7)).off + 3, none⟩) = some (.int .i64 kn2) ∧ w'.cell? (⟨(oad2.add (m * 7)).block, (oad2.add (m * 7)).off + 4, none⟩) = some (.string kt2) ∧ w'.cell? (⟨(oad2.add (m * 7)).block, (oad2.add (m * 7)).off + 5, none⟩) = some (.slice ra2 rl2.length rc2) ∧ w'.cell? (⟨(oad2.add (m * 7)).block, (oad2.add (m * 7)).off + 6, none⟩) = some (.string fd2)))) (by kernel_rfl) ⟨HK.out _ (Bag.drew1 S3.out).old, HK2.out _ (Bag.drew1 S3.out).old⟩ (fun hS => ?_)
      have S4 := Lib.hid (Bag.drew1 S3.out)
      clear S3
      generalize World.drew _ = w1 at hS S4 ⊢
      refine tk 0 rfl ?_
      try simp only [zp0, zp1, zp2, zp3, zp4]
      refine tk 1 rfl ?_
      try simp only [zp0, zp1, zp2, zp3, zp4]
      refine tk 2 rfl ?_
      try simp only [zp0, zp1, zp2, zp3, zp4]
      refine tk 3 rfl ?_
      try simp only [zp0, zp1, zp2, zp3, zp4]
      refine tk 4 rfl ?_
      try simp only [zp0, zp1, zp2, zp3, zp4]
      refine tk 5 rfl ?_
      try simp only [zp0, zp1, zp2, zp3, zp4]
      refine tk 6 rfl ?_
      try simp only [zp0, zp1, zp2, zp3, zp4]
      refine tk 7 rfl ?_
      try simp only [zp0, zp1, zp2, zp3, zp4]
      refine tk 8 rfl ?_
      try simp only [zp0, zp1, zp2, zp3, zp4]
      refine tk 9 rfl ?_
      try simp only [zp0, zp1, zp2, zp3, zp4]
      refine tk 10 rfl ?_
      try simp only [zp0, zp1, zp2, zp3, zp4]
      refine tk 11 rfl ?_
      try simp only [zp0, zp1, zp2, zp3, zp4]
      refine sk 12 rfl ?_
      try simp only [zp0, zp1, zp2, zp3, zp4]
      refine sk 13 rfl ?_
      try simp only [zp0, zp1, zp2, zp3, zp4]
      refine sk 14 rfl ?_
      try simp only [zp0, zp1, zp2, zp3, zp4]
      refine sk 15 rfl ?_
      try simp only [zp0, zp1, zp2, zp3, zp4]
      refine Reg.skip_one (i := 16) rfl (by kernel_rfl) (by rfl) (by assumption) ?_
      try simp only [zp0, zp1, zp2, zp3, zp4]
      refine sk 17 rfl ?_
      try simp only [zp0, zp1, zp2, zp3, zp4]
      refine sk 18 rfl ?_
      try simp only [zp0, zp1, zp2, zp3, zp4]
      refine sk 19 rfl ?_
      try simp only [zp0, zp1, zp2, zp3, zp4]
      refine sk 20 rfl ?_
      try simp only [zp0, zp1, zp2, zp3, zp4]
      refine sk 21 rfl ?_
      try simp only [zp0, zp1, zp2, zp3, zp4]
      refine Reg.skip_one (i := 22) rfl (by kernel_rfl) (by rfl) (by assumption) ?_
      try simp only [zp0, zp1, zp2, zp3, zp4]
      refine sk 23 rfl ?_
      try simp only [zp0, zp1, zp2, zp3, zp4]
      refine tk 24 rfl ?_
      try simp only [zp0, zp1, zp2, zp3, zp4]
      refine wpAnyH_done (by kernel_rfl) ?_ _
      obtain ⟨f0, f1, f2, f3, f4, f5, f6⟩ := HK.out _ S4.out.old
      obtain ⟨f7, f8, f9, f10, f11, f12, f13⟩ := HK2.out _ S4.out.old
      have HN0 := Lib.hid (show confO (⟨kd, st, ⟨kk, kn, kt⟩, rl, fd⟩ : X_Op) (⟨kd2, st2, ⟨kk2, kn2, kt2⟩, rl2, fd2⟩ : X_Op) = false from by rw [HCO.out, hs]; rfl)
      go_wp2_with fail
      go_roundw
      case rel => exact ⟨m + 1, by omega, by go_num, And.intro (fun j h1 h => by
       by_cases e : j < m
       ·
        exact HA2.out j h1 e
       ·
        obtain rfl : j = m := by omega
        rw [val_of HC2.out]; exact HN0.out) S4.out⟩
      case measure => simp [intOf]; omega
     | true =>
      cases bw with
      | true =>
       go_upto_region 7 with fail
       clear f0 f1 f2 f3 f4 f5 f6 f7 f8 f9 f10 f11 f12 f13
       refine wp_region_held_drew (S := (fun w' => (w'.cell? (oad.add (k * 7)) = some (.int .i64 kd) ∧ w'.cell? (⟨(oad.add (k * 7)).block, (oad.add (k * 7)).off + 1, none⟩) = some (.string st) ∧ w'.cell? (⟨(oad.add (k * 7)).block, (oad.add (k * 7)).off + 2, none⟩) = some (.int .i64 kk) ∧ w'.cell? (⟨(oad.add (k * 7)).block, (oad.add (k * 7)).off + 3, none⟩) = some (.int .i64 kn) ∧ w'.cell? (⟨(oad.add (k * 7)).block, (oad.add (k * 7)).off + 4, none⟩) = some (.string kt) ∧ w'.cell? (⟨(oad.add (k * 7)).block, (oad.add (k * 7)).off + 5, none⟩) = some (.slice ra rl.length rc) ∧ w'.cell? (⟨(oad.add (k * 7)).block, (oad.add (k * 7)).off + 6, none⟩) = some (.string fd)) ∧ (w'.cell? (oad2.add (m * 7)) = some (.int .i64 kd2) ∧ w'.cell? (⟨(oad2.add (m * 7)).block, (oad2.add (m * 7)).off + 1, none⟩) = some (.string st2) ∧ w'.cell? (⟨(oad2.add (m * 7)).block, (oad2.add (m * 7)).off + 2, none⟩) = some (.int .i64 kk2) ∧ w'.cell? (⟨(oad2.add (m * 7)).block, (oad2.add (m * 7)).off + 3, none⟩) = some (.int .i64 kn2) ∧ w'.cell? (⟨(oad2.add (m * 7)).block, (oad2.add (m * 7)).off + 4, none⟩) = some (.string kt2) ∧ w'.cell? (⟨(oad2.add (m * 7)).block, (oad2.add (m * 7)).off + 5, none⟩) = some (.slice ra2 rl2.length rc2) ∧ w'.cell? (⟨(oad2.add (m * 7)).block, (oad2.add (m * 7)).off + 6, none⟩) = some (.string fd2)))) (by kernel_rfl) ⟨HK.out _ (Bag.drew1 S3.out).old, HK2.out _ (Bag.drew1 S3.out).old⟩ (fun hS => ?_)
       have S4 := Lib.hid (Bag.drew1 S3.out)
       clear S3
       generalize World.drew _ = w1 at hS S4 ⊢
       refine tk 0 rfl ?_
       try simp only [zp0, zp1, zp2, zp3, zp4]
       refine tk 1 rfl ?_
       try simp only [zp0, zp1, zp2, zp3, zp4]
       refine tk 2 rfl ?_
       try simp only [zp0, zp1, zp2, zp3, zp4]
       refine tk 3 rfl ?_
       try simp only [zp0, zp1, zp2, zp3, zp4]
       refine tk 4 rfl ?_
       try simp only [zp0, zp1, zp2, zp3, zp4]
       refine tk 5 rfl ?_
       try simp only [zp0, zp1, zp2, zp3, zp4]
       refine tk 6 rfl ?_
       try simp only [zp0, zp1, zp2, zp3, zp4]
       refine tk 7 rfl ?_
       try simp only [zp0, zp1, zp2, zp3, zp4]
       refine tk 8 rfl ?_
       try simp only [zp0, zp1, zp2, zp3, zp4]
       refine tk 9 rfl ?_
       try simp only [zp0, zp1, zp2, zp3, zp4]
       refine tk 10 rfl ?_
       try simp only [zp0, zp1, zp2, zp3, zp4]
       refine tk 11 rfl ?_
       try simp only [zp0, zp1, zp2, zp3, zp4]
       refine tk 12 rfl ?_
       try simp only [zp0, zp1, zp2, zp3, zp4]
       refine tk 13 rfl ?_
       try simp only [zp0, zp1, zp2, zp3, zp4]
       refine tk 14 rfl ?_
       try simp only [zp0, zp1, zp2, zp3, zp4]
       refine tk 15 rfl ?_
       try simp only [zp0, zp1, zp2, zp3, zp4]
       refine Reg.one_op (i := 16) rfl (by kernel_rfl) (fun K hK => ?_)
       go_simp
       go_at_call 121
       refine (HIW.out _ S4.out.old).mono ?_
       rintro e w2 ⟨rfl, hb⟩
       have S5 := Lib.hid (S4.out.keep hb)
       clear S4
       clear hb
       go_wp2_with fail
       refine hK.out _ _ ⟨HK.out _ S5.out.old, HK2.out _ S5.out.old⟩ (fun hS => ?_)
       clear hK K
       try simp only [zp0, zp1, zp2, zp3, zp4]
       refine tk 17 rfl ?_
       try simp only [zp0, zp1, zp2, zp3, zp4]
       refine sk 18 rfl ?_
       try simp only [zp0, zp1, zp2, zp3, zp4]
       refine sk 19 rfl ?_
       try simp only [zp0, zp1, zp2, zp3, zp4]
       refine sk 20 rfl ?_
       try simp only [zp0, zp1, zp2, zp3, zp4]
       refine sk 21 rfl ?_
       try simp only [zp0, zp1, zp2, zp3, zp4]
       refine Reg.skip_one (i := 22) rfl (by kernel_rfl) (by rfl) (by assumption) ?_
       try simp only [zp0, zp1, zp2, zp3, zp4]
       refine tk 23 rfl ?_
       try simp only [zp0, zp1, zp2, zp3, zp4]
       refine tk 24 rfl ?_
       try simp only [zp0, zp1, zp2, zp3, zp4]
       refine wpAnyH_done (by kernel_rfl) ?_ _
       obtain ⟨f0, f1, f2, f3, f4, f5, f6⟩ := HK.out _ S5.out.old
       obtain ⟨f7, f8, f9, f10, f11, f12, f13⟩ := HK2.out _ S5.out.old
       have HY := Lib.hid (show be = true from by rw [← HB.out]; exact any_yes HC.out (any_yes HC2.out (by rw [HCO.out, hs]; rfl)))
       go_wp2_with fail
       go_ret
       exact ⟨by rw [HY.out] <;> rfl, S5.out.old⟩
      | false =>
       cases bw2 with
       | true =>
        go_upto_region 7 with fail
        clear f0 f1 f2 f3 f4 f5 f6 f7 f8 f9 f10 f11 f12 f13
        refine wp_region_held_drew (S := (fun w' => (w'.cell? (oad.add (k * 7)) = some (.int .i64 kd) ∧ w'.cell? (⟨(oad.add (k * 7)).block, (oad.add (k * 7)).off + 1, none⟩) = some (.string st) ∧ w'.cell? (⟨(oad.add (k * 7)).block, (oad.add (k * 7)).off + 2, none⟩) = some (.int .i64 kk) ∧ w'.cell? (⟨(oad.add (k * 7)).block, (oad.add (k * 7)).off + 3, none⟩) = some (.int .i64 kn) ∧ w'.cell? (⟨(oad.add (k * 7)).block, (oad.add (k * 7)).off + 4, none⟩) = some (.string kt) ∧ w'.cell? (⟨(oad.add (k * 7)).block, (oad.add (k * 7)).off + 5, none⟩) = some (.slice ra rl.length rc) ∧ w'.cell? (⟨(oad.add (k * 7)).block, (oad.add (k * 7)).off + 6, none⟩) = some (.string fd)) ∧ (w'.cell? (oad2.add (m * 7)) = some (.int .i64 kd2) ∧ w'.cell? (⟨(oad2.add (m * 7)).block, (oad2.add (m * 7)).off + 1, none⟩) = some (.string st2) ∧ w'.cell? (⟨(oad2.add (m * 7)).block, (oad2.add (m * 7)).off + 2, none⟩) = some (.int .i64 kk2) ∧ w'.cell? (⟨(oad2.add (m * 7)).block, (oad2.add (m * 7)).off + 3, none⟩) = some (.int .i64 kn2) ∧ w'.cell? (⟨(oad2.add (m * 7)).block, (oad2.add (m * 7)).off + 4, none⟩) = some (.string kt2) ∧ w'.cell? (⟨(oad2.add (m * 7)).block, (oad2.add (m * 7)).off + 5, none⟩) = some (.slice ra2 rl2.length rc2) ∧ w'.cell? (⟨(oad2.add (m * 7)).block, (oad2.add (m * 7)).off + 6, none⟩) = some (.string fd2)))) (by kernel_rfl) ⟨HK.out _ (Bag.drew1 S3.out).old, HK2.out _ (Bag.drew1 S3.out).old⟩ (fun hS => ?_)
        have S4 := Lib.hid (Bag.drew1 S3.out)
        clear S3
        generalize World.drew _ = w1 at hS S4 ⊢
        refine tk 0 rfl ?_
        try simp only [zp0, zp1, zp2, zp3, zp4]
        refine tk 1 rfl ?_
        try simp only [zp0, zp1, zp2, zp3, zp4]
        refine tk 2 rfl ?_
        try simp only [zp0, zp1, zp2, zp3, zp4]
        refine tk 3 rfl ?_
        try simp only [zp0, zp1, zp2, zp3, zp4]
        refine tk 4 rfl ?_
        try simp only [zp0, zp1, zp2, zp3, zp4]
        refine tk 5 rfl ?_
        try simp only [zp0, zp1, zp2, zp3, zp4]
        refine tk 6 rfl ?_
        try simp only [zp0, zp1, zp2, zp3, zp4]
        refine tk 7 rfl ?_
        try simp only [zp0, zp1, zp2, zp3, zp4]
        refine tk 8 rfl ?_
        try simp only [zp0, zp1, zp2, zp3, zp4]
        refine tk 9 rfl ?_
        try simp only [zp0, zp1, zp2, zp3, zp4]
        refine tk 10 rfl ?_
        try simp only [zp0, zp1, zp2, zp3, zp4]
        refine tk 11 rfl ?_
        try simp only [zp0, zp1, zp2, zp3, zp4]
        refine tk 12 rfl ?_
        try simp only [zp0, zp1, zp2, zp3, zp4]
        refine tk 13 rfl ?_
        try simp only [zp0, zp1, zp2, zp3, zp4]
        refine tk 14 rfl ?_
        try simp only [zp0, zp1, zp2, zp3, zp4]
        refine tk 15 rfl ?_
        try simp only [zp0, zp1, zp2, zp3, zp4]
        refine Reg.one_op (i := 16) rfl (by kernel_rfl) (fun K hK => ?_)
        go_simp
        go_at_call 121
        refine (HIW.out _ S4.out.old).mono ?_
        rintro e w2 ⟨rfl, hb⟩
        have S5 := Lib.hid (S4.out.keep hb)
        clear S4
        clear hb
        go_wp2_with fail
        refine hK.out _ _ ⟨HK.out _ S5.out.old, HK2.out _ S5.out.old⟩ (fun hS => ?_)
        clear hK K
        try simp only [zp0, zp1, zp2, zp3, zp4]
        refine tk 17 rfl ?_
        try simp only [zp0, zp1, zp2, zp3, zp4]
        refine tk 18 rfl ?_
        try simp only [zp0, zp1, zp2, zp3, zp4]
        refine tk 19 rfl ?_
        try simp only [zp0, zp1, zp2, zp3, zp4]
        refine tk 20 rfl ?_
        try simp only [zp0, zp1, zp2, zp3, zp4]
        refine tk 21 rfl ?_
        try simp only [zp0, zp1, zp2, zp3, zp4]
        refine Reg.one_op (i := 22) rfl (by kernel_rfl) (fun K hK => ?_)
        go_simp
        go_at_call 121
        refine (HIW2.out _ S5.out.old).mono ?_
        rintro e w3 ⟨rfl, hb⟩
        have S6 := Lib.hid (S5.out.keep hb)
        clear S5
        clear hb
        go_wp2_with fail
        refine hK.out _ _ ⟨HK.out _ S6.out.old, HK2.out _ S6.out.old⟩ (fun hS => ?_)
        clear hK K
        try simp only [zp0, zp1, zp2, zp3, zp4]
        refine tk 23 rfl ?_
        try simp only [zp0, zp1, zp2, zp3, zp4]
        refine tk 24 rfl ?_
        try simp only [zp0, zp1, zp2, zp3, zp4]
        refine wpAnyH_done (by kernel_rfl) ?_ _
        obtain ⟨f0, f1, f2, f3, f4, f5, f6⟩ := HK.out _ S6.out.old
        obtain ⟨f7, f8, f9, f10, f11, f12, f13⟩ := HK2.out _ S6.out.old
        have HY := Lib.hid (show be = true from by rw [← HB.out]; exact any_yes HC.out (any_yes HC2.out (by rw [HCO.out, hs]; rfl)))
        go_wp2_with fail
        go_ret
        exact ⟨by rw [HY.out] <;> rfl, S6.out.old⟩
       | false =>
        go_upto_region 7 with fail
        clear f0 f1 f2 f3 f4 f5 f6 f7 f8 f9 f10 f11 f12 f13
        refine wp_region_held_drew (S := (fun w' => (w'.cell? (oad.add (k * 7)) = some (.int .i64 kd) ∧ w'.cell? (⟨(oad.add (k * 7)).block, (oad.add (k * 7)).off + 1, none⟩) = some (.string st) ∧ w'.cell? (⟨(oad.add (k * 7)).block, (oad.add (k * 7)).off + 2, none⟩) = some (.int .i64 kk) ∧ w'.cell? (⟨(oad.add (k * 7)).block, (oad.add (k * 7)).off + 3, none⟩) = some (.int .i64 kn) ∧ w'.cell? (⟨(oad.add (k * 7)).block, (oad.add (k * 7)).off + 4, none⟩) = some (.string kt) ∧ w'.cell? (⟨(oad.add (k * 7)).block, (oad.add (k * 7)).off + 5, none⟩) = some (.slice ra rl.length rc) ∧ w'.cell? (⟨(oad.add (k * 7)).block, (oad.add (k * 7)).off + 6, none⟩) = some (.string fd)) ∧ (w'.cell? (oad2.add (m * 7)) = some (.int .i64 kd2) ∧ w'.cell? (⟨(oad2.add (m * 7)).block, (oad2.add (m * 7)).off + 1, none⟩) = some (.string st2) ∧ w'.cell? (⟨(oad2.add (m * 7)).block, (oad2.add (m * 7)).off + 2, none⟩) = some (.int .i64 kk2) ∧ w'.cell? (⟨(oad2.add (m * 7)).block, (oad2.add (m * 7)).off + 3, none⟩) = some (.int .i64 kn2) ∧ w'.cell? (⟨(oad2.add (m * 7)).block, (oad2.add (m * 7)).off + 4, none⟩) = some (.string kt2) ∧ w'.cell? (⟨(oad2.add (m * 7)).block, (oad2.add (m * 7)).off + 5, none⟩) = some (.slice ra2 rl2.length rc2) ∧ w'.cell? (⟨(oad2.add (m * 7)).block, (oad2.add (m * 7)).off + 6, none⟩) = some (.string fd2)))) (by kernel_rfl) ⟨HK.out _ (Bag.drew1 S3.out).old, HK2.out _ (Bag.drew1 S3.out).old⟩ (fun hS => ?_)
        have S4 := Lib.hid (Bag.drew1 S3.out)
        clear S3
        generalize World.drew _ = w1 at hS S4 ⊢
        refine tk 0 rfl ?_
        try simp only [zp0, zp1, zp2, zp3, zp4]
        refine tk 1 rfl ?_
        try simp only [zp0, zp1, zp2, zp3, zp4]
        refine tk 2 rfl ?_
        try simp only [zp0, zp1, zp2, zp3, zp4]
        refine tk 3 rfl ?_
        try simp only [zp0, zp1, zp2, zp3, zp4]
        refine tk 4 rfl ?_
        try simp only [zp0, zp1, zp2, zp3, zp4]
        refine tk 5 rfl ?_
        try simp only [zp0, zp1, zp2, zp3, zp4]
        refine tk 6 rfl ?_
        try simp only [zp0, zp1, zp2, zp3, zp4]
        refine tk 7 rfl ?_
        try simp only [zp0, zp1, zp2, zp3, zp4]
        refine tk 8 rfl ?_
        try simp only [zp0, zp1, zp2, zp3, zp4]
        refine tk 9 rfl ?_
        try simp only [zp0, zp1, zp2, zp3, zp4]
        refine tk 10 rfl ?_
        try simp only [zp0, zp1, zp2, zp3, zp4]
        refine tk 11 rfl ?_
        try simp only [zp0, zp1, zp2, zp3, zp4]
        refine tk 12 rfl ?_
        try simp only [zp0, zp1, zp2, zp3, zp4]
        refine tk 13 rfl ?_
        try simp only [zp0, zp1, zp2, zp3, zp4]
        refine tk 14 rfl ?_
        try simp only [zp0, zp1, zp2, zp3, zp4]
        refine tk 15 rfl ?_
        try simp only [zp0, zp1, zp2, zp3, zp4]
        refine Reg.one_op (i := 16) rfl (by kernel_rfl) (fun K hK => ?_)
        go_simp
        go_at_call 121
        refine (HIW.out _ S4.out.old).mono ?_
        rintro e w2 ⟨rfl, hb⟩
        have S5 := Lib.hid (S4.out.keep hb)
        clear S4
        clear hb
        go_wp2_with fail
        refine hK.out _ _ ⟨HK.out _ S5.out.old, HK2.out _ S5.out.old⟩ (fun hS => ?_)
        clear hK K
        try simp only [zp0, zp1, zp2, zp3, zp4]
        refine tk 17 rfl ?_
        try simp only [zp0, zp1, zp2, zp3, zp4]
        refine tk 18 rfl ?_
        try simp only [zp0, zp1, zp2, zp3, zp4]
        refine tk 19 rfl ?_
        try simp only [zp0, zp1, zp2, zp3, zp4]
        refine tk 20 rfl ?_
        try simp only [zp0, zp1, zp2, zp3, zp4]
        refine tk 21 rfl ?_
        try simp only [zp0, zp1, zp2, zp3, zp4]
        refine Reg.one_op (i := 22) rfl (by kernel_rfl) (fun K hK => ?_)
        go_simp
        go_at_call 121
        refine (HIW2.out _ S5.out.old).mono ?_
        rintro e w3 ⟨rfl, hb⟩
        have S6 := Lib.hid (S5.out.keep hb)
        clear S5
        clear hb
        go_wp2_with fail
        refine hK.out _ _ ⟨HK.out _ S6.out.old, HK2.out _ S6.out.old⟩ (fun hS => ?_)
        clear hK K
        try simp only [zp0, zp1, zp2, zp3, zp4]
        refine tk 23 rfl ?_
        try simp only [zp0, zp1, zp2, zp3, zp4]
        refine tk 24 rfl ?_
        try simp only [zp0, zp1, zp2, zp3, zp4]
        refine wpAnyH_done (by kernel_rfl) ?_ _
        obtain ⟨f0, f1, f2, f3, f4, f5, f6⟩ := HK.out _ S6.out.old
        obtain ⟨f7, f8, f9, f10, f11, f12, f13⟩ := HK2.out _ S6.out.old
        have HN0 := Lib.hid (show confO (⟨kd, st, ⟨kk, kn, kt⟩, rl, fd⟩ : X_Op) (⟨kd2, st2, ⟨kk2, kn2, kt2⟩, rl2, fd2⟩ : X_Op) = false from by rw [HCO.out, hs]; rfl)
        go_wp2_with fail
        go_roundw
        case rel => exact ⟨m + 1, by omega, by go_num, And.intro (fun j h1 h => by
         by_cases e : j < m
         ·
          exact HA2.out j h1 e
         ·
          obtain rfl : j = m := by omega
          rw [val_of HC2.out]; exact HN0.out) S6.out⟩
        case measure => simp [intOf]; omega
    ·
     skip
     obtain ⟨f0, f1, f2, f3, f4, f5, f6⟩ := HK.out _ S3.out.old
     go_wp2_with fail
     go_roundw
     case rel => exact ⟨k + 1, by omega, by go_num, And.intro (fun j h1 h => by
      by_cases e : j < k
      ·
       exact HA.out j h1 e
      ·
       obtain rfl : j = k := by omega
       rw [val_of HC.out]; exact any_no (fun j2 h2 => HA2.out j2 h2 (by rw [HSL.out.2] at h2; omega))) S3.out⟩
     case measure => simp [intOf]; omega
  ·
   skip
   have HNO := Lib.hid (show be = false from by rw [← HB.out]; exact any_no (fun j h1 => HA.out j h1 (by rw [HSL.out.1] at h1; omega)))
   go_wp2_with fail
   go_ret
   exact ⟨by rw [HNO.out] <;> rfl, S2.out.old⟩
set_option maxHeartbeats 8000000 in
theorem specCanStart_any (a : Option Addr) (c : Nat) (ts : List Y_Tx) (hl : ts.length ≤ 1048576) (hf : ∀ t ∈ coS_Tx ts, FitT t) (i : Int) (w : World) (hr : Reads w w.heap.size a (ts.flatMap cl_Tx)) (hx : RowsRd w w.heap.size (rws_Tx ts)) :
  Calls Tryz.prog 51 #[.agg #[.slice a ts.length c], .int .i64 i] w fun e w' => e = .returned (.bool (csQ (coS_Tx ts) i)) ∧ Below w.heap.size w w' := by
 have HR := Lib.hid (fun w' (h : Below w.heap.size w w') => hr.below h)
 have HX := Lib.hid (fun w' (h : Below w.heap.size w w') => (hx.below h).more h.size)
 have HF := Lib.hid hf
 obtain ⟨N, hN⟩ : ∃ n, n = ts.length := ⟨_, rfl⟩
 rw [← hN] at hl ⊢
 have hl' : (N : Int) ≤ 1048576 := by omega
 have HN := Lib.hid hN
 clear hN hr hx hf
 obtain ⟨be, hbe⟩ : ∃ b, csQ (coS_Tx ts) i = b := ⟨_, rfl⟩
 rw [hbe]
 have HB := Lib.hid hbe
 clear hbe
 have HSL := Lib.hid (show (coS_Tx ts).length = N from by rw [coT_len, HN.out])
 have hw1 : IntKind.i64.wrap ((N : Int) - 1) = (N : Int) - 1 := IntWalk.i64_in _ ⟨by omega, by omega⟩
 obtain ⟨bi, hbi⟩ : ∃ b, L1.inB i 0 ((N : Int) - 1) = b := ⟨_, rfl⟩
 have HIN := fun w => L1.l1In_any i 0 ((N : Int) - 1) w
 rw [hbi] at HIN
 replace HIN := Lib.hid HIN
 have HBI := Lib.hid hbi
 clear hbi
 have S1 := Lib.hid (show Sl.Sep w _ [_] from L4.push_box (Sl.Sep.start w) 56 #[.slice a N c] (w.heap.size) (by simp))
 obtain ⟨wa, hwa⟩ : ∃ w_, w_ = (w.alloc (.cells #[.slice a N c] 56)) := ⟨_, rfl⟩
 rw [← hwa] at S1
 go_enter Tryz.func51, Tryz.ntmps51
 go_upto_region 1 with fail
 rw [← hwa]
 clear hwa
 have f0 := Bag.cs1 S1.out 0 rfl
 cases bi with
 | false =>
  go_wp2_with fail
  go_at_call 65
  refine (HIN.out _).mono ?_
  rintro e w1 ⟨rfl, rfl⟩
  have HV := Lib.hid (show be = false from by rw [← HB.out]; exact csQ_out (by rw [HSL.out]; exact HBI.out))
  go_wp2_with fail
  go_ret
  exact ⟨by rw [HV.out] <;> rfl, S1.out.old⟩
 | true =>
  obtain ⟨k0, hk0⟩ : ∃ n : Nat, i = (n : Int) := ⟨i.toNat, by have h := L1.inB_true.1 HBI.out; omega⟩
  subst hk0
  have hkl : k0 < ts.length := by have h := L1.inB_true.1 HBI.out; have := HN.out; omega
  have hkN : (k0 : Int) < (N : Int) := by have := HN.out; omega
  clear f0
  obtain ⟨t, ht⟩ : ∃ x, ts[k0]? = some x := ⟨_, List.getElem?_eq_getElem hkl⟩
  obtain ⟨tad, e'⟩ := el_some cl_Tx_len (by decide) (HR.out _ S1.out.old) hkl
  subst e'
  have HKt := Lib.hid (fun w' (h : Below w.heap.size w w') => el5 cl_Tx_len (HR.out _ h) ht rfl)
  have HRt := Lib.hid (fun w' (h : Below w.heap.size w w') => rdTs (HX.out w' h) ht)
  have HCt := Lib.hid (coT_at ht)
  have HFt := Lib.hid (HF.out _ (List.mem_of_getElem? HCt.out))
  clear ht
  have f0 := Bag.cs1 S1.out 0 rfl
  obtain ⟨f1, f2, f3, f4, f5⟩ := HKt.out _ S1.out.old
  cases hst : t.f_State == 0 with
  | false =>
   have hst2 : (t.f_State != 0) = true := by rw [bne, hst]; rfl
   go_wp2_with fail
   go_at_call 65
   refine (HIN.out _).mono ?_
   rintro e w1 ⟨rfl, rfl⟩
   have HV := Lib.hid (show be = false from by rw [← HB.out]; exact csQ_state HCt.out hst)
   go_wp2_with fail
   go_ret
   exact ⟨by rw [HV.out] <;> rfl, S1.out.old⟩
  | true =>
   have hst2 : (t.f_State != 0) = false := by rw [bne, hst]; rfl
   have HST := Lib.hid hst
   go_wp2_with fail
   go_at_call 65
   refine (HIN.out _).mono ?_
   rintro e w1 ⟨rfl, rfl⟩
   go_wp2_with fail
   clear f0 f1 f2 f3 f4 f5
   clear hst hst2
   go_loopw [5] (fun v wr => ∃ k : Nat, k ≤ k0 ∧ v = .int .i64 k ∧ Hid ((∀ j (h1 : j < (coS_Tx ts).length), j < k → holdsBack (coS_Tx ts)[j] (co_Tx t) = false) ∧ Sl.Sep w wr [L4.boxR w.heap.size 56 #[.slice (some tad) N c]])) (fun v _ => k0 - (intOf v).toNat)
   case atStart => exact ⟨0, Nat.zero_le _, rfl, And.intro (fun j h1 h => absurd h (by omega)) S1.out⟩
   case round =>
    obtain ⟨k, hk, rfl, hrel⟩ := hrel
    have HA := Lib.hid hrel.out.1
    have S90 := Lib.hid hrel.out.2
    clear hrel S1
    by_cases hlt : (k : Int) < (k0 : Int)
    ·
     skip
     have hkl2 : k < ts.length := by omega
     have hkN2 : (k : Int) < (N : Int) := by omega
     obtain ⟨u, hu⟩ : ∃ x, ts[k]? = some x := ⟨_, List.getElem?_eq_getElem hkl2⟩
     have HKu := Lib.hid (fun w' (h : Below w.heap.size w w') => el5 cl_Tx_len (HR.out _ h) hu rfl)
     have HRu := Lib.hid (fun w' (h : Below w.heap.size w w') => rdTs (HX.out w' h) hu)
     have HCu := Lib.hid (coT_at hu)
     have HFu := Lib.hid (HF.out _ (List.mem_of_getElem? HCu.out))
     clear hu
     obtain ⟨bl, hbl⟩ : ∃ b, live u.f_State = b := ⟨_, rfl⟩
     have HIL := fun w => L1.l1In_any u.f_State 0 1 w
     rw [show L1.inB u.f_State 0 1 = bl from hbl ▸ live_eq _] at HIL
     replace HIL := Lib.hid HIL
     obtain ⟨bc, hbc⟩ : ∃ b, conf (coS_Op u.f_Ops) (coS_Op t.f_Ops) = b := ⟨_, rfl⟩
     have HCF := fun w' (h : Below w.heap.size w w') => specConflicts_any u.f_Ops_a u.f_Ops_c u.f_Ops (by have h := HFu.out.len; rwa [show (co_Tx u).f_Ops = coS_Op u.f_Ops from rfl, coS_len] at h) HFu.out.ops t.f_Ops_a t.f_Ops_c t.f_Ops (by have h := HFt.out.len; rwa [show (co_Tx t).f_Ops = coS_Op t.f_Ops from rfl, coS_len] at h) HFt.out.ops w' (rdTo (HRu.out w' h)) (rdTox (HRu.out w' h)) (rdTo (HRt.out w' h)) (rdTox (HRt.out w' h))
     rw [hbc] at HCF
     replace HCF := Lib.hid HCF
     have HHB := Lib.hid (show holdsBack (co_Tx u) (co_Tx t) = (bl && bc) from by rw [← hbl, ← hbc]; rfl)
     clear hbl hbc
     have f0 := Bag.cs1 S90.out 0 rfl
     obtain ⟨f1, f2, f3, f4, f5⟩ := HKt.out _ S90.out.old
     obtain ⟨f6, f7, f8, f9, f10⟩ := HKu.out _ S90.out.old
     cases bl with
     | false =>
      go_upto_region 6 with fail
      clear f0 f1 f2 f3 f4 f5 f6 f7 f8 f9 f10
      refine wp_region_held_drew (S := (fun w' => (w'.cell? ⟨w.heap.size, 0, none⟩ = some (.slice (some tad) N c)) ∧ (w'.cell? (tad.add (k0 * 5)) = some (.int .i64 t.f_Id) ∧ w'.cell? (⟨(tad.add (k0 * 5)).block, (tad.add (k0 * 5)).off + 1, none⟩) = some (.slice t.f_Ops_a t.f_Ops.length t.f_Ops_c) ∧ w'.cell? (⟨(tad.add (k0 * 5)).block, (tad.add (k0 * 5)).off + 2, none⟩) = some (.int .i64 t.f_At) ∧ w'.cell? (⟨(tad.add (k0 * 5)).block, (tad.add (k0 * 5)).off + 3, none⟩) = some (.int .i64 t.f_State) ∧ w'.cell? (⟨(tad.add (k0 * 5)).block, (tad.add (k0 * 5)).off + 4, none⟩) = some (.slice t.f_Backup_a t.f_Backup.length t.f_Backup_c)) ∧ (w'.cell? (tad.add (k * 5)) = some (.int .i64 u.f_Id) ∧ w'.cell? (⟨(tad.add (k * 5)).block, (tad.add (k * 5)).off + 1, none⟩) = some (.slice u.f_Ops_a u.f_Ops.length u.f_Ops_c) ∧ w'.cell? (⟨(tad.add (k * 5)).block, (tad.add (k * 5)).off + 2, none⟩) = some (.int .i64 u.f_At) ∧ w'.cell? (⟨(tad.add (k * 5)).block, (tad.add (k * 5)).off + 3, none⟩) = some (.int .i64 u.f_State) ∧ w'.cell? (⟨(tad.add (k * 5)).block, (tad.add (k * 5)).off + 4, none⟩) = some (.slice u.f_Backup_a u.f_Backup.length u.f_Backup_c)))) (by kernel_rfl) ⟨Bag.cs1 (Bag.drew1 S90.out) 0 rfl, HKt.out _ (Bag.drew1 S90.out).old, HKu.out _ (Bag.drew1 S90.out).old⟩ (fun hS => ?_)
      have S91 := Lib.hid (Bag.drew1 S90.out)
      clear S90
      generalize World.drew _ = w2 at hS S91 ⊢
      refine tk 0 rfl ?_
      try simp only [zp0, zp1, zp2, zp3, zp4]
      refine tk 1 rfl ?_
      try simp only [zp0, zp1, zp2, zp3, zp4]
      refine tk 2 rfl ?_
      try simp only [zp0, zp1, zp2, zp3, zp4]
      refine tk 3 rfl ?_
      try simp only [zp0, zp1, zp2, zp3, zp4]
      refine tk 4 rfl ?_
      try simp only [zp0, zp1, zp2, zp3, zp4]
      refine tk 5 rfl ?_
      try simp only [zp0, zp1, zp2, zp3, zp4]
      refine Reg.one_op (i := 6) rfl (by kernel_rfl) (fun K hK => ?_)
      go_simp
      go_at_call 65
      refine (HIL.out _).mono ?_
      rintro e w3 ⟨rfl, rfl⟩
      go_wp2_with fail
      refine hK.out _ _ ⟨Bag.cs1 S91.out 0 rfl, HKt.out _ S91.out.old, HKu.out _ S91.out.old⟩ (fun hS => ?_)
      clear hK K
      try simp only [zp0, zp1, zp2, zp3, zp4]
      refine tk 7 rfl ?_
      try simp only [zp0, zp1, zp2, zp3, zp4]
      refine sk 8 rfl ?_
      try simp only [zp0, zp1, zp2, zp3, zp4]
      refine sk 9 rfl ?_
      try simp only [zp0, zp1, zp2, zp3, zp4]
      refine sk 10 rfl ?_
      try simp only [zp0, zp1, zp2, zp3, zp4]
      refine sk 11 rfl ?_
      try simp only [zp0, zp1, zp2, zp3, zp4]
      refine sk 12 rfl ?_
      try simp only [zp0, zp1, zp2, zp3, zp4]
      refine sk 13 rfl ?_
      try simp only [zp0, zp1, zp2, zp3, zp4]
      refine sk 14 rfl ?_
      try simp only [zp0, zp1, zp2, zp3, zp4]
      refine sk 15 rfl ?_
      try simp only [zp0, zp1, zp2, zp3, zp4]
      refine sk 16 rfl ?_
      try simp only [zp0, zp1, zp2, zp3, zp4]
      refine sk 17 rfl ?_
      try simp only [zp0, zp1, zp2, zp3, zp4]
      refine sk 18 rfl ?_
      try simp only [zp0, zp1, zp2, zp3, zp4]
      refine sk 19 rfl ?_
      try simp only [zp0, zp1, zp2, zp3, zp4]
      refine Reg.skip_one (i := 20) rfl (by kernel_rfl) (by rfl) (by assumption) ?_
      try simp only [zp0, zp1, zp2, zp3, zp4]
      refine tk 21 rfl ?_
      try simp only [zp0, zp1, zp2, zp3, zp4]
      refine wpAnyH_done (by kernel_rfl) ?_ _
      have f0 := Bag.cs1 S91.out 0 rfl
      obtain ⟨f1, f2, f3, f4, f5⟩ := HKt.out _ S91.out.old
      obtain ⟨f6, f7, f8, f9, f10⟩ := HKu.out _ S91.out.old
      go_wp2_with fail
      go_roundw
      case rel => exact ⟨k + 1, by omega, by go_num, And.intro (fun j h1 h => by
       by_cases e : j < k
       ·
        exact HA.out j h1 e
       ·
        obtain rfl : j = k := by omega
        rw [val_of HCu.out, HHB.out]; rfl) S91.out⟩
      case measure => simp [intOf]; omega
     | true =>
      cases bc with
      | false =>
       go_upto_region 6 with fail
       clear f0 f1 f2 f3 f4 f5 f6 f7 f8 f9 f10
       refine wp_region_held_drew (S := (fun w' => (w'.cell? ⟨w.heap.size, 0, none⟩ = some (.slice (some tad) N c)) ∧ (w'.cell? (tad.add (k0 * 5)) = some (.int .i64 t.f_Id) ∧ w'.cell? (⟨(tad.add (k0 * 5)).block, (tad.add (k0 * 5)).off + 1, none⟩) = some (.slice t.f_Ops_a t.f_Ops.length t.f_Ops_c) ∧ w'.cell? (⟨(tad.add (k0 * 5)).block, (tad.add (k0 * 5)).off + 2, none⟩) = some (.int .i64 t.f_At) ∧ w'.cell? (⟨(tad.add (k0 * 5)).block, (tad.add (k0 * 5)).off + 3, none⟩) = some (.int .i64 t.f_State) ∧ w'.cell? (⟨(tad.add (k0 * 5)).block, (tad.add (k0 * 5)).off + 4, none⟩) = some (.slice t.f_Backup_a t.f_Backup.length t.f_Backup_c)) ∧ (w'.cell? (tad.add (k * 5)) = some (.int .i64 u.f_Id) ∧ w'.cell? (⟨(tad.add (k * 5)).block, (tad.add (k * 5)).off + 1, none⟩) = some (.slice u.f_Ops_a u.f_Ops.length u.f_Ops_c) ∧ w'.cell? (⟨(tad.add (k * 5)).block, (tad.add (k * 5)).off + 2, none⟩) = some (.int .i64 u.f_At) ∧ w'.cell? (⟨(tad.add (k * 5)).block, (tad.add (k * 5)).off + 3, none⟩) = some (.int .i64 u.f_State) ∧ w'.cell? (⟨(tad.add (k * 5)).block, (tad.add (k * 5)).off + 4, none⟩) = some (.slice u.f_Backup_a u.f_Backup.length u.f_Backup_c)))) (by kernel_rfl) ⟨Bag.cs1 (Bag.drew1 S90.out) 0 rfl, HKt.out _ (Bag.drew1 S90.out).old, HKu.out _ (Bag.drew1 S90.out).old⟩ (fun hS => ?_)
       have S91 := Lib.hid (Bag.drew1 S90.out)
       clear S90
       generalize World.drew _ = w2 at hS S91 ⊢
       refine tk 0 rfl ?_
       try simp only [zp0, zp1, zp2, zp3, zp4]
       refine tk 1 rfl ?_
       try simp only [zp0, zp1, zp2, zp3, zp4]
       refine tk 2 rfl ?_
       try simp only [zp0, zp1, zp2, zp3, zp4]
       refine tk 3 rfl ?_
       try simp only [zp0, zp1, zp2, zp3, zp4]
       refine tk 4 rfl ?_
       try simp only [zp0, zp1, zp2, zp3, zp4]
       refine tk 5 rfl ?_
       try simp only [zp0, zp1, zp2, zp3, zp4]
       refine Reg.one_op (i := 6) rfl (by kernel_rfl) (fun K hK => ?_)
       go_simp
       go_at_call 65
       refine (HIL.out _).mono ?_
       rintro e w3 ⟨rfl, rfl⟩
       go_wp2_with fail
       refine hK.out _ _ ⟨Bag.cs1 S91.out 0 rfl, HKt.out _ S91.out.old, HKu.out _ S91.out.old⟩ (fun hS => ?_)
       clear hK K
       try simp only [zp0, zp1, zp2, zp3, zp4]
       refine tk 7 rfl ?_
       try simp only [zp0, zp1, zp2, zp3, zp4]
       refine tk 8 rfl ?_
       try simp only [zp0, zp1, zp2, zp3, zp4]
       refine tk 9 rfl ?_
       try simp only [zp0, zp1, zp2, zp3, zp4]
       refine tk 10 rfl ?_
       try simp only [zp0, zp1, zp2, zp3, zp4]
       refine tk 11 rfl ?_
       try simp only [zp0, zp1, zp2, zp3, zp4]
       refine tk 12 rfl ?_
       try simp only [zp0, zp1, zp2, zp3, zp4]
       refine tk 13 rfl ?_
       try simp only [zp0, zp1, zp2, zp3, zp4]
       refine tk 14 rfl ?_
       try simp only [zp0, zp1, zp2, zp3, zp4]
       refine tk 15 rfl ?_
       try simp only [zp0, zp1, zp2, zp3, zp4]
       refine tk 16 rfl ?_
       try simp only [zp0, zp1, zp2, zp3, zp4]
       refine tk 17 rfl ?_
       try simp only [zp0, zp1, zp2, zp3, zp4]
       refine tk 18 rfl ?_
       try simp only [zp0, zp1, zp2, zp3, zp4]
       refine tk 19 rfl ?_
       try simp only [zp0, zp1, zp2, zp3, zp4]
       refine Reg.one_op (i := 20) rfl (by kernel_rfl) (fun K hK => ?_)
       go_simp
       go_at_call 83
       refine (HCF.out _ S91.out.old).mono ?_
       rintro e w4 ⟨rfl, hb⟩
       have S92 := Lib.hid (S91.out.keep hb)
       clear S91
       clear hb
       go_wp2_with fail
       refine hK.out _ _ ⟨Bag.cs1 S92.out 0 rfl, HKt.out _ S92.out.old, HKu.out _ S92.out.old⟩ (fun hS => ?_)
       clear hK K
       try simp only [zp0, zp1, zp2, zp3, zp4]
       refine tk 21 rfl ?_
       try simp only [zp0, zp1, zp2, zp3, zp4]
       refine wpAnyH_done (by kernel_rfl) ?_ _
       have f0 := Bag.cs1 S92.out 0 rfl
       obtain ⟨f1, f2, f3, f4, f5⟩ := HKt.out _ S92.out.old
       obtain ⟨f6, f7, f8, f9, f10⟩ := HKu.out _ S92.out.old
       go_wp2_with fail
       go_roundw
       case rel => exact ⟨k + 1, by omega, by go_num, And.intro (fun j h1 h => by
        by_cases e : j < k
        ·
         exact HA.out j h1 e
        ·
         obtain rfl : j = k := by omega
         rw [val_of HCu.out, HHB.out]; rfl) S92.out⟩
       case measure => simp [intOf]; omega
      | true =>
       go_upto_region 6 with fail
       clear f0 f1 f2 f3 f4 f5 f6 f7 f8 f9 f10
       refine wp_region_held_drew (S := (fun w' => (w'.cell? ⟨w.heap.size, 0, none⟩ = some (.slice (some tad) N c)) ∧ (w'.cell? (tad.add (k0 * 5)) = some (.int .i64 t.f_Id) ∧ w'.cell? (⟨(tad.add (k0 * 5)).block, (tad.add (k0 * 5)).off + 1, none⟩) = some (.slice t.f_Ops_a t.f_Ops.length t.f_Ops_c) ∧ w'.cell? (⟨(tad.add (k0 * 5)).block, (tad.add (k0 * 5)).off + 2, none⟩) = some (.int .i64 t.f_At) ∧ w'.cell? (⟨(tad.add (k0 * 5)).block, (tad.add (k0 * 5)).off + 3, none⟩) = some (.int .i64 t.f_State) ∧ w'.cell? (⟨(tad.add (k0 * 5)).block, (tad.add (k0 * 5)).off + 4, none⟩) = some (.slice t.f_Backup_a t.f_Backup.length t.f_Backup_c)) ∧ (w'.cell? (tad.add (k * 5)) = some (.int .i64 u.f_Id) ∧ w'.cell? (⟨(tad.add (k * 5)).block, (tad.add (k * 5)).off + 1, none⟩) = some (.slice u.f_Ops_a u.f_Ops.length u.f_Ops_c) ∧ w'.cell? (⟨(tad.add (k * 5)).block, (tad.add (k * 5)).off + 2, none⟩) = some (.int .i64 u.f_At) ∧ w'.cell? (⟨(tad.add (k * 5)).block, (tad.add (k * 5)).off + 3, none⟩) = some (.int .i64 u.f_State) ∧ w'.cell? (⟨(tad.add (k * 5)).block, (tad.add (k * 5)).off + 4, none⟩) = some (.slice u.f_Backup_a u.f_Backup.length u.f_Backup_c)))) (by kernel_rfl) ⟨Bag.cs1 (Bag.drew1 S90.out) 0 rfl, HKt.out _ (Bag.drew1 S90.out).old, HKu.out _ (Bag.drew1 S90.out).old⟩ (fun hS => ?_)
       have S91 := Lib.hid (Bag.drew1 S90.out)
       clear S90
       generalize World.drew _ = w2 at hS S91 ⊢
       refine tk 0 rfl ?_
       try simp only [zp0, zp1, zp2, zp3, zp4]
       refine tk 1 rfl ?_
       try simp only [zp0, zp1, zp2, zp3, zp4]
       refine tk 2 rfl ?_
       try simp only [zp0, zp1, zp2, zp3, zp4]
       refine tk 3 rfl ?_
       try simp only [zp0, zp1, zp2, zp3, zp4]
       refine tk 4 rfl ?_
       try simp only [zp0, zp1, zp2, zp3, zp4]
       refine tk 5 rfl ?_
       try simp only [zp0, zp1, zp2, zp3, zp4]
       refine Reg.one_op (i := 6) rfl (by kernel_rfl) (fun K hK => ?_)
       go_simp
       go_at_call 65
       refine (HIL.out _).mono ?_
       rintro e w3 ⟨rfl, rfl⟩
       go_wp2_with fail
       refine hK.out _ _ ⟨Bag.cs1 S91.out 0 rfl, HKt.out _ S91.out.old, HKu.out _ S91.out.old⟩ (fun hS => ?_)
       clear hK K
       try simp only [zp0, zp1, zp2, zp3, zp4]
       refine tk 7 rfl ?_
       try simp only [zp0, zp1, zp2, zp3, zp4]
       refine tk 8 rfl ?_
       try simp only [zp0, zp1, zp2, zp3, zp4]
       refine tk 9 rfl ?_
       try simp only [zp0, zp1, zp2, zp3, zp4]
       refine tk 10 rfl ?_
       try simp only [zp0, zp1, zp2, zp3, zp4]
       refine tk 11 rfl ?_
       try simp only [zp0, zp1, zp2, zp3, zp4]
       refine tk 12 rfl ?_
       try simp only [zp0, zp1, zp2, zp3, zp4]
       refine tk 13 rfl ?_
       try simp only [zp0, zp1, zp2, zp3, zp4]
       refine tk 14 rfl ?_
       try simp only [zp0, zp1, zp2, zp3, zp4]
       refine tk 15 rfl ?_
       try simp only [zp0, zp1, zp2, zp3, zp4]
       refine tk 16 rfl ?_
       try simp only [zp0, zp1, zp2, zp3, zp4]
       refine tk 17 rfl ?_
       try simp only [zp0, zp1, zp2, zp3, zp4]
       refine tk 18 rfl ?_
       try simp only [zp0, zp1, zp2, zp3, zp4]
       refine tk 19 rfl ?_
       try simp only [zp0, zp1, zp2, zp3, zp4]
       refine Reg.one_op (i := 20) rfl (by kernel_rfl) (fun K hK => ?_)
       go_simp
       go_at_call 83
       refine (HCF.out _ S91.out.old).mono ?_
       rintro e w4 ⟨rfl, hb⟩
       have S92 := Lib.hid (S91.out.keep hb)
       clear S91
       clear hb
       go_wp2_with fail
       refine hK.out _ _ ⟨Bag.cs1 S92.out 0 rfl, HKt.out _ S92.out.old, HKu.out _ S92.out.old⟩ (fun hS => ?_)
       clear hK K
       try simp only [zp0, zp1, zp2, zp3, zp4]
       refine tk 21 rfl ?_
       try simp only [zp0, zp1, zp2, zp3, zp4]
       refine wpAnyH_done (by kernel_rfl) ?_ _
       have f0 := Bag.cs1 S92.out 0 rfl
       obtain ⟨f1, f2, f3, f4, f5⟩ := HKt.out _ S92.out.old
       obtain ⟨f6, f7, f8, f9, f10⟩ := HKu.out _ S92.out.old
       have HV := Lib.hid (show be = false from by rw [← HB.out]; exact csQ_back HCt.out (show k < k0 by omega) HCu.out HHB.out)
       go_wp2_with fail
       go_ret
       exact ⟨by rw [HV.out] <;> rfl, S92.out.old⟩
    ·
     skip
     have f0 := Bag.cs1 S90.out 0 rfl
     obtain ⟨f1, f2, f3, f4, f5⟩ := HKt.out _ S90.out.old
     have HV := Lib.hid (show be = true from by rw [← HB.out]; exact csQ_yes HCt.out HST.out (fun j h1 h => HA.out j h1 (by omega)))
     go_wp2_with fail
     go_ret
     exact ⟨by rw [HV.out] <;> rfl, S90.out.old⟩
end Go.Proofs.YthljdhfgphebnaaGreat.L10

namespace Go.Proofs.YthljdhfgphebnaaGreat.V
open Go.ChangeShapes Go.WideShapes Go.ChangeAt Go.RowKit Mem Sl Sv Bag

section
variable {α : Type} {cl : α → List Value} {m : Nat} {w : World} {B k g : Nat} {xs : List α}
theorem reads_pre {a : Option Addr} {vs us : List Value} (h : Reads w B a (vs ++ us)) : Reads w B a vs := fun j hj => by
 obtain ⟨ad, e, hb, hc⟩ := h j (by rw [List.length_append]; omega)
 exact ⟨ad, e, hb, by rw [hc, List.getElem_append_left hj]⟩
theorem reads_take {a : Option Addr} (h : Reads w B a (xs.flatMap cl)) (k : Nat) : Reads w B a ((xs.take k).flatMap cl) := by
 have e : xs.flatMap cl = (xs.take k).flatMap cl ++ (xs.drop k).flatMap cl := by rw [← List.flatMap_append, List.take_append_drop]
 rw [e] at h
 exact reads_pre h
end
def ixV {α : Type} (f : α → Bool) (xs : List α) : Int := match xs.findIdx? f with
 | some i => i
 | none => -1
theorem ixV_at {α : Type} {f : α → Bool} {xs : List α} (i : Nat) (x : α) (hx : xs[i]? = some x) (h : f x = true) (ha : ∀ (j : Nat) (y : α), xs[j]? = some y → j < i → f y = false) : ixV f xs = i := by
 obtain ⟨hi, rfl⟩ := List.getElem?_eq_some_iff.1 hx
 unfold ixV
 rw [show xs.findIdx? f = some i from by
  rw [List.findIdx?_eq_some_iff_getElem]
  exact ⟨hi, h, fun j hj => by rw [ha j _ (List.getElem?_eq_getElem (by omega)) hj]; simp⟩]
theorem ixV_none {α : Type} {f : α → Bool} {xs : List α} (ha : ∀ (j : Nat) (y : α), xs[j]? = some y → f y = false) : ixV f xs = -1 := by
 unfold ixV
 rw [show xs.findIdx? f = none from by
  rw [List.findIdx?_eq_none_iff]
  intro x hx
  obtain ⟨j, hj, rfl⟩ := List.getElem_of_mem hx
  exact ha j _ (List.getElem?_eq_getElem hj)]
section
variable {P : Program} {W w : World} {rs : List Res} {e : TypeId} {k c n g : Nat} {xs : List Value}
end
end Go.Proofs.YthljdhfgphebnaaGreat.V

namespace Go.Proofs.YthljdhfgphebnaaGreat.Reg
section
variable {P : Program} {ops : Array Oper} {Q : Exit → Act → World → Prop} {md : Region.Mode} {S0 S1 : World → Prop} {q : Nat}
def Tier (S0 S1 : World → Prop) (q : Nat) (listed : Array Bool) (i : Nat) (w : World) : Prop := S0 w ∧ (i ≠ q → listed.getD q true = false → S1 w)
def anyL (P : Program) (md : Region.Mode) (ops : Array Oper) (Q : Exit → Act → World → Prop) (S0 S1 : World → Prop) (q : Nat) : Nat → Array Bool → Act → World → Prop
 | 0, L, a, w => Region.ready md ops L = [] ∧ Q .normal a w
 | n + 1, L, a, w => (Region.ready md ops L = [] → Q .normal a w) ∧ ∀ i, i ∈ Region.ready md ops L → wpOp P ops Q i (fun a' w' => Tier S0 S1 q L i w' ∧ anyL P md ops Q S0 S1 q n (L.setIfInBounds i true) a' w') a w
theorem anyL_plain : ∀ (n : Nat) (L : Array Bool) (a : Act) (w : World), anyL P md ops Q S0 S1 q n L a w → wpAny P md ops Q n L a w
 | 0, _, _, _, h => h
 | n + 1, _, _, _, h => ⟨h.1, fun i hi => wpOp_mono (fun a' w' h' => anyL_plain n _ a' w' h'.2) (h.2 i hi)⟩
theorem anyL_first {i : Nat} {oi : Oper} {v : Value} {T : World → Prop} (hi : ops[i]? = some oi) (hsel : ∀ (j : Nat) (o : Oper) cs b, ops[j]? = some o → o.op ≠ .select cs b) (hQ : ∀ c a w, Q (.panic c) (a.put oi.dst v) w → Q (.panic c) a w)
  (hiq : i ≠ q)
  (hT : (∀ w, S0 w → T w) ∨ ((∀ w, S0 w → S1 w → T w) ∧ ∃ oq, ops[q]? = some oq ∧ ∃ e ∈ oq.after, Region.binds md e = true ∧ e.on = i)) :
  ∀ (n : Nat) (L : Array Bool) (a : Act) (w : World), ((∀ w, S0 w → T w) ∨ L.getD q true = false) →
   (∀ j oj, ops[j]? = some oj → j ≠ i → L.getD j true = false → (∀ e ∈ oj.after, Region.binds md e = true → e.on ≠ i) → oi.apart ops oj = true) →
   i ∈ Region.ready md ops L → YieldsIf P ops T oi v a → (S0 w ∧ (L.getD q true = false → S1 w)) →
   anyL P md ops Q S0 S1 q n (L.setIfInBounds i true) (a.put oi.dst v) w → anyL P md ops Q S0 S1 q (n + 1) L a w := by
 have hTw : ∀ (L : Array Bool) (w : World), ((∀ w, S0 w → T w) ∨ L.getD q true = false) → S0 w → (L.getD q true = false → S1 w) → T w := fun L w hL h0 h1 => by
  rcases hT with h | ⟨h, _⟩
  ·
   exact h w h0
  ·
   rcases hL with h2 | h2
   ·
    exact h2 w h0
   ·
    exact h w h0 (h1 h2)
 intro n
 induction n with
 | zero =>
  intro L a w hL hfree hr hy hS H
  refine ⟨fun h => (by rw [h] at hr; cases hr), fun j hj => ?_⟩
  by_cases hji : j = i
  ·
   subst hji
   exact hy.wpOp hi (hTw L w hL hS.1 hS.2) ⟨⟨hS.1, fun _ => hS.2⟩, H⟩
  ·
   have := ready_mono hj hji
   rw [H.1] at this
   cases this
 | succ n ih =>
  intro L a w hL hfree hr hy hS H
  refine ⟨fun h => (by rw [h] at hr; cases hr), fun j hj => ?_⟩
  by_cases hji : j = i
  ·
   subst hji
   exact hy.wpOp hi (hTw L w hL hS.1 hS.2) ⟨⟨hS.1, fun _ => hS.2⟩, H⟩
  ·
   have h1 := H.2 j (ready_mono hj hji)
   obtain ⟨hjun, oj, hoj, hall⟩ := mem_ready.1 hj
   have hnot : ∀ e ∈ oj.after, Region.binds md e = true → e.on ≠ i := fun e he hb heq => by
    have g1 := hall e he hb
    have g0 := (mem_ready.1 hr).1
    rw [heq] at g1
    rcases Nat.lt_or_ge i L.size with h' | h'
    ·
     simp [h'] at g0 g1; rw [g0] at g1; cases g1
    ·
     simp [Array.getElem?_eq_none h'] at g1
   have h2 := wpOp_putIf hoj (hfree j oj hoj hji hjun hnot) (fun cs b => hsel i oi cs b hi) (fun cs b => hsel j oj cs b hoj) hQ hy h1
   have hfree' : ∀ k ok, ops[k]? = some ok → k ≠ i → (L.setIfInBounds j true).getD k true = false → (∀ e ∈ ok.after, Region.binds md e = true → e.on ≠ i) → oi.apart ops ok = true := fun k ok hk hki hun hno => by
    refine hfree k ok hk hki ?_ hno
    by_cases hjk : j = k
    ·
     subst hjk; exact hjun
    ·
     rw [getD_set_ne true hjk] at hun; exact hun
   -- the late one is not j, where it waits for i
   have hL' : (∀ w, S0 w → T w) ∨ (L.setIfInBounds j true).getD q true = false := by
    rcases hT with h | ⟨_, oq, hoq, e, he, hb, hei⟩
    ·
     exact .inl h
    ·
     rcases hL with h | h
     ·
      exact .inl h
     ·
      by_cases hjq : j = q
      ·
       subst hjq
       rw [hoj] at hoq
       injection hoq with hoq
       subst hoq
       exact absurd hei (hnot e he hb)
      ·
       exact .inr (by rw [getD_set_ne true hjq]; exact h)
   refine wpOp_mono (fun a' w' h3 => ?_) h2
   obtain ⟨hy', ⟨t0, t1⟩, hrest⟩ := h3
   have hS' : S0 w' ∧ ((L.setIfInBounds j true).getD q true = false → S1 w') := ⟨t0, fun hq => by
    by_cases hjq : j = q
    ·
     subst hjq
     rcases Nat.lt_or_ge j L.size with h' | h'
     ·
      simp [h'] at hq
     ·
      simp at hq
    ·
     rw [getD_set_ne true hjq] at hq
     exact t1 hjq (by rw [getD_set_ne true hiq]; exact hq)⟩
   refine ⟨⟨t0, fun hjq hq => ?_⟩, ih (L.setIfInBounds j true) a' w' hL' hfree' (ready_mono hr (Ne.symm hji)) hy' hS' ?_⟩
   ·
    exact hS'.2 (by rw [getD_set_ne true hjq]; exact hq)
   ·
    rw [Array.setIfInBounds_comm _ _ hji]
    exact hrest
theorem wp_region_late {id : Nat} {a : Act} {w : World} (S0 S1 : World → Prop) (q : Nat) (hm : P.follows .mixedOrders = true) (h0 : S0 w.drew) (h1 : S1 w.drew)
  (h : S0 w.drew → S1 w.drew → anyL P .any ops Q S0 S1 q ops.size (Array.replicate ops.size false) a w.drew) : (Code.region id ops true).wp P Q a w :=
 wp_region_any hm (anyL_plain _ _ _ _ (h h0 h1))
end
section
variable {P : Program} {l : List Oper} {Q : Exit → Act → World → Prop} {md : Region.Mode} {S0 S1 : World → Prop} {q fuel i : Nat} {oi : Oper} {v : Value} {listed : Array Bool} {a : Act} {w : World}
def waits (md : Region.Mode) (l : List Oper) (q i : Nat) : Bool := match nthO q l with
 | none => false
 | some o => o.after.any fun e => Region.binds md e && e.on == i
theorem early_op (hi : nthO i l = some oi) (hs : Region.noSelect l.toArray = true) (hf : Region.free md l.toArray listed i = true) (hr : (Region.ready md l.toArray listed).contains i = true) (hiq : (i == q) = false) (hq : waits md l q i = true) (hl : listed.getD q true = false)
  (hQ : ∀ c a w, Q (.panic c) (a.put oi.dst v) w → Q (.panic c) a w) (hw : Region.wanted oi (yielded l.toArray a.tmps) = true) (hy : ∀ w, S0 w → S1 w → (execOp a.eval oi).run P w = .ok (.value v) w) (h0 : S0 w) (h1 : S1 w)
  (h : anyL P md l.toArray Q S0 S1 q fuel (listed.setIfInBounds i true) (a.put oi.dst v) w) : anyL P md l.toArray Q S0 S1 q (fuel + 1) listed a w := by
 refine anyL_first (T := fun w => S0 w ∧ S1 w) (by rw [nthO_eq]; exact hi) (Region.noSelect_spec hs) hQ (by simpa using hiq) (.inr ⟨fun w a b => ⟨a, b⟩, ?_⟩) fuel listed a w (.inr hl) (Region.free_spec (by rw [nthO_eq]; exact hi) hf) (by simpa using hr) (.inl ⟨hw, fun w hh => hy w hh.1 hh.2⟩) ⟨h0, fun _ => h1⟩ h
 unfold waits at hq
 cases ho : nthO q l with
 | none => rw [ho] at hq; cases hq
 | some o =>
  rw [ho] at hq
  simp only [Array.any_eq_true, Bool.and_eq_true, beq_iff_eq] at hq
  obtain ⟨j, hj, h2, h3⟩ := hq
  exact ⟨o, by rw [nthO_eq]; exact ho, _, Array.getElem_mem hj, h2, h3⟩
theorem plain_op (hi : nthO i l = some oi) (hs : Region.noSelect l.toArray = true) (hf : Region.free md l.toArray listed i = true) (hr : (Region.ready md l.toArray listed).contains i = true) (hiq : (i == q) = false)
  (hQ : ∀ c a w, Q (.panic c) (a.put oi.dst v) w → Q (.panic c) a w) (hw : Region.wanted oi (yielded l.toArray a.tmps) = true) (hy : ∀ w, S0 w → (execOp a.eval oi).run P w = .ok (.value v) w) (h0 : S0 w) (h1 : listed.getD q true = false → S1 w)
  (h : anyL P md l.toArray Q S0 S1 q fuel (listed.setIfInBounds i true) (a.put oi.dst v) w) : anyL P md l.toArray Q S0 S1 q (fuel + 1) listed a w :=
 anyL_first (T := S0) (by rw [nthO_eq]; exact hi) (Region.noSelect_spec hs) hQ (by simpa using hiq) (.inl fun _ h => h) fuel listed a w (.inl fun _ h => h) (Region.free_spec (by rw [nthO_eq]; exact hi) hf) (by simpa using hr) (.inl ⟨hw, hy⟩) ⟨h0, h1⟩ h
theorem only_op (hi : nthO i l = some oi) (hr : Region.ready md l.toArray listed = [i])
  (h : ∀ K' : Act → World → Prop, Shut (∀ a w, S0 w → S1 w → (S0 w → S1 w → anyL P md l.toArray Q S0 S1 q fuel (listed.setIfInBounds i true) a w) → K' a w) → if Region.wanted oi (yielded l.toArray a.tmps) = true then Oper.wp P oi a w K' Q else K' (a.put oi.dst undef) w) :
  anyL P md l.toArray Q S0 S1 q (fuel + 1) listed a w := by
 refine ⟨fun h0 => (by rw [hr] at h0; cases h0), fun j hj => ?_⟩
 rw [hr] at hj
 obtain rfl := List.mem_singleton.1 hj
 exact wpOp_step (by rw [nthO_eq]; exact hi) (fun K' hK => h K' (fun a w h0 h1 hW => hK a w ⟨⟨h0, fun _ _ => h1⟩, hW h0 h1⟩))
theorem late_op (hi : nthO i l = some oi) (hr : Region.ready md l.toArray listed = [i]) (hiq : (i == q) = true)
  (h : ∀ K' : Act → World → Prop, Shut (∀ a w, S0 w → (S0 w → anyL P md l.toArray Q S0 S1 q fuel (listed.setIfInBounds i true) a w) → K' a w) → if Region.wanted oi (yielded l.toArray a.tmps) = true then Oper.wp P oi a w K' Q else K' (a.put oi.dst undef) w) :
  anyL P md l.toArray Q S0 S1 q (fuel + 1) listed a w := by
 refine ⟨fun h0 => (by rw [hr] at h0; cases h0), fun j hj => ?_⟩
 rw [hr] at hj
 obtain rfl := List.mem_singleton.1 hj
 exact wpOp_step (by rw [nthO_eq]; exact hi) (fun K' hK => h K' (fun a w h0 hW => hK a w ⟨⟨h0, fun hn => absurd (by simpa using hiq) hn⟩, hW h0⟩))
theorem anyL_done {l : Array Oper} {listed : Array Bool} {a : Act} {w : World} (hr : Region.ready md l listed = []) (h : Q .normal a w) : ∀ fuel, anyL P md l Q S0 S1 q fuel listed a w
 | 0 => ⟨hr, h⟩
 | _ + 1 => ⟨fun _ => h, by rw [hr]; simp⟩
end
end Go.Proofs.YthljdhfgphebnaaGreat.Reg

set_option linter.unusedSimpArgs false
namespace Go.Proofs.YthljdhfgphebnaaGreat.L6
open L4 (K isK cmpK R inR encU)
open L5 (F isR isN cellsF encR eqR Small)
open Go.ChangeShapes Go.WideShapes Go.ChangeAt Go.RowKit Mem Sl Ex L2 Sv Bag

set_option maxHeartbeats 2000000 in
theorem l6Item_any (kd n : Int) (s : ByteArray) (a : Option Addr) (c : Nat) (l : List F) (hl : l.length ≤ 1048576) (w : World) (hr : Reads w w.heap.size a (cellsF l)) :
  Calls Tryz.prog 84 #[.agg #[.int .i64 kd, .int .i64 n, .string s, .slice a l.length c]] w (GaveI w ⟨⟨kd, n, s⟩, l⟩) := by
 have HC := Lib.hid (fun w' (h : Below w.heap.size w w') => L5.l5Copy_any a c l (by have := hl; omega) w' ((hr.below h).more h.size))
 obtain ⟨N, hN⟩ : ∃ n, n = l.length := ⟨_, rfl⟩
 rw [← hN] at HC ⊢
 have HN := Lib.hid hN
 clear hN hr hl
 have S1 := Lib.hid (show Sl.Sep w _ [_, _] from L4.push_box (L4.push_box (Sl.Sep.start w) 135 #[.int .i64 kd, .int .i64 n, .string s, .slice a N c] (w.heap.size) (by simp)) 135 #[.int .i64 0, .int .i64 0, .string ⟨#[]⟩, .slice none 0 0] (w.heap.size + 1) (by simp))
 obtain ⟨wa, hwa⟩ : ∃ u, u = ((w.alloc (.cells #[.int .i64 kd, .int .i64 n, .string s, .slice a N c] 135)).alloc (.cells #[.int .i64 0, .int .i64 0, .string ⟨#[]⟩, .slice none 0 0] 135)) := ⟨_, rfl⟩
 rw [← hwa] at S1
 go_enter Tryz.func84, Tryz.ntmps84
 go_upto_region 1 with fail
 rw [← hwa]
 clear hwa
 go_upto_region 1 with fail
 refine wp_region_held_drew (S := (fun w' => (w'.cell? ⟨w.heap.size, 0, none⟩ = some (.int .i64 kd) ∧ w'.cell? ⟨w.heap.size, 1, none⟩ = some (.int .i64 n) ∧ w'.cell? ⟨w.heap.size, 2, none⟩ = some (.string s) ∧ w'.cell? ⟨w.heap.size, 3, none⟩ = some (.slice a N c)))) (by kernel_rfl) (Bag.cs4 (Bag.drew1 S1.out) 0 rfl) (fun hS => ?_)
 have S2 := Lib.hid (Bag.drew1 S1.out)
 clear S1
 generalize World.drew _ = w1 at hS S2 ⊢
 refine tk 0 rfl ?_
 try simp only [zp0, zp1, zp2, zp3, zp4]
 refine tk 1 rfl ?_
 try simp only [zp0, zp1, zp2, zp3, zp4]
 refine tk 2 rfl ?_
 try simp only [zp0, zp1, zp2, zp3, zp4]
 refine tk 3 rfl ?_
 try simp only [zp0, zp1, zp2, zp3, zp4]
 refine Reg.one_op (i := 4) rfl (by kernel_rfl) (fun K hK => ?_)
 go_simp
 go_at_call 120
 refine (HC.out _ S2.out.old).mono ?_
 rintro e w2 ⟨a1, c1, rfl, ho, hb⟩
 have S3 := Lib.hid (show Sl.Sep w _ [_, _, Sv.ownV 184 2 a1 c1 N (cellsF l)] from Sv.push_own S2.out hb ho)
 clear S2
 clear hb ho
 go_wp2_with fail
 refine hK.out _ _ (Bag.cs4 S3.out 0 rfl) (fun hS => ?_)
 clear hK K
 try simp only [zp0, zp1, zp2, zp3, zp4]
 refine tk 5 rfl ?_
 try simp only [zp0, zp1, zp2, zp3, zp4]
 refine Reg.one_op (i := 6) rfl (by kernel_rfl) (fun K hK => ?_)
 obtain ⟨f0, f1, f2, f3⟩ := Bag.cs4 S3.out 1 rfl
 obtain ⟨z0, z1, z2, z3⟩ := Bag.fs4 S3.out 1 rfl
 go_simp
 clear f0 f1 f2 f3 z0 z1 z2 z3
 have S4 := Lib.hid (show Sl.Sep w _ [_, L4.boxR (w.heap.size + 1) 135 #[.int .i64 kd, .int .i64 n, .string s, .slice a1 N c1], _] from L5.put_box5 (L5.put_box5 (L5.put_box5 (L5.put_box5 (S3.out) 1 rfl 0 (.int .i64 kd)) 1 rfl 1 (.int .i64 n)) 1 rfl 2 (.string s)) 1 rfl 3 (.slice a1 N c1))
 clear S3
 refine hK.out _ _ (Bag.cs4 S4.out 0 rfl) (fun hS => ?_)
 clear hK K
 try simp only [zp0, zp1, zp2, zp3, zp4]
 refine wpAnyH_done (by kernel_rfl) ?_ _
 obtain ⟨f0, f1, f2, f3⟩ := Bag.cs4 S4.out 0 rfl
 obtain ⟨f4, f5, f6, f7⟩ := Bag.cs4 S4.out 1 rfl
 go_wp2_with fail
 refine bodyPost_ret (v := .agg #[.int .i64 kd, .int .i64 n, .string s, .slice a1 N c1]) (by simp [results, Tryz.results84, go_sem, *]) rfl ?_
 have hb := Bag.bag_from (Bag.bag_of_one S4.out 2 (r := (LI.mk ⟨kd, n, s⟩ a1 c1 l).row) (by show some _ = some _; rw [HN.out]; rfl)) 2 rfl
 exact ⟨a1, c1, by rw [HN.out], hb, S4.out.old⟩
theorem infoItem : (Tryz.prog.info? 135).map (fun i => (i.zero, i.size, i.bytes)) = some (some (.agg #[.int .i64 0, .int .i64 0, .string ⟨#[]⟩, .slice none 0 0]), 4, 56) := by kernel_rfl
theorem itemInfo : ∃ i, Tryz.prog.info? 135 = some i ∧ i.zero = some (.agg #[.int .i64 0, .int .i64 0, .string ⟨#[]⟩, .slice none 0 0]) ∧ i.size = 4 ∧ i.bytes = 56 := by
 have h := infoItem
 rw [Option.map_eq_some_iff] at h
 obtain ⟨i, h1, h2⟩ := h
 simp only [Prod.mk.injEq] at h2
 exact ⟨i, h1, h2⟩
theorem readsI_at {w : World} {B : Nat} {ad : Addr} {xs : List LI} (h : Reads w B (some ad) (cellsI xs)) (j : Nat) (x : LI) (hx : xs[j]? = some x) :
  w.cell? (ad.add (j * 4)) = some (.int .i64 x.k.kind) ∧ w.cell? ⟨(ad.add (j * 4)).block, (ad.add (j * 4)).off + 1, none⟩ = some (.int .i64 x.k.n) ∧ w.cell? ⟨(ad.add (j * 4)).block, (ad.add (j * 4)).off + 2, none⟩ = some (.string x.k.text) ∧ w.cell? ⟨(ad.add (j * 4)).block, (ad.add (j * 4)).off + 3, none⟩ = some (.slice x.a x.l.length x.c) := by
 obtain ⟨hj, rfl⟩ := List.getElem?_eq_some_iff.1 hx
 obtain ⟨ad', e, _, h1⟩ := readsI h j hj
 injection e with e
 subst e
 exact h1
theorem readsI_some {w : World} {B : Nat} {a : Option Addr} {xs : List LI} (h : Reads w B a (cellsI xs)) (j : Nat) (hj : j < xs.length) : ∃ ad x, a = some ad ∧ xs[j]? = some x := by
 obtain ⟨ad, e, _⟩ := readsI h j hj
 exact ⟨ad, _, e, List.getElem?_eq_getElem hj⟩
theorem conI_take {xs : List LI} {j : Nat} {x : LI} (hx : xs[j]? = some x) : (conI xs).take (j + 1) = (conI xs).take j ++ [x.con] := by
 obtain ⟨hj, rfl⟩ := List.getElem?_eq_some_iff.1 hx
 rw [List.take_succ_eq_append_getElem (by simpa using hj), conI_get _ _ hj]
theorem rowsI_mem {xs : List LI} {j : Nat} {x : LI} (hx : xs[j]? = some x) : x.row ∈ rowsI xs := by
 obtain ⟨hj, rfl⟩ := List.getElem?_eq_some_iff.1 hx
 exact rowsI_at xs j hj
theorem fit_at {xs : List LI} {j : Nat} {x : LI} (h : ∀ y ∈ conI xs, FitI y) (hx : xs[j]? = some x) : FitI x.con := by
 obtain ⟨hj, rfl⟩ := List.getElem?_eq_some_iff.1 hx
 exact h _ (List.mem_map.2 ⟨_, List.getElem_mem hj, rfl⟩)
set_option maxHeartbeats 4000000 in
theorem l6Copy_any (y : LS) (hf : FitS y.con) (w : World) (hr : RowsRd w w.heap.size y.rows) :
  Calls Tryz.prog 53 #[y.v] w (GaveS w y.con) := by
 obtain ⟨i0, hi1, hi2, hi3, hi4⟩ := itemInfo
 have HI := Lib.hid (And.intro hi1 (And.intro hi2 (And.intro hi3 hi4)))
 clear hi1 hi2 hi3 hi4
 obtain ⟨name, a, c, xs, auto⟩ := y
 have HR := Lib.hid (fun w' (h : Below w.heap.size w w') => LS.outer (hr.below h))
 have HX := Lib.hid (fun w' (h : Below w.heap.size w w') => (LS.inner (hr.below h)).more h.size)
 have HF := Lib.hid hf.items
 have hl := hf.len
 simp only [LS.con, conI_length] at hl
 unfold LS.v LS.cells LS.con
 dsimp only at HR HX HF hl ⊢
 obtain ⟨N, hN⟩ : ∃ n, n = xs.length := ⟨_, rfl⟩
 rw [← hN] at hl ⊢
 have hl' : (N : Int) ≤ 1048576 := by omega
 have HN := Lib.hid hN
 clear hN hr hf
 have S1 := Lib.hid (show Sl.Sep w _ [_, _] from L4.push_box (L4.push_box (Sl.Sep.start w) 70 #[.string name, .slice a N c, .int .i64 auto] (w.heap.size) (by simp)) 70 #[.string ⟨#[]⟩, .slice none 0 0, .int .i64 0] (w.heap.size + 1) (by simp))
 obtain ⟨wa, hwa⟩ : ∃ u, u = ((w.alloc (.cells #[.string name, .slice a N c, .int .i64 auto] 70)).alloc (.cells #[.string ⟨#[]⟩, .slice none 0 0, .int .i64 0] 70)) := ⟨_, rfl⟩
 rw [← hwa] at S1
 go_enter Tryz.func53, Tryz.ntmps53
 go_upto_region 1 with fail
 rw [← hwa]
 clear hwa
 obtain ⟨f0, f1, f2⟩ := Bag.cs3 S1.out 0 rfl
 obtain ⟨f3, f4, f5⟩ := Bag.cs3 S1.out 1 rfl
 go_upto_region 2 with fail
 clear f0 f1 f2 f3 f4 f5
 have S2 := Lib.hid (show Sl.Sep w _ [_, _, _] from L4.push_box S1.out 70 #[.string name, .slice none 0 0, .int .i64 auto] wa.heap.size rfl)
 clear S1
 obtain ⟨g1, hg⟩ : ∃ g', g' = wa.heap.size := ⟨_, rfl⟩
 rw [← hg] at S2 ⊢
 clear hg
 generalize wa.alloc (.cells #[.string name, .slice none 0 0, .int .i64 auto] 70) = w1 at S2 ⊢
 have S3 := Lib.hid (show Sl.Sep w _ [_, _, L4.boxR g1 70 #[.string name, .slice none 0 0, .int .i64 auto], Sv.ownV 135 4 none 0 0 (cellsI [])] from Sv.push_own S2.out (Below.refl _ _) (OwnV.nil _ _ _ _))
 clear S2
 have S4 := Lib.hid (show Sl.Sep w _ [_, _, _, _, Bag.bag (rowsI [])] from Bag.push_bag S3.out (Below.refl _ _) (Bag.BagOwn.nil _ _))
 clear S3
 go_wp2_with fail
 go_loopw [4] (fun i wr => ∃ (k : Nat) (A : Option Addr) (C : Nat) (ys : List LI), k ≤ N ∧ i = .int .i64 k ∧ Hid (conI ys = (conI xs).take k ∧ Sl.Sep w wr [L4.boxR w.heap.size 70 #[.string name, .slice a N c, .int .i64 auto], L4.boxR (w.heap.size + 1) 70 #[.string ⟨#[]⟩, .slice none 0 0, .int .i64 0], L4.boxR g1 70 #[.string name, .slice A k C, .int .i64 auto], Sv.ownV 135 4 A C k (cellsI ys), Bag.bag (rowsI ys)])) (fun i _ => N - (intOf i).toNat)
 case atStart => exact ⟨0, none, 0, [], Nat.zero_le _, rfl, rfl, S4.out⟩
 case round =>
  obtain ⟨k, A, C, ys, hk, rfl, hrel⟩ := hrel
  have HC := Lib.hid hrel.out.1
  have S5 := Lib.hid hrel.out.2
  clear hrel S4
  by_cases hlt : (k : Int) < (N : Int)
  ·
   skip
   have hkl : k < xs.length := by have := HN.out; omega
   obtain ⟨ad, x, rfl, hx⟩ := readsI_some (HR.out _ S5.out.old) k hkl
   obtain ⟨⟨kd, n, t⟩, ia, ic, l⟩ := x
   have HK := Lib.hid (fun w' (h : Below w.heap.size w w') => readsI_at (HR.out _ h) k _ hx)
   try dsimp only at HK
   have HCI := Lib.hid (fun w' (h : Below w.heap.size w w') => l6Item_any kd n t ia ic l (fit_at HF.out hx).len w' (((HX.out _ h).at_ (rowsI_mem hx)).reads))
   try dsimp only at HCI
   have HT := Lib.hid (conI_take hx)
   clear hx
   obtain ⟨f0, f1, f2⟩ := Bag.cs3 S5.out 0 rfl
   obtain ⟨f3, f4, f5⟩ := Bag.cs3 S5.out 1 rfl
   obtain ⟨f6, f7, f8⟩ := Bag.cs3 S5.out 2 rfl
   obtain ⟨f9, f10, f11, f12⟩ := HK.out _ S5.out.old
   go_upto_region 5 with fail
   clear f0 f1 f2 f3 f4 f5 f6 f7 f8 f9 f10 f11 f12
   refine Reg.wp_region_late (fun w' => (w'.cell? ⟨w.heap.size, 0, none⟩ = some (.string name) ∧ w'.cell? ⟨w.heap.size, 1, none⟩ = some (.slice (some ad) N c) ∧ w'.cell? ⟨w.heap.size, 2, none⟩ = some (.int .i64 auto)) ∧ (w'.cell? (ad.add (k * 4)) = some (.int .i64 kd) ∧ w'.cell? (⟨(ad.add (k * 4)).block, (ad.add (k * 4)).off + 1, none⟩) = some (.int .i64 n) ∧ w'.cell? (⟨(ad.add (k * 4)).block, (ad.add (k * 4)).off + 2, none⟩) = some (.string t) ∧ w'.cell? (⟨(ad.add (k * 4)).block, (ad.add (k * 4)).off + 3, none⟩) = some (.slice ia l.length ic))) (fun w' => (w'.cell? ⟨g1, 0, none⟩ = some (.string name) ∧ w'.cell? ⟨g1, 1, none⟩ = some (.slice A k C) ∧ w'.cell? ⟨g1, 2, none⟩ = some (.int .i64 auto))) 11 (by kernel_rfl) ⟨Bag.cs3 (Bag.drew1 S5.out) 0 rfl, HK.out _ (Bag.drew1 S5.out).old⟩ (Bag.cs3 (Bag.drew1 S5.out) 2 rfl) (fun hS hL => ?_)
   have S6 := Lib.hid (Bag.drew1 S5.out)
   clear S5
   generalize World.drew _ = w2 at hS hL S6 ⊢
   refine Reg.early_op (i := 0) (v := ?_) rfl (by kernel_rfl) (by kernel_rfl) (by kernel_rfl) rfl (by kernel_rfl) (by kernel_rfl) (fun _ _ _ h => h) (by rfl) ?_ hS hL ?_
   rotate_left
   ·
    (intro w hSw hSv; (try dsimp only at hSw); (try dsimp only at hSv); go_simp; try with_reducible rfl)
   try simp only [zp0, zp1, zp2, zp3, zp4]
   refine Reg.early_op (i := 1) (v := ?_) rfl (by kernel_rfl) (by kernel_rfl) (by kernel_rfl) rfl (by kernel_rfl) (by kernel_rfl) (fun _ _ _ h => h) (by rfl) ?_ hS hL ?_
   rotate_left
   ·
    (intro w hSw hSv; (try dsimp only at hSw); (try dsimp only at hSv); go_simp; try with_reducible rfl)
   try simp only [zp0, zp1, zp2, zp3, zp4]
   refine Reg.early_op (i := 2) (v := ?_) rfl (by kernel_rfl) (by kernel_rfl) (by kernel_rfl) rfl (by kernel_rfl) (by kernel_rfl) (fun _ _ _ h => h) (by rfl) ?_ hS hL ?_
   rotate_left
   ·
    (intro w hSw hSv; (try dsimp only at hSw); (try dsimp only at hSv); go_simp; try with_reducible rfl)
   try simp only [zp0, zp1, zp2, zp3, zp4]
   refine Reg.early_op (i := 3) (v := ?_) rfl (by kernel_rfl) (by kernel_rfl) (by kernel_rfl) rfl (by kernel_rfl) (by kernel_rfl) (fun _ _ _ h => h) (by rfl) ?_ hS hL ?_
   rotate_left
   ·
    (intro w hSw hSv; (try dsimp only at hSw); (try dsimp only at hSv); go_simp; try with_reducible rfl)
   try simp only [zp0, zp1, zp2, zp3, zp4]
   refine Reg.early_op (i := 4) (v := ?_) rfl (by kernel_rfl) (by kernel_rfl) (by kernel_rfl) rfl (by kernel_rfl) (by kernel_rfl) (fun _ _ _ h => h) (by rfl) ?_ hS hL ?_
   rotate_left
   ·
    (intro w hSw hSv; (try dsimp only at hSw); (try dsimp only at hSv); go_simp; try with_reducible rfl)
   try simp only [zp0, zp1, zp2, zp3, zp4]
   refine Reg.early_op (i := 5) (v := ?_) rfl (by kernel_rfl) (by kernel_rfl) (by kernel_rfl) rfl (by kernel_rfl) (by kernel_rfl) (fun _ _ _ h => h) (by rfl) ?_ hS hL ?_
   rotate_left
   ·
    (intro w hSw hSv; (try dsimp only at hSw); (try dsimp only at hSv); go_simp; try with_reducible rfl)
   try simp only [zp0, zp1, zp2, zp3, zp4]
   refine Reg.early_op (i := 6) (v := ?_) rfl (by kernel_rfl) (by kernel_rfl) (by kernel_rfl) rfl (by kernel_rfl) (by kernel_rfl) (fun _ _ _ h => h) (by rfl) ?_ hS hL ?_
   rotate_left
   ·
    (intro w hSw hSv; (try dsimp only at hSw); (try dsimp only at hSv); go_simp; try with_reducible rfl)
   try simp only [zp0, zp1, zp2, zp3, zp4]
   refine Reg.only_op (i := 7) rfl (by kernel_rfl) (fun K hK => ?_)
   go_simp
   go_at_call 84
   refine (HCI.out _ S6.out.old).mono ?_
   rintro e w3 ⟨a1, c1, rfl, ho, hb⟩
   have S7 := Lib.hid (show Sl.Sep w _ [_, _, _, _, _, Bag.bag ([(LI.mk ⟨kd, n, t⟩ a1 c1 l).row])] from Bag.push_bag S6.out hb ho)
   clear S6
   clear hb ho
   go_wp2_with fail
   clear hL
   refine hK.out _ _ ⟨Bag.cs3 S7.out 0 rfl, HK.out _ S7.out.old⟩ (Bag.cs3 S7.out 2 rfl) (fun hS hL => ?_)
   clear hK K
   try simp only [zp0, zp1, zp2, zp3, zp4]
   refine Reg.only_op (i := 8) rfl (by kernel_rfl) (fun K hK => ?_)
   go_simp
   have S8 := Lib.hid (show Sl.Sep w _ [_, _, _, _, _, _, Sv.ownV 135 4 (some ⟨w3.heap.size, 0, none⟩) 1 1 (cellsI [⟨⟨kd, n, t⟩, a1, c1, l⟩])] from Sv.push_own S7.out ((Below.refl _ _).alloc (Nat.le_refl _) _) (OwnV.madeAt w3 135 4 1 w3.heap.size #[.int .i64 kd, .int .i64 n, .string t, .slice a1 l.length c1] rfl (Nat.le_refl _) rfl (by decide)))
   clear S7
   obtain ⟨g2, hg⟩ : ∃ g', g' = w3.heap.size := ⟨_, rfl⟩
   rw [← hg] at S8 ⊢
   clear hg
   generalize w3.alloc (.cells #[.int .i64 kd, .int .i64 n, .string t, .slice a1 l.length c1] 135) = w4 at S8 ⊢
   clear hL
   refine hK.out _ _ ⟨Bag.cs3 S8.out 0 rfl, HK.out _ S8.out.old⟩ (Bag.cs3 S8.out 2 rfl) (fun hS hL => ?_)
   clear hK K
   try simp only [zp0, zp1, zp2, zp3, zp4]
   refine Reg.only_op (i := 9) rfl (by kernel_rfl) (fun K hK => ?_)
   refine Sv.step_append_s S8.out 3 rfl rfl _ _ 68 (by rfl) i0 (.agg #[.int .i64 0, .int .i64 0, .string ⟨#[]⟩, .slice none 0 0]) 56 Tryz.underlying68 HI.out.1 HI.out.2.1 HI.out.2.2.1 HI.out.2.2.2 rfl (by omega) _ (by rfl) rfl _ _ 1 _ _ (cellsI [⟨⟨kd, n, t⟩, a1, c1, l⟩]) (by rfl) rfl ((Sv.own_at S8.out 6 rfl).reads) rfl (cellsI_one _) (by unfold maxLen; omega) (by omega) ?_
   intro a3' c3' w5 hA
   have S9 := Lib.hid (show Sl.Sep w _ [_, _, _, Sv.ownV 135 4 a3' c3' (k + 1) (cellsI ys ++ (cellsI [⟨⟨kd, n, t⟩, a1, c1, l⟩])), _, _, Sv.ownV 135 4 (some ⟨g2, 0, none⟩) 1 1 (cellsI [⟨⟨kd, n, t⟩, a1, c1, l⟩])] from hA)
   clear S8
   clear hA
   clear hL
   refine hK.out _ _ ⟨Bag.cs3 S9.out 0 rfl, HK.out _ S9.out.old⟩ (Bag.cs3 S9.out 2 rfl) (fun hS hL => ?_)
   clear hK K
   try simp only [zp0, zp1, zp2, zp3, zp4]
   refine Reg.early_op (i := 10) (v := ?_) rfl (by kernel_rfl) (by kernel_rfl) (by kernel_rfl) rfl (by kernel_rfl) (by kernel_rfl) (fun _ _ _ h => h) (by rfl) ?_ hS hL ?_
   rotate_left
   ·
    (intro w hSw hSv; (try dsimp only at hSw); (try dsimp only at hSv); go_simp; try with_reducible rfl)
   try simp only [zp0, zp1, zp2, zp3, zp4]
   refine Reg.late_op (i := 11) rfl (by kernel_rfl) rfl (fun K hK => ?_)
   obtain ⟨f0, f1, f2⟩ := Bag.cs3 S9.out 2 rfl
   obtain ⟨z0, z1, z2⟩ := Bag.fs3 S9.out 2 rfl
   go_simp
   clear f0 f1 f2 z0 z1 z2
   have S10 := Lib.hid (show Sl.Sep w _ [_, _, L4.boxR g1 70 #[.string name, .slice a3' (k + 1) c3', .int .i64 auto], _, _, _, _] from L5.put_box5 (S9.out) 2 rfl 1 (.slice a3' (k + 1) c3'))
   clear S9
   refine hK.out _ _ ⟨Bag.cs3 S10.out 0 rfl, HK.out _ S10.out.old⟩ (fun hS => ?_)
   clear hL
   clear hK K
   try simp only [zp0, zp1, zp2, zp3, zp4]
   refine Reg.anyL_done (by kernel_rfl) ?_ _
   obtain ⟨f0, f1, f2⟩ := Bag.cs3 S10.out 0 rfl
   obtain ⟨f3, f4, f5⟩ := Bag.cs3 S10.out 1 rfl
   obtain ⟨f6, f7, f8⟩ := Bag.cs3 S10.out 2 rfl
   obtain ⟨f9, f10, f11, f12⟩ := HK.out _ S10.out.old
   clear f0 f1 f2 f3 f4 f5 f6 f7 f8 f9 f10 f11 f12
   have S11 := Lib.hid (show Sl.Sep w _ [_, _, _, _, Bag.bag (rowsI ys ++ ([(LI.mk ⟨kd, n, t⟩ a1 c1 l).row])), Bag.bag ([]), _] from Bag.bag_join S10.out 4 5 (by decide) rfl rfl)
   clear S10
   have S12 := Lib.hid (show Sl.Sep w _ [_, _, _, _, _] from Bag.take S11.out [0, 1, 2, 3, 4] (by rfl) (by decide))
   clear S11
   obtain ⟨f0, f1, f2⟩ := Bag.cs3 S12.out 0 rfl
   obtain ⟨f3, f4, f5⟩ := Bag.cs3 S12.out 1 rfl
   obtain ⟨f6, f7, f8⟩ := Bag.cs3 S12.out 2 rfl
   obtain ⟨f9, f10, f11, f12⟩ := HK.out _ S12.out.old
   go_wp2_with fail
   go_roundw
   case rel =>
    refine ⟨k + 1, a3', c3', ys ++ [⟨⟨kd, n, t⟩, a1, c1, l⟩], by omega, by go_num, And.intro ?_ ?_⟩
    ·
     rw [HT.out, ← HC.out]; exact List.map_append
    ·
     rw [cellsI_append, rowsI_append]; exact S12.out
   case measure => simp [intOf]; omega
  ·
   skip
   obtain ⟨f0, f1, f2⟩ := Bag.cs3 S5.out 0 rfl
   obtain ⟨f3, f4, f5⟩ := Bag.cs3 S5.out 1 rfl
   obtain ⟨f6, f7, f8⟩ := Bag.cs3 S5.out 2 rfl
   obtain ⟨z0, z1, z2⟩ := Bag.fs3 S5.out 1 rfl
   go_wp2_with fail
   clear f0 f1 f2 f3 f4 f5 f6 f7 f8 z0 z1 z2
   have S6 := Lib.hid (show Sl.Sep w _ [L4.boxR w.heap.size 70 #[.string name, .slice a N c, .int .i64 auto], L4.boxR (w.heap.size + 1) 70 #[.string name, .slice A k C, .int .i64 auto], L4.boxR g1 70 #[.string name, .slice A k C, .int .i64 auto], Sv.ownV 135 4 A C k (cellsI ys), Bag.bag (rowsI ys)] from L5.put_box5 (L5.put_box5 (L5.put_box5 (S5.out) 1 rfl 0 (.string name)) 1 rfl 1 (.slice A k C)) 1 rfl 2 (.int .i64 auto))
   clear S5
   obtain ⟨f0, f1, f2⟩ := Bag.cs3 S6.out 1 rfl
   obtain rfl : k = N := by omega
   refine bodyPost_ret (v := .agg #[.string name, .slice A k C, .int .i64 auto]) (by simp [results, Tryz.results53, go_sem, *]) rfl ?_
   have hlen : k = ys.length := by have h1 := congrArg List.length HC.out; have := HN.out; simp at h1; omega
   have hcon : conI ys = conI xs := by rw [HC.out, List.take_of_length_le (by have := HN.out; simp; omega)]
   subst hlen
   have S90 := Lib.hid (Bag.bag_of_one S6.out 3 (r := rowI A C ys) rfl)
   have S91 := Lib.hid (Bag.bag_join S90.out 3 4 (by decide) rfl rfl)
   exact ⟨⟨name, A, C, ys, auto⟩, rfl, by unfold LS.con; rw [hcon], Bag.bag_from S91.out 3 rfl, S91.out.old⟩
end Go.Proofs.YthljdhfgphebnaaGreat.L6

namespace Go.Proofs.YthljdhfgphebnaaGreat.L10
open V L6 L9
open L4 (K isK cmpK)
open L5 (F isR isN string_geq)
open Go.Op (bytesLess)
open Go.ChangeShapes Go.WideShapes Go.ChangeAt Go.RowKit Mem Sl Ex L2 Sv Bag

theorem infoC_Op : ∃ i, Tryz.prog.info? 133 = some i ∧ i.zero = some (.agg #[.int .i64 0, .string ⟨#[]⟩, .int .i64 0, .int .i64 0, .string ⟨#[]⟩, .slice none 0 0, .string ⟨#[]⟩]) ∧ i.size = 7 ∧ i.bytes = 96 := Ex.infoOf _ _ _ _ (by kernel_rfl)
theorem infoC_Store : ∃ i, Tryz.prog.info? 70 = some i ∧ i.zero = some (.agg #[.string ⟨#[]⟩, .slice none 0 0, .int .i64 0]) ∧ i.size = 3 ∧ i.bytes = 48 := Ex.infoOf _ _ _ _ (by kernel_rfl)
theorem infoC_Tx : ∃ i, Tryz.prog.info? 89 = some i ∧ i.zero = some (.agg #[.int .i64 0, .slice none 0 0, .int .i64 0, .int .i64 0, .slice none 0 0]) ∧ i.size = 5 ∧ i.bytes = 72 := Ex.infoOf _ _ _ _ (by kernel_rfl)
def GaveOps (w : World) (l : List X_Op) (e : Ending) (w' : World) : Prop :=
 ∃ (a : Option Addr) (c : Nat) (ys : List Y_Op), e = .returned (.slice a ys.length c) ∧ coS_Op ys = l ∧ BagOwn w' w.heap.size (rs_Op a c ys) ∧ Below w.heap.size w w'
def GaveSts (w : World) (l : List S6) (e : Ending) (w' : World) : Prop :=
 ∃ (a : Option Addr) (c : Nat) (ys : List LS), e = .returned (.slice a ys.length c) ∧ coS_Store ys = l ∧ BagOwn w' w.heap.size (rs_Store a c ys) ∧ Below w.heap.size w w'
set_option maxHeartbeats 8000000 in
theorem l9Copy_any (a : Option Addr) (c : Nat) (os : List Y_Op) (hl : os.length ≤ 1048576) (hf : ∀ o ∈ coS_Op os, FitO o) (w : World) (hr : Reads w w.heap.size a (os.flatMap cl_Op)) (hx : RowsRd w w.heap.size (rws_Op os)) :
  Calls Tryz.prog 81 #[.slice a os.length c] w (GaveOps w (coS_Op os)) := by
 have HR := Lib.hid (fun w' (h : Below w.heap.size w w') => hr.below h)
 have HX := Lib.hid (fun w' (h : Below w.heap.size w w') => (hx.below h).more h.size)
 have HF := Lib.hid hf
 obtain ⟨N, hN⟩ : ∃ n, n = os.length := ⟨_, rfl⟩
 rw [← hN] at hl ⊢
 have hl' : (N : Int) ≤ 1048576 := by omega
 have HN := Lib.hid hN
 clear hN hr hx hf
 obtain ⟨iO, hi1, hi2, hi3, hi4⟩ := infoC_Op
 have HIO := Lib.hid (And.intro hi1 (And.intro hi2 (And.intro hi3 hi4)))
 clear hi1 hi2 hi3 hi4
 have S1 := Lib.hid (show Sl.Sep w w [] from Sl.Sep.start w)
 go_enter Tryz.func81, Tryz.ntmps81
 go_upto_region 2 with fail
 have S2 := Lib.hid (show Sl.Sep w _ [Sv.ownV 133 7 (some ⟨w.heap.size, 0, none⟩) 0 0 (([] : List Y_Op).flatMap cl_Op)] from Sv.push_own S1.out ((Below.refl _ _).alloc (Nat.le_refl _) _) (OwnV.madeAt w 133 7 0 w.heap.size #[] rfl (Nat.le_refl _) rfl (by decide)))
 clear S1
 obtain ⟨g1, hg⟩ : ∃ g', g' = w.heap.size := ⟨_, rfl⟩
 rw [← hg] at S2 ⊢
 clear hg
 generalize w.alloc (.cells #[] 133) = w1 at S2 ⊢
 have S3 := Lib.hid (show Sl.Sep w _ [Sv.ownV 133 7 (some ⟨g1, 0, none⟩) 0 0 (([] : List Y_Op).flatMap cl_Op), Bag.bag (rws_Op [])] from Bag.push_bag S2.out (Below.refl _ _) (Bag.BagOwn.nil _ _))
 clear S2
 go_wp2_with fail
 go_loopw [3, 4] (fun v i wr => ∃ (k : Nat) (A : Option Addr) (C : Nat) (ys : List Y_Op), k ≤ N ∧ i = .int .i64 k ∧ v = .slice A k C ∧ Hid ((coS_Op ys = (coS_Op os).take k ∧ ys.length = k) ∧ Sl.Sep w wr [Sv.ownV 133 7 A C k (ys.flatMap cl_Op), Bag.bag (rws_Op ys)])) (fun _ i _ => N - (intOf i).toNat)
 case atStart => exact ⟨0, _, _, [], Nat.zero_le _, rfl, rfl, And.intro ⟨rfl, rfl⟩ S3.out⟩
 case round =>
  obtain ⟨k, A, C, ys, hk, rfl, rfl, hrel⟩ := hrel
  have HCC := Lib.hid hrel.out.1
  have S40 := Lib.hid hrel.out.2
  clear hrel S3
  by_cases hlt : (k : Int) < (N : Int)
  ·
   skip
   have hkl : k < os.length := by have := HN.out; omega
   obtain ⟨x, hx⟩ : ∃ x, os[k]? = some x := ⟨_, List.getElem?_eq_getElem hkl⟩
   obtain ⟨oad, e'⟩ := el_some cl_Op_len (by decide) (HR.out _ S40.out.old) hkl
   subst e'
   have hro := fun w' (h : Below w.heap.size w w') => rdOs (HX.out w' h) hx
   have hrr := fun w' (h : Below w.heap.size w w') => rdO (rdOs (HX.out w' h) hx)
   obtain ⟨kd, st, ⟨kk, kn, kt⟩, ⟨ra, rc, rl⟩, fd⟩ := x
   have HK := Lib.hid (fun w' (h : Below w.heap.size w w') => el7 cl_Op_len (HR.out _ h) hx rfl)
   dsimp only at HK hrr
   have HRO := Lib.hid hro
   have HRR := Lib.hid hrr
   have HC := Lib.hid (show (coS_Op os)[k]? = some (⟨kd, st, ⟨kk, kn, kt⟩, rl, fd⟩ : X_Op) from coS_at hx)
   have HFO := Lib.hid (HF.out _ (List.mem_of_getElem? HC.out))
   clear hx hrr hro
   have HCP := Lib.hid (fun w' (h : Below w.heap.size w w') => L5.l5Copy_any ra rc rl (by have h9 := HFO.out.len; exact Nat.le_trans h9 (by decide)) w' (HRR.out w' h))
   have HTK := Lib.hid (V.take_next HC.out)
   have HFLY := Lib.hid (show (ys.flatMap cl_Op).length = k * 7 from by rw [V.flat_len cl_Op_len, HCC.out.2])
   obtain ⟨f0, f1, f2, f3, f4, f5, f6⟩ := HK.out _ S40.out.old
   go_upto_region 6 with fail
   clear f0 f1 f2 f3 f4 f5 f6
   have S41 := Lib.hid (show Sl.Sep w _ [_, _, _] from L4.push_box S40.out 133 #[.int .i64 kd, .string st, .int .i64 kk, .int .i64 kn, .string kt, .slice ra rl.length rc, .string fd] wr.heap.size rfl)
   clear S40
   obtain ⟨g2, hg⟩ : ∃ g', g' = wr.heap.size := ⟨_, rfl⟩
   rw [← hg] at S41 ⊢
   clear hg
   generalize wr.alloc (.cells #[.int .i64 kd, .string st, .int .i64 kk, .int .i64 kn, .string kt, .slice ra rl.length rc, .string fd] 133) = w2 at S41 ⊢
   obtain ⟨f0, f1, f2, f3, f4, f5, f6⟩ := Bag.cs7 S41.out 2 rfl
   obtain ⟨f7, f8, f9, f10, f11, f12, f13⟩ := HK.out _ S41.out.old
   go_wp2_with fail
   go_at_call 120
   refine (HCP.out _ S41.out.old).mono ?_
   rintro e w3 ⟨a1, c1, rfl, ho, hb⟩
   clear f0 f1 f2 f3 f4 f5 f6 f7 f8 f9 f10 f11 f12 f13
   have S42 := Lib.hid (show Sl.Sep w _ [_, _, L4.boxR g2 133 #[.int .i64 kd, .string st, .int .i64 kk, .int .i64 kn, .string kt, .slice ra rl.length rc, .string fd], Sv.ownV 184 2 a1 c1 rl.length (L5.cellsF rl)] from Sv.push_own S41.out hb ho)
   clear S41
   clear hb ho
   obtain ⟨f0, f1, f2, f3, f4, f5, f6⟩ := Bag.cs7 S42.out 2 rfl
   obtain ⟨f7, f8, f9, f10, f11, f12, f13⟩ := HK.out _ S42.out.old
   have z5 := Bag.free_at S42.out 2 rfl 5
   go_upto_region 7 with fail
   clear f0 f1 f2 f3 f4 f5 f6 f7 f8 f9 f10 f11 f12 f13 z5
   have S43 := Lib.hid (show Sl.Sep w _ [_, _, L4.boxR g2 133 #[.int .i64 kd, .string st, .int .i64 kk, .int .i64 kn, .string kt, .slice a1 rl.length c1, .string fd], _] from L5.put_box5 (S42.out) 2 rfl 5 (.slice a1 rl.length c1))
   clear S42
   generalize (w3.setCell ⟨g2, 5, none⟩ (.slice a1 rl.length c1)) = w4 at S43 ⊢
   obtain ⟨f0, f1, f2, f3, f4, f5, f6⟩ := Bag.cs7 S43.out 2 rfl
   have S44 := Lib.hid (show Sl.Sep w _ [_, _, _, _, Sv.ownV 133 7 (some ⟨w4.heap.size, 0, none⟩) 1 1 ([(⟨kd, st, ⟨kk, kn, kt⟩, ⟨a1, c1, rl⟩, fd⟩ : Y_Op)].flatMap cl_Op)] from Sv.push_own S43.out ((Below.refl _ _).alloc (Nat.le_refl _) _) (OwnV.madeAt w4 133 7 1 w4.heap.size #[.int .i64 kd, .string st, .int .i64 kk, .int .i64 kn, .string kt, .slice a1 rl.length c1, .string fd] rfl (Nat.le_refl _) rfl (by decide)))
   clear S43
   go_wp2_with (at_builtin; refine L5.wpList_append_v S44.out 0 rfl rfl _ _ 87 (by rfl) iO (.agg #[.int .i64 0, .string ⟨#[]⟩, .int .i64 0, .int .i64 0, .string ⟨#[]⟩, .slice none 0 0, .string ⟨#[]⟩]) 96 Tryz.underlying87 HIO.out.1 HIO.out.2.1 HIO.out.2.2.1 HIO.out.2.2.2 rfl (by omega) _ (by rfl) rfl _ _ 1 _ _ ([(⟨kd, st, ⟨kk, kn, kt⟩, ⟨a1, c1, rl⟩, fd⟩ : Y_Op)].flatMap cl_Op) (by rfl) rfl (Sv.own_at S44.out 4 rfl).reads rfl (V.one_flat cl_Op_one _) (by unfold maxLen; omega) (by omega) ?_; intro a3' c3' w5 hA)
   have S45 := Lib.hid (show Sl.Sep w _ [Sv.ownV 133 7 a3' c3' (k + 1) (ys.flatMap cl_Op ++ ([(⟨kd, st, ⟨kk, kn, kt⟩, ⟨a1, c1, rl⟩, fd⟩ : Y_Op)].flatMap cl_Op)), _, _, _, _] from hA)
   clear S44
   clear hA
   clear f0 f1 f2 f3 f4 f5 f6
   have S46 := Lib.hid (show Sl.Sep w _ [_, _, _, Bag.bag ([row_Field a1 c1 rl]), _] from Bag.bag_of_one S45.out 3 (r := row_Field a1 c1 rl) rfl)
   clear S45
   have S47 := Lib.hid (show Sl.Sep w _ [_, Bag.bag (rws_Op ys ++ ([row_Field a1 c1 rl])), _, Bag.bag ([]), _] from Bag.bag_join S46.out 1 3 (by decide) rfl rfl)
   clear S46
   have S48 := Lib.hid (show Sl.Sep w _ [_, _] from Bag.take S47.out [0, 1] (by rfl) (by decide))
   clear S47
   go_roundw
   case rel =>
    refine ⟨k + 1, a3', c3', ys ++ [(⟨kd, st, ⟨kk, kn, kt⟩, ⟨a1, c1, rl⟩, fd⟩ : Y_Op)], by omega, by go_num, rfl, And.intro ⟨?_, ?_⟩ ?_⟩
    ·
     rw [HTK.out, ← HCC.out.1, coS_Op_eq, coS_Op_eq, List.map_append]; rfl
    ·
     rw [List.length_append, HCC.out.2]; rfl
    ·
     rw [List.flatMap_append, rws_Op_app]; exact S48.out
   case measure => simp [intOf]; omega
  ·
   skip
   obtain rfl : k = N := by omega
   go_wp2_with fail
   go_ret
   have hc1 := HCC.out.1
   rw [List.take_of_length_le (show (coS_Op os).length ≤ k by rw [coS_len]; have := HN.out; omega)] at hc1
   have S90 := Lib.hid (Bag.bag_of_one S40.out 0 (r := row_Op A C ys) (by unfold RowS.res row_Op; dsimp only; rw [HCC.out.2]; rfl))
   have S91 := Lib.hid (Bag.bag_join S90.out 0 1 (by decide) rfl rfl)
   exact ⟨A, C, ys, by rw [HCC.out.2] <;> rfl, hc1, Bag.bag_from S91.out 0 rfl, S91.out.old⟩
set_option maxHeartbeats 8000000 in
theorem l10Stores_any (a : Option Addr) (c : Nat) (ss : List LS) (hl : ss.length ≤ 1048576) (hf : ∀ s ∈ coS_Store ss, FitS s) (w : World) (hr : Reads w w.heap.size a (ss.flatMap cl_Store)) (hx : RowsRd w w.heap.size (rws_Store ss)) :
  Calls Tryz.prog 82 #[.slice a ss.length c] w (GaveSts w (coS_Store ss)) := by
 have HR := Lib.hid (fun w' (h : Below w.heap.size w w') => hr.below h)
 have HX := Lib.hid (fun w' (h : Below w.heap.size w w') => (hx.below h).more h.size)
 have HF := Lib.hid hf
 obtain ⟨N, hN⟩ : ∃ n, n = ss.length := ⟨_, rfl⟩
 rw [← hN] at hl ⊢
 have hl' : (N : Int) ≤ 1048576 := by omega
 have HN := Lib.hid hN
 clear hN hr hx hf
 obtain ⟨iS, hi1, hi2, hi3, hi4⟩ := infoC_Store
 have HIS := Lib.hid (And.intro hi1 (And.intro hi2 (And.intro hi3 hi4)))
 clear hi1 hi2 hi3 hi4
 have S1 := Lib.hid (show Sl.Sep w w [] from Sl.Sep.start w)
 go_enter Tryz.func82, Tryz.ntmps82
 go_upto_region 2 with fail
 have S2 := Lib.hid (show Sl.Sep w _ [Sv.ownV 70 3 (some ⟨w.heap.size, 0, none⟩) 0 0 (([] : List LS).flatMap cl_Store)] from Sv.push_own S1.out ((Below.refl _ _).alloc (Nat.le_refl _) _) (OwnV.madeAt w 70 3 0 w.heap.size #[] rfl (Nat.le_refl _) rfl (by decide)))
 clear S1
 obtain ⟨g1, hg⟩ : ∃ g', g' = w.heap.size := ⟨_, rfl⟩
 rw [← hg] at S2 ⊢
 clear hg
 generalize w.alloc (.cells #[] 70) = w1 at S2 ⊢
 have S3 := Lib.hid (show Sl.Sep w _ [Sv.ownV 70 3 (some ⟨g1, 0, none⟩) 0 0 (([] : List LS).flatMap cl_Store), Bag.bag (rws_Store [])] from Bag.push_bag S2.out (Below.refl _ _) (Bag.BagOwn.nil _ _))
 clear S2
 go_wp2_with fail
 go_loopw [3, 4] (fun v i wr => ∃ (k : Nat) (A : Option Addr) (C : Nat) (ys : List LS), k ≤ N ∧ i = .int .i64 k ∧ v = .slice A k C ∧ Hid ((coS_Store ys = (coS_Store ss).take k ∧ ys.length = k) ∧ Sl.Sep w wr [Sv.ownV 70 3 A C k (ys.flatMap cl_Store), Bag.bag (rws_Store ys)])) (fun _ i _ => N - (intOf i).toNat)
 case atStart => exact ⟨0, _, _, [], Nat.zero_le _, rfl, rfl, And.intro ⟨rfl, rfl⟩ S3.out⟩
 case round =>
  obtain ⟨k, A, C, ys, hk, rfl, rfl, hrel⟩ := hrel
  have HCC := Lib.hid hrel.out.1
  have S40 := Lib.hid hrel.out.2
  clear hrel S3
  by_cases hlt : (k : Int) < (N : Int)
  ·
   skip
   have hkl : k < ss.length := by have := HN.out; omega
   obtain ⟨x, hx⟩ : ∃ x, ss[k]? = some x := ⟨_, List.getElem?_eq_getElem hkl⟩
   obtain ⟨sad, e'⟩ := el_some cl_Store_len (by decide) (HR.out _ S40.out.old) hkl
   subst e'
   have HKx := Lib.hid (fun w' (h : Below w.heap.size w w') => el3 cl_Store_len (HR.out _ h) hx rfl)
   have HCx := Lib.hid (show (coS_Store ss)[k]? = some x.con from by rw [coS_Store_eq, List.getElem?_map, hx]; rfl)
   have HCI := Lib.hid (fun w' (h : Below w.heap.size w w') => l6Copy_any x (HF.out _ (List.mem_of_getElem? HCx.out)) w' (rd_el (rw_ := rw_Store) (HX.out w' h) hx))
   dsimp only [LS.v, LS.cells] at HCI
   have HTK := Lib.hid (V.take_next HCx.out)
   have HFLY := Lib.hid (show (ys.flatMap cl_Store).length = k * 3 from by rw [V.flat_len cl_Store_len, HCC.out.2])
   clear hx
   obtain ⟨f0, f1, f2⟩ := HKx.out _ S40.out.old
   go_wp2_with fail
   go_at_call 53
   refine (HCI.out _ S40.out.old).mono ?_
   rintro e w2 ⟨y, rfl, hcy, ho, hb⟩
   clear f0 f1 f2
   have S41 := Lib.hid (show Sl.Sep w _ [Sv.ownV 70 3 A C k (ys.flatMap cl_Store), Bag.bag (rws_Store ys), Bag.bag (LS.rows y)] from Bag.push_bag S40.out hb ho)
   clear S40
   clear hb ho
   have HCY := Lib.hid hcy
   clear hcy
   dsimp only [LS.v, LS.cells]
   have S42 := Lib.hid (show Sl.Sep w _ [_, _, _, Sv.ownV 70 3 (some ⟨w2.heap.size, 0, none⟩) 1 1 ([y].flatMap cl_Store)] from Sv.push_own S41.out ((Below.refl _ _).alloc (Nat.le_refl _) _) (OwnV.madeAt w2 70 3 1 w2.heap.size #[.string y.name, .slice y.a y.xs.length y.c, .int .i64 y.auto] rfl (Nat.le_refl _) rfl (by decide)))
   clear S41
   go_wp2_with (at_builtin; refine L5.wpList_append_v S42.out 0 rfl rfl _ _ 30 (by rfl) iS (.agg #[.string ⟨#[]⟩, .slice none 0 0, .int .i64 0]) 48 Tryz.underlying30 HIS.out.1 HIS.out.2.1 HIS.out.2.2.1 HIS.out.2.2.2 rfl (by omega) _ (by rfl) rfl _ _ 1 _ _ ([y].flatMap cl_Store) (by rfl) rfl (Sv.own_at S42.out 3 rfl).reads rfl (V.one_flat cl_Store_one _) (by unfold maxLen; omega) (by omega) ?_; intro a2' c2' w3 hA)
   have S43 := Lib.hid (show Sl.Sep w _ [Sv.ownV 70 3 a2' c2' (k + 1) (ys.flatMap cl_Store ++ ([y].flatMap cl_Store)), _, _, _] from hA)
   clear S42
   clear hA
   have S44 := Lib.hid (show Sl.Sep w _ [_, Bag.bag (rws_Store ys ++ (LS.rows y)), Bag.bag ([]), _] from Bag.bag_join S43.out 1 2 (by decide) rfl rfl)
   clear S43
   have S45 := Lib.hid (show Sl.Sep w _ [_, _] from Bag.take S44.out [0, 1] (by rfl) (by decide))
   clear S44
   go_roundw
   case rel =>
    refine ⟨k + 1, a2', c2', ys ++ [y], by omega, by go_num, rfl, And.intro ⟨?_, ?_⟩ ?_⟩
    ·
     rw [HTK.out, ← HCC.out.1, coS_Store_eq, coS_Store_eq, List.map_append, ← HCY.out]; rfl
    ·
     rw [List.length_append, HCC.out.2]; rfl
    ·
     rw [List.flatMap_append, rws_Store_app, show rws_Store [y] = LS.rows y from by rw [rws_Store_eq]; simp; rfl]; exact S45.out
   case measure => simp [intOf]; omega
  ·
   skip
   obtain rfl : k = N := by omega
   go_wp2_with fail
   go_ret
   have hc1 := HCC.out.1
   rw [List.take_of_length_le (show (coS_Store ss).length ≤ k by rw [coS_Store_eq, List.length_map]; have := HN.out; omega)] at hc1
   have S90 := Lib.hid (Bag.bag_of_one S40.out 0 (r := row_Store A C ys) (by unfold RowS.res row_Store; dsimp only; rw [HCC.out.2]; rfl))
   have S91 := Lib.hid (Bag.bag_join S90.out 0 1 (by decide) rfl rfl)
   exact ⟨A, C, ys, by rw [HCC.out.2] <;> rfl, hc1, Bag.bag_from S91.out 0 rfl, S91.out.old⟩
def GaveQ (w : World) (l : List X_Tx) (e : Ending) (w' : World) : Prop :=
 ∃ (a : Option Addr) (c : Nat) (ys : List Y_Tx), e = .returned (.agg #[.slice a ys.length c]) ∧ coS_Tx ys = l ∧ BagOwn w' w.heap.size (rs_Tx a c ys) ∧ Below w.heap.size w w'
set_option maxHeartbeats 8000000 in
theorem l10Copy_any (a : Option Addr) (c : Nat) (ts : List Y_Tx) (hl : ts.length ≤ 1048576) (hf : ∀ t ∈ coS_Tx ts, FitT t) (w : World) (hr : Reads w w.heap.size a (ts.flatMap cl_Tx)) (hx : RowsRd w w.heap.size (rws_Tx ts)) :
  Calls Tryz.prog 50 #[.agg #[.slice a ts.length c]] w (GaveQ w (coS_Tx ts)) := by
 have HR := Lib.hid (fun w' (h : Below w.heap.size w w') => hr.below h)
 have HX := Lib.hid (fun w' (h : Below w.heap.size w w') => (hx.below h).more h.size)
 have HF := Lib.hid hf
 obtain ⟨N, hN⟩ : ∃ n, n = ts.length := ⟨_, rfl⟩
 rw [← hN] at hl ⊢
 have hl' : (N : Int) ≤ 1048576 := by omega
 have HN := Lib.hid hN
 clear hN hr hx hf
 obtain ⟨iX9, hi1, hi2, hi3, hi4⟩ := infoC_Tx
 have HIX9 := Lib.hid (And.intro hi1 (And.intro hi2 (And.intro hi3 hi4)))
 clear hi1 hi2 hi3 hi4
 have S1 := Lib.hid (show Sl.Sep w _ [_, _] from L4.push_box (L4.push_box (Sl.Sep.start w) 56 #[.slice a N c] (w.heap.size) (by simp)) 56 #[.slice none 0 0] (w.heap.size + 1) (by simp))
 obtain ⟨wa, hwa⟩ : ∃ w_, w_ = ((w.alloc (.cells #[.slice a N c] 56)).alloc (.cells #[.slice none 0 0] 56)) := ⟨_, rfl⟩
 rw [← hwa] at S1
 go_enter Tryz.func50, Tryz.ntmps50
 go_upto_region 1 with fail
 rw [← hwa]
 clear hwa
 go_upto_region 2 with fail
 have S2 := Lib.hid (show Sl.Sep w _ [_, _, _] from L4.push_box S1.out 56 #[.slice none 0 0] wa.heap.size rfl)
 clear S1
 obtain ⟨g1, hg⟩ : ∃ g', g' = wa.heap.size := ⟨_, rfl⟩
 rw [← hg] at S2 ⊢
 clear hg
 generalize wa.alloc (.cells #[.slice none 0 0] 56) = w1 at S2 ⊢
 have S3 := Lib.hid (show Sl.Sep w _ [_, _, L4.boxR g1 56 #[.slice none 0 0], Sv.ownV 89 5 none 0 0 (([] : List Y_Tx).flatMap cl_Tx)] from Sv.push_own S2.out (Below.refl _ _) (OwnV.nil _ _ _ _))
 clear S2
 have S4 := Lib.hid (show Sl.Sep w _ [_, _, _, _, Bag.bag (rws_Tx [])] from Bag.push_bag S3.out (Below.refl _ _) (Bag.BagOwn.nil _ _))
 clear S3
 go_wp2_with fail
 go_loopw [4] (fun i wr => ∃ (k : Nat) (A : Option Addr) (C : Nat) (ys : List Y_Tx), k ≤ N ∧ i = .int .i64 k ∧ Hid ((coS_Tx ys = (coS_Tx ts).take k ∧ ys.length = k) ∧ Sl.Sep w wr [L4.boxR w.heap.size 56 #[.slice a N c], L4.boxR (w.heap.size + 1) 56 #[.slice none 0 0], L4.boxR g1 56 #[.slice A k C], Sv.ownV 89 5 A C k (ys.flatMap cl_Tx), Bag.bag (rws_Tx ys)])) (fun i _ => N - (intOf i).toNat)
 case atStart => exact ⟨0, none, 0, [], Nat.zero_le _, rfl, And.intro ⟨rfl, rfl⟩ S4.out⟩
 case round =>
  obtain ⟨k, A, C, ys, hk, rfl, hrel⟩ := hrel
  have HCC := Lib.hid hrel.out.1
  have S40 := Lib.hid hrel.out.2
  clear hrel S4
  by_cases hlt : (k : Int) < (N : Int)
  ·
   skip
   have hkl : k < ts.length := by have := HN.out; omega
   obtain ⟨x, hx⟩ : ∃ x, ts[k]? = some x := ⟨_, List.getElem?_eq_getElem hkl⟩
   obtain ⟨tad, e'⟩ := el_some cl_Tx_len (by decide) (HR.out _ S40.out.old) hkl
   subst e'
   have HKx := Lib.hid (fun w' (h : Below w.heap.size w w') => el5 cl_Tx_len (HR.out _ h) hx rfl)
   have HRx := Lib.hid (fun w' (h : Below w.heap.size w w') => rdTs (HX.out w' h) hx)
   have HCx := Lib.hid (coT_at hx)
   have HFx := Lib.hid (HF.out _ (List.mem_of_getElem? HCx.out))
   clear hx
   have HCO := Lib.hid (fun w' (h : Below w.heap.size w w') => l9Copy_any x.f_Ops_a x.f_Ops_c x.f_Ops (by have h := HFx.out.len; rwa [show (co_Tx x).f_Ops = coS_Op x.f_Ops from rfl, coS_len] at h) HFx.out.ops w' (rdTo (HRx.out w' h)) (rdTox (HRx.out w' h)))
   have HCB := Lib.hid (fun w' (h : Below w.heap.size w w') => l10Stores_any x.f_Backup_a x.f_Backup_c x.f_Backup (by have h := HFx.out.blen; rwa [show (co_Tx x).f_Backup = coS_Store x.f_Backup from rfl, coS_Store_eq, List.length_map] at h) HFx.out.back w' (rdTb (HRx.out w' h)) (rdTbx (HRx.out w' h)))
   have HTK := Lib.hid (V.take_next HCx.out)
   have HFLY := Lib.hid (show (ys.flatMap cl_Tx).length = k * 5 from by rw [V.flat_len cl_Tx_len, HCC.out.2])
   have f0 := Bag.cs1 S40.out 0 rfl
   have f1 := Bag.cs1 S40.out 1 rfl
   have f2 := Bag.cs1 S40.out 2 rfl
   obtain ⟨f3, f4, f5, f6, f7⟩ := HKx.out _ S40.out.old
   go_upto_region 6 with fail
   clear f0 f1 f2 f3 f4 f5 f6 f7
   have S41 := Lib.hid (show Sl.Sep w _ [_, _, _, _, _, _] from L4.push_box S40.out 89 #[.int .i64 x.f_Id, .slice x.f_Ops_a x.f_Ops.length x.f_Ops_c, .int .i64 x.f_At, .int .i64 x.f_State, .slice x.f_Backup_a x.f_Backup.length x.f_Backup_c] wr.heap.size rfl)
   clear S40
   obtain ⟨g2, hg⟩ : ∃ g', g' = wr.heap.size := ⟨_, rfl⟩
   rw [← hg] at S41 ⊢
   clear hg
   generalize wr.alloc (.cells #[.int .i64 x.f_Id, .slice x.f_Ops_a x.f_Ops.length x.f_Ops_c, .int .i64 x.f_At, .int .i64 x.f_State, .slice x.f_Backup_a x.f_Backup.length x.f_Backup_c] 89) = w2 at S41 ⊢
   have f0 := Bag.cs1 S41.out 0 rfl
   have f1 := Bag.cs1 S41.out 1 rfl
   have f2 := Bag.cs1 S41.out 2 rfl
   obtain ⟨f3, f4, f5, f6, f7⟩ := Bag.cs5 S41.out 5 rfl
   obtain ⟨f8, f9, f10, f11, f12⟩ := HKx.out _ S41.out.old
   go_wp2_with fail
   go_at_call 81
   refine (HCO.out _ S41.out.old).mono ?_
   rintro e w3 ⟨oa, oc, ol, rfl, hco, ho, hb⟩
   clear f0 f1 f2 f3 f4 f5 f6 f7 f8 f9 f10 f11 f12
   have S42 := Lib.hid (show Sl.Sep w _ [_, _, _, _, _, L4.boxR g2 89 #[.int .i64 x.f_Id, .slice x.f_Ops_a x.f_Ops.length x.f_Ops_c, .int .i64 x.f_At, .int .i64 x.f_State, .slice x.f_Backup_a x.f_Backup.length x.f_Backup_c], Bag.bag (rs_Op oa oc ol)] from Bag.push_bag S41.out hb ho)
   clear S41
   clear hb ho
   have HCo := Lib.hid hco
   clear hco
   have f0 := Bag.cs1 S42.out 0 rfl
   obtain ⟨f1, f2, f3, f4, f5⟩ := Bag.cs5 S42.out 5 rfl
   obtain ⟨f6, f7, f8, f9, f10⟩ := HKx.out _ S42.out.old
   have z1 := Bag.free_at S42.out 5 rfl 1
   go_upto_region 7 with fail
   clear f0 f1 f2 f3 f4 f5 f6 f7 f8 f9 f10 z1
   have S43 := Lib.hid (show Sl.Sep w _ [_, _, _, _, _, L4.boxR g2 89 #[.int .i64 x.f_Id, .slice oa ol.length oc, .int .i64 x.f_At, .int .i64 x.f_State, .slice x.f_Backup_a x.f_Backup.length x.f_Backup_c], _] from L5.put_box5 (S42.out) 5 rfl 1 (.slice oa ol.length oc))
   clear S42
   generalize (w3.setCell ⟨g2, 1, none⟩ (.slice oa ol.length oc)) = w4 at S43 ⊢
   have f0 := Bag.cs1 S43.out 0 rfl
   have f1 := Bag.cs1 S43.out 1 rfl
   have f2 := Bag.cs1 S43.out 2 rfl
   obtain ⟨f3, f4, f5, f6, f7⟩ := Bag.cs5 S43.out 5 rfl
   obtain ⟨f8, f9, f10, f11, f12⟩ := HKx.out _ S43.out.old
   go_wp2_with fail
   go_at_call 82
   refine (HCB.out _ S43.out.old).mono ?_
   rintro e w5 ⟨ba, bc, bl, rfl, hcb, ho, hb⟩
   clear f0 f1 f2 f3 f4 f5 f6 f7 f8 f9 f10 f11 f12
   have S44 := Lib.hid (show Sl.Sep w _ [_, _, _, _, _, _, _, Bag.bag (rs_Store ba bc bl)] from Bag.push_bag S43.out hb ho)
   clear S43
   clear hb ho
   have HCb := Lib.hid hcb
   clear hcb
   have f0 := Bag.cs1 S44.out 0 rfl
   obtain ⟨f1, f2, f3, f4, f5⟩ := Bag.cs5 S44.out 5 rfl
   obtain ⟨f6, f7, f8, f9, f10⟩ := HKx.out _ S44.out.old
   have z4 := Bag.free_at S44.out 5 rfl 4
   go_upto_region 8 with fail
   clear f0 f1 f2 f3 f4 f5 f6 f7 f8 f9 f10 z4
   have S45 := Lib.hid (show Sl.Sep w _ [_, _, _, _, _, L4.boxR g2 89 #[.int .i64 x.f_Id, .slice oa ol.length oc, .int .i64 x.f_At, .int .i64 x.f_State, .slice ba bl.length bc], _, _] from L5.put_box5 (S44.out) 5 rfl 4 (.slice ba bl.length bc))
   clear S44
   generalize (w5.setCell ⟨g2, 4, none⟩ (.slice ba bl.length bc)) = w6 at S45 ⊢
   have f0 := Bag.cs1 S45.out 0 rfl
   have f1 := Bag.cs1 S45.out 1 rfl
   have f2 := Bag.cs1 S45.out 2 rfl
   obtain ⟨f3, f4, f5, f6, f7⟩ := Bag.cs5 S45.out 5 rfl
   obtain ⟨f8, f9, f10, f11, f12⟩ := HKx.out _ S45.out.old
   clear f0 f1 f2 f3 f4 f5 f6 f7 f8 f9 f10 f11 f12
   have f0 := Bag.cs1 S45.out 0 rfl
   have f1 := Bag.cs1 S45.out 2 rfl
   obtain ⟨f2, f3, f4, f5, f6⟩ := Bag.cs5 S45.out 5 rfl
   have S46 := Lib.hid (show Sl.Sep w _ [_, _, _, _, _, _, _, _, Sv.ownV 89 5 (some ⟨w6.heap.size, 0, none⟩) 1 1 ([(⟨x.f_Id, oa, oc, ol, x.f_At, x.f_State, ba, bc, bl⟩ : Y_Tx)].flatMap cl_Tx)] from Sv.push_own S45.out ((Below.refl _ _).alloc (Nat.le_refl _) _) (OwnV.madeAt w6 89 5 1 w6.heap.size #[.int .i64 x.f_Id, .slice oa ol.length oc, .int .i64 x.f_At, .int .i64 x.f_State, .slice ba bl.length bc] rfl (Nat.le_refl _) rfl (by decide)))
   clear S45
   go_wp2_with (at_builtin; refine L5.wpList_append_v S46.out 3 rfl rfl _ _ 54 (by rfl) iX9 (.agg #[.int .i64 0, .slice none 0 0, .int .i64 0, .int .i64 0, .slice none 0 0]) 72 Tryz.underlying54 HIX9.out.1 HIX9.out.2.1 HIX9.out.2.2.1 HIX9.out.2.2.2 rfl (by omega) _ (by rfl) rfl _ _ 1 _ _ ([(⟨x.f_Id, oa, oc, ol, x.f_At, x.f_State, ba, bc, bl⟩ : Y_Tx)].flatMap cl_Tx) (by rfl) rfl (Sv.own_at S46.out 8 rfl).reads rfl (V.one_flat cl_Tx_one _) (by unfold maxLen; omega) (by omega) ?_; intro a3' c3' w7 hA; have f90 := Bag.cell_at hA 2 rfl 0 rfl; have z90 := Bag.free_at hA 2 rfl 0)
   have S47 := Lib.hid (show Sl.Sep w _ [_, _, _, Sv.ownV 89 5 a3' c3' (k + 1) (ys.flatMap cl_Tx ++ ([(⟨x.f_Id, oa, oc, ol, x.f_At, x.f_State, ba, bc, bl⟩ : Y_Tx)].flatMap cl_Tx)), _, _, _, _, _] from hA)
   clear S46
   clear hA
   clear f0 f1 f2 f3 f4 f5 f6
   have S48 := Lib.hid (show Sl.Sep w _ [_, _, L4.boxR g1 56 #[.slice a3' (k + 1) c3'], _, _, _, _, _, _] from L5.put_box5 (S47.out) 2 rfl 0 (.slice a3' (k + 1) c3'))
   clear S47
   have S49 := Lib.hid (show Sl.Sep w _ [_, _, _, _, Bag.bag (rws_Tx ys ++ (rs_Op oa oc ol)), _, Bag.bag ([]), _, _] from Bag.bag_join S48.out 4 6 (by decide) rfl rfl)
   clear S48
   have S50 := Lib.hid (show Sl.Sep w _ [_, _, _, _, Bag.bag (rws_Tx ys ++ (rs_Op oa oc ol) ++ (rs_Store ba bc bl)), _, Bag.bag ([]), Bag.bag ([]), _] from Bag.bag_join S49.out 4 7 (by decide) rfl rfl)
   clear S49
   have S51 := Lib.hid (show Sl.Sep w _ [_, _, _, _, _] from Bag.take S50.out [0, 1, 2, 3, 4] (by rfl) (by decide))
   clear S50
   go_roundw
   case rel =>
    refine ⟨k + 1, a3', c3', ys ++ [(⟨x.f_Id, oa, oc, ol, x.f_At, x.f_State, ba, bc, bl⟩ : Y_Tx)], by omega, by go_num, And.intro ⟨?_, ?_⟩ ?_⟩
    ·
     rw [HTK.out, ← HCC.out.1, coS_Tx_eq, coS_Tx_eq, List.map_append]; exact congrArg (fun u => _ ++ [u]) (by unfold co_Tx; dsimp only; rw [HCo.out, HCb.out])
    ·
     rw [List.length_append, HCC.out.2]; rfl
    ·
     rw [List.flatMap_append, rws_Tx_app, show rws_Tx [(⟨x.f_Id, oa, oc, ol, x.f_At, x.f_State, ba, bc, bl⟩ : Y_Tx)] = rs_Op oa oc ol ++ rs_Store ba bc bl from by rw [rws_Tx_eq]; simp; rfl, ← List.append_assoc]; exact S51.out
   case measure => simp [intOf]; omega
  ·
   skip
   obtain rfl : k = N := by omega
   have f0 := Bag.cs1 S40.out 0 rfl
   have f1 := Bag.cs1 S40.out 1 rfl
   have f2 := Bag.cs1 S40.out 2 rfl
   have z0 := Bag.free_at S40.out 1 rfl 0
   go_wp2_with fail
   clear f0 f1 f2 z0
   have S41 := Lib.hid (show Sl.Sep w _ [L4.boxR w.heap.size 56 #[.slice a k c], L4.boxR (w.heap.size + 1) 56 #[.slice A k C], L4.boxR g1 56 #[.slice A k C], Sv.ownV 89 5 A C k (ys.flatMap cl_Tx), Bag.bag (rws_Tx ys)] from L5.put_box5 (S40.out) 1 rfl 0 (.slice A k C))
   clear S40
   have f0 := Bag.cs1 S41.out 1 rfl
   refine bodyPost_ret (v := .agg #[.slice A k C]) (by simp [results, Tryz.results50, go_sem, *]) rfl ?_
   clear f0
   have hc1 := HCC.out.1
   rw [List.take_of_length_le (show (coS_Tx ts).length ≤ k by rw [coT_len]; have := HN.out; omega)] at hc1
   have S90 := Lib.hid (Bag.bag_of_one S41.out 3 (r := row_Tx A C ys) (by unfold RowS.res row_Tx; dsimp only; rw [HCC.out.2]; rfl))
   have S91 := Lib.hid (Bag.bag_join S90.out 3 4 (by decide) rfl rfl)
   exact ⟨A, C, ys, by rw [HCC.out.2] <;> rfl, hc1, Bag.bag_from S91.out 3 rfl, S91.out.old⟩
end Go.Proofs.YthljdhfgphebnaaGreat.L10

namespace Go.Proofs.YthljdhfgphebnaaGreat.L7
open L4 (K isK cmpK R inR encU)
open L5 (F isR isN cellsF encR eqR Small getO getN getB)
open L6
open Go.ChangeShapes Go.WideShapes Go.ChangeAt Go.RowKit Mem Sl Ex L2 Sv Bag

structure FitC (x : Cu) : Prop where
 lo : x.r.lo.text.size ≤ 281474976710656
 hi : x.r.hi.text.size ≤ 281474976710656
 at_ : x.k.text.size ≤ 281474976710656

end Go.Proofs.YthljdhfgphebnaaGreat.L7

