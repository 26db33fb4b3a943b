/-
  What the law FnExactEqualQueues needs, laid by my program lawpack.py, part 2: the texts VTx, VTxQueue, L10Num, VzOp, L9Fw, L10Fw, L9Sb, L6Sa, L6Sb, L6Sc, L10Sb, L5Ihe, L9Ib, L6Ih, L10Ib, one behind the other; each begins with its own words.
-/
import Derived.Test.YtojcdmgcbgpdmaaFnExactEqualQueuesP1
set_option linter.unusedSimpArgs false
set_option linter.unusedVariables false
set_option maxRecDepth 100000
set_option linter.unusedSimpArgs false
namespace Go.Proofs.Ytojcdmgcbgpdmaa.V
open Go.ChangeShapes Go.WideShapes Go.ChangeAt Go.RowKit Mem Sl Sv Bag
open L5 (markT)
structure X_Tx where
 f_Id : Int
 f_Ops : List X_Op
 f_At : Int
 f_State : Int
 f_Backup : List L6.S6
structure Y_Tx where
 f_Id : Int
 f_Ops_a : Option Addr
 f_Ops_c : Nat
 f_Ops : List Y_Op
 f_At : Int
 f_State : Int
 f_Backup_a : Option Addr
 f_Backup_c : Nat
 f_Backup : List L6.LS
def co_Tx (z : Y_Tx) : X_Tx := ⟨z.f_Id, coS_Op z.f_Ops, z.f_At, z.f_State, coS_Store z.f_Backup⟩
def coS_Tx (xs : List Y_Tx) : List X_Tx := xs.map co_Tx
theorem coS_Tx_eq (xs : List Y_Tx) : coS_Tx xs = xs.map co_Tx := rfl
def cl_Tx (z : Y_Tx) : List Value := [.int .i64 z.f_Id, .slice z.f_Ops_a z.f_Ops.length z.f_Ops_c, .int .i64 z.f_At, .int .i64 z.f_State, .slice z.f_Backup_a z.f_Backup.length z.f_Backup_c]
def vv_Tx (z : Y_Tx) : Value := .agg #[.int .i64 z.f_Id, .slice z.f_Ops_a z.f_Ops.length z.f_Ops_c, .int .i64 z.f_At, .int .i64 z.f_State, .slice z.f_Backup_a z.f_Backup.length z.f_Backup_c]
def rw_Tx (z : Y_Tx) : List RowS := rs_Op z.f_Ops_a z.f_Ops_c z.f_Ops ++ (rs_Store z.f_Backup_a z.f_Backup_c z.f_Backup)
def wt_Tx (c : X_Tx) : Nat := wsum wt_Op c.f_Ops + (wsum wt_Store c.f_Backup)
theorem wt_Tx_parts (z : Y_Tx) : wt_Tx (co_Tx z) = wsum wt_Op (coS_Op z.f_Ops) + (wsum wt_Store (coS_Store z.f_Backup)) := rfl
theorem cl_Tx_len (z : Y_Tx) : (cl_Tx z).length = 5 := rfl
def row_Tx (a : Option Addr) (c : Nat) (xs : List Y_Tx) : RowS := ⟨161, 5, a, c, xs.length, xs.flatMap cl_Tx⟩
def rws_Tx (xs : List Y_Tx) : List RowS := xs.flatMap rw_Tx
theorem rws_Tx_eq (xs : List Y_Tx) : rws_Tx xs = xs.flatMap rw_Tx := rfl
def rs_Tx (a : Option Addr) (c : Nat) (xs : List Y_Tx) : List RowS := row_Tx a c xs :: rws_Tx xs
theorem rws_Tx_app (xs ys : List Y_Tx) : rws_Tx (xs ++ ys) = rws_Tx xs ++ rws_Tx ys := by rw [rws_Tx_eq, rws_Tx_eq, rws_Tx_eq, List.flatMap_append]
def Wide_Tx (z : Y_Tx) : Prop := (-9223372036854775808 ≤ z.f_Id ∧ z.f_Id ≤ 9223372036854775807) ∧ (z.f_Ops.length ≤ maxLen ∧ ∀ x ∈ z.f_Ops, Wide_Op x) ∧ (-9223372036854775808 ≤ z.f_At ∧ z.f_At ≤ 9223372036854775807) ∧ (-9223372036854775808 ≤ z.f_State ∧ z.f_State ≤ 9223372036854775807) ∧ (z.f_Backup.length ≤ maxLen ∧ ∀ x ∈ z.f_Backup, Wide_Store x)
section
variable {H : Type} {enc : TypeId × Value → H} {W : World} {b : Nat} {sp : Nat → Bool} {hd : Bool}
theorem trod_Tx {fuel : Nat} {cs : List Value} {x : DataW H × List MemPlace} (h : DataW.trod enc Try.prog W b sp hd fuel 211 cs = some x) (hlt : ∀ p ∈ x.2, p.block < W.heap.size) : ∃ z : Y_Tx, cs = cl_Tx z ∧ RowsRd W W.heap.size (rw_Tx z) ∧ Wide_Tx z := by
 obtain ⟨xs, n, _, hx, hl, hlen, hf⟩ := DataW.trod_struct Try.underlying211 h
 have hlN : cs.length = 5 := hl.trans (by kernel_rfl)
 match cs, hlN with
 | [c0, c1, c2, c3, c4], _ =>
  have h0 : DataW.trod enc Try.prog W b sp hd n 3 (List.take (Try.prog.cellsOf 3) (List.drop 0 [c0, c1, c2, c3, c4])) = xs[0]? := hf 0 _ rfl
  rw [show Try.prog.cellsOf 3 = 1 by kernel_rfl, List.getElem?_eq_getElem (by rw [hlen]; decide)] at h0
  obtain ⟨x0, e0, _, w0⟩ := DataW.trod_int Try.underlying3 h0
  have h1 : DataW.trod enc Try.prog W b sp hd n 78 (List.take (Try.prog.cellsOf 78) (List.drop 1 [c0, c1, c2, c3, c4])) = xs[1]? := hf 1 _ rfl
  rw [show Try.prog.cellsOf 78 = 1 by kernel_rfl, List.getElem?_eq_getElem (by rw [hlen]; decide)] at h1
  obtain ⟨a1, x1, c1', e1, r1, v1, l1, w1⟩ := trods_Op h1 (fun p hp => hlt p (by rw [hx]; exact List.mem_flatMap.2 ⟨_, List.getElem_mem (show 1 < xs.length by rw [hlen]; decide), hp⟩))
  have h2 : DataW.trod enc Try.prog W b sp hd n 3 (List.take (Try.prog.cellsOf 3) (List.drop 2 [c0, c1, c2, c3, c4])) = xs[2]? := hf 2 _ rfl
  rw [show Try.prog.cellsOf 3 = 1 by kernel_rfl, List.getElem?_eq_getElem (by rw [hlen]; decide)] at h2
  obtain ⟨x2, e2, _, w2⟩ := DataW.trod_int Try.underlying3 h2
  have h3 : DataW.trod enc Try.prog W b sp hd n 3 (List.take (Try.prog.cellsOf 3) (List.drop 3 [c0, c1, c2, c3, c4])) = xs[3]? := hf 3 _ rfl
  rw [show Try.prog.cellsOf 3 = 1 by kernel_rfl, List.getElem?_eq_getElem (by rw [hlen]; decide)] at h3
  obtain ⟨x3, e3, _, w3⟩ := DataW.trod_int Try.underlying3 h3
  have h4 : DataW.trod enc Try.prog W b sp hd n 209 (List.take (Try.prog.cellsOf 209) (List.drop 4 [c0, c1, c2, c3, c4])) = xs[4]? := hf 4 _ rfl
  rw [show Try.prog.cellsOf 209 = 1 by kernel_rfl, List.getElem?_eq_getElem (by rw [hlen]; decide)] at h4
  obtain ⟨a4, x4, c4', e4, r4, v4, l4, w4⟩ := trods_Store h4 (fun p hp => hlt p (by rw [hx]; exact List.mem_flatMap.2 ⟨_, List.getElem_mem (show 4 < xs.length by rw [hlen]; decide), hp⟩))
  simp only [List.drop_succ_cons, List.drop_zero, List.take_succ_cons, List.take_zero, List.cons.injEq, and_true] at e0
  subst e0
  simp only [List.drop_succ_cons, List.drop_zero, List.take_succ_cons, List.take_zero, List.cons.injEq, and_true] at e1
  subst e1
  simp only [List.drop_succ_cons, List.drop_zero, List.take_succ_cons, List.take_zero, List.cons.injEq, and_true] at e2
  subst e2
  simp only [List.drop_succ_cons, List.drop_zero, List.take_succ_cons, List.take_zero, List.cons.injEq, and_true] at e3
  subst e3
  simp only [List.drop_succ_cons, List.drop_zero, List.take_succ_cons, List.take_zero, List.cons.injEq, and_true] at e4
  subst e4
  exact ⟨⟨x0, a1, c1', x1, x2, x3, a4, c4', x4⟩, rfl, rd_app (rd_cons ⟨r1.1, r1.2.1, r1.2.2⟩ (by rw [rws_Op_eq]; exact v1)) (rd_cons ⟨r4.1, r4.2.1, r4.2.2⟩ (by rw [rws_Store_eq]; exact v4)), ⟨Law.wf_i64 w0, ⟨l1, w1⟩, Law.wf_i64 w2, Law.wf_i64 w3, ⟨l4, w4⟩⟩⟩
theorem trods_Tx {fuel : Nat} {cs : List Value} {x : DataW H × List MemPlace} (h : DataW.trod enc Try.prog W b sp hd fuel 92 cs = some x) (hlt : ∀ p ∈ x.2, p.block < W.heap.size) :
  ∃ (a : Option Addr) (xs : List Y_Tx) (c : Nat), cs = [.slice a xs.length c] ∧ (Reads W W.heap.size a (xs.flatMap cl_Tx) ∧ xs.length ≤ c ∧ (a = none → c = 0)) ∧ RowsRd W W.heap.size (xs.flatMap rw_Tx) ∧ xs.length ≤ maxLen ∧ ∀ z ∈ xs, Wide_Tx z :=
 trods cl_Tx 5 cl_Tx_len (by decide) rw_Tx Wide_Tx 92 211 Try.underlying92 (by kernel_rfl) (fun h hl => trod_Tx h hl) h hlt
end
set_option maxHeartbeats 4000000 in
theorem to_Tx (z : Y_Tx) (hf : wt_Tx (co_Tx z) ≤ 1048576) (w : World) (hr : RowsRd w w.heap.size (rw_Tx z)) : Calls Try.prog 194 #[vv_Tx z] w fun e w' => ∃ y : Y_Tx, e = .returned (vv_Tx y) ∧ co_Tx y = co_Tx z ∧ BagOwn w' w.heap.size (rw_Tx y) ∧ Below w.heap.size w w' := by
 have hfp := hf
 rw [wt_Tx_parts] at hfp
 have HC1 := Lib.hid (fun w' (h : Below w.heap.size w w') => to_OpS z.f_Ops_a z.f_Ops_c z.f_Ops (by omega) w' (((rd_head (rd_left hr)).reads.below h).more h.size) (((rd_tail (rd_left hr)).below h).more h.size))
 have HC4 := Lib.hid (fun w' (h : Below w.heap.size w w') => to_StoreS z.f_Backup_a z.f_Backup_c z.f_Backup (by omega) w' (((rd_head (rd_right hr)).reads.below h).more h.size) (((rd_tail (rd_right hr)).below h).more h.size))
 clear hfp hf hr
 unfold vv_Tx
 have S1 := Lib.hid (show Sl.Sep w _ [_, _] from L4.push_box (L4.push_box (Sl.Sep.start w) 211 #[.int .i64 z.f_Id, .slice z.f_Ops_a z.f_Ops.length z.f_Ops_c, .int .i64 z.f_At, .int .i64 z.f_State, .slice z.f_Backup_a z.f_Backup.length z.f_Backup_c] (w.heap.size) (by simp)) 161 #[.int .i64 0, .slice none 0 0, .int .i64 0, .int .i64 0, .slice none 0 0] (w.heap.size + 1) (by simp))
 obtain ⟨wa, hwa⟩ : ∃ w_, w_ = ((w.alloc (.cells #[.int .i64 z.f_Id, .slice z.f_Ops_a z.f_Ops.length z.f_Ops_c, .int .i64 z.f_At, .int .i64 z.f_State, .slice z.f_Backup_a z.f_Backup.length z.f_Backup_c] 211)).alloc (.cells #[.int .i64 0, .slice none 0 0, .int .i64 0, .int .i64 0, .slice none 0 0] 161)) := ⟨_, rfl⟩
 rw [← hwa] at S1
 go_enter Try.func194, Try.ntmps194
 go_upto_region 1 with fail
 rw [← hwa]
 clear hwa
 go_upto_region 2 with fail
 have S2 := Lib.hid (show Sl.Sep w _ [_, _, _] from L4.push_box S1.out 161 #[.int .i64 0, .slice none 0 0, .int .i64 0, .int .i64 0, .slice none 0 0] wa.heap.size rfl)
 clear S1
 obtain ⟨g1, hg⟩ : ∃ g', g' = wa.heap.size := ⟨_, rfl⟩
 rw [← hg] at S2 ⊢
 clear hg
 generalize wa.alloc (.cells #[.int .i64 0, .slice none 0 0, .int .i64 0, .int .i64 0, .slice none 0 0] 161) = w1 at S2 ⊢
 obtain ⟨f0, f1, f2, f3, f4⟩ := Bag.cs5 S2.out 0 rfl
 obtain ⟨f5, f6, f7, f8, f9⟩ := Bag.cs5 S2.out 2 rfl
 have z0 := Bag.free_at S2.out 2 rfl 0
 go_upto_region 3 with fail
 clear f0 f1 f2 f3 f4 f5 f6 f7 f8 f9 z0
 have S3 := Lib.hid (show Sl.Sep w _ [_, _, L4.boxR g1 161 #[.int .i64 z.f_Id, .slice none 0 0, .int .i64 0, .int .i64 0, .slice none 0 0]] from L5.put_box5 (S2.out) 2 rfl 0 (.int .i64 z.f_Id))
 clear S2
 obtain ⟨f0, f1, f2, f3, f4⟩ := Bag.cs5 S3.out 0 rfl
 go_wp2_with fail
 go_at_call 52
 refine (HC1.out _ S3.out.old).mono ?_
 rintro e w2 ⟨a1', c1', y1, rfl, hc1, ho, hb⟩
 clear f0 f1 f2 f3 f4
 have S4 := Lib.hid (show Sl.Sep w _ [_, _, _, Bag.bag (rs_Op a1' c1' y1)] from Bag.push_bag S3.out hb ho)
 clear S3
 clear hb ho
 have HQ1 := Lib.hid hc1
 clear hc1
 obtain ⟨f0, f1, f2, f3, f4⟩ := Bag.cs5 S4.out 0 rfl
 obtain ⟨f5, f6, f7, f8, f9⟩ := Bag.cs5 S4.out 2 rfl
 have z1 := Bag.free_at S4.out 2 rfl 1
 go_upto_region 4 with fail
 clear f0 f1 f2 f3 f4 f5 f6 f7 f8 f9 z1
 have S5 := Lib.hid (show Sl.Sep w _ [_, _, L4.boxR g1 161 #[.int .i64 z.f_Id, .slice a1' y1.length c1', .int .i64 0, .int .i64 0, .slice none 0 0], _] from L5.put_box5 (S4.out) 2 rfl 1 (.slice a1' y1.length c1'))
 clear S4
 obtain ⟨f0, f1, f2, f3, f4⟩ := Bag.cs5 S5.out 0 rfl
 obtain ⟨f5, f6, f7, f8, f9⟩ := Bag.cs5 S5.out 2 rfl
 have z2 := Bag.free_at S5.out 2 rfl 2
 go_upto_region 5 with fail
 clear f0 f1 f2 f3 f4 f5 f6 f7 f8 f9 z2
 have S6 := Lib.hid (show Sl.Sep w _ [_, _, L4.boxR g1 161 #[.int .i64 z.f_Id, .slice a1' y1.length c1', .int .i64 z.f_At, .int .i64 0, .slice none 0 0], _] from L5.put_box5 (S5.out) 2 rfl 2 (.int .i64 z.f_At))
 clear S5
 obtain ⟨f0, f1, f2, f3, f4⟩ := Bag.cs5 S6.out 0 rfl
 obtain ⟨f5, f6, f7, f8, f9⟩ := Bag.cs5 S6.out 2 rfl
 have z3 := Bag.free_at S6.out 2 rfl 3
 go_upto_region 6 with fail
 clear f0 f1 f2 f3 f4 f5 f6 f7 f8 f9 z3
 have S7 := Lib.hid (show Sl.Sep w _ [_, _, L4.boxR g1 161 #[.int .i64 z.f_Id, .slice a1' y1.length c1', .int .i64 z.f_At, .int .i64 z.f_State, .slice none 0 0], _] from L5.put_box5 (S6.out) 2 rfl 3 (.int .i64 z.f_State))
 clear S6
 obtain ⟨f0, f1, f2, f3, f4⟩ := Bag.cs5 S7.out 0 rfl
 go_wp2_with fail
 go_at_call 227
 refine (HC4.out _ S7.out.old).mono ?_
 rintro e w3 ⟨a4', c4', y4, rfl, hc4, ho, hb⟩
 clear f0 f1 f2 f3 f4
 have S8 := Lib.hid (show Sl.Sep w _ [_, _, _, _, Bag.bag (rs_Store a4' c4' y4)] from Bag.push_bag S7.out hb ho)
 clear S7
 clear hb ho
 have HQ4 := Lib.hid hc4
 clear hc4
 obtain ⟨f0, f1, f2, f3, f4⟩ := Bag.cs5 S8.out 0 rfl
 obtain ⟨f5, f6, f7, f8, f9⟩ := Bag.cs5 S8.out 2 rfl
 have z4 := Bag.free_at S8.out 2 rfl 4
 go_upto_region 7 with fail
 clear f0 f1 f2 f3 f4 f5 f6 f7 f8 f9 z4
 have S9 := Lib.hid (show Sl.Sep w _ [_, _, L4.boxR g1 161 #[.int .i64 z.f_Id, .slice a1' y1.length c1', .int .i64 z.f_At, .int .i64 z.f_State, .slice a4' y4.length c4'], _, _] from L5.put_box5 (S8.out) 2 rfl 4 (.slice a4' y4.length c4'))
 clear S8
 obtain ⟨f0, f1, f2, f3, f4⟩ := Bag.cs5 S9.out 1 rfl
 obtain ⟨f5, f6, f7, f8, f9⟩ := Bag.cs5 S9.out 2 rfl
 obtain ⟨z0, z1, z2, z3, z4⟩ := Bag.fs5 S9.out 1 rfl
 go_wp2_with fail
 clear f0 f1 f2 f3 f4 f5 f6 f7 f8 f9 z0 z1 z2 z3 z4
 have S10 := Lib.hid (show Sl.Sep w _ [_, L4.boxR (w.heap.size + 1) 161 #[.int .i64 z.f_Id, .slice a1' y1.length c1', .int .i64 z.f_At, .int .i64 z.f_State, .slice none 0 0], _, _, _] from L5.put_box5 (L5.put_box5 (L5.put_box5 (L5.put_box5 (S9.out) 1 rfl 0 (.int .i64 z.f_Id)) 1 rfl 1 (.slice a1' y1.length c1')) 1 rfl 2 (.int .i64 z.f_At)) 1 rfl 3 (.int .i64 z.f_State))
 clear S9
 have S11 := Lib.hid (show Sl.Sep w _ [_, L4.boxR (w.heap.size + 1) 161 #[.int .i64 z.f_Id, .slice a1' y1.length c1', .int .i64 z.f_At, .int .i64 z.f_State, .slice a4' y4.length c4'], _, _, _] from L5.put_box5 (S10.out) 1 rfl 4 (.slice a4' y4.length c4'))
 clear S10
 obtain ⟨f0, f1, f2, f3, f4⟩ := Bag.cs5 S11.out 1 rfl
 refine bodyPost_ret (v := .agg #[.int .i64 z.f_Id, .slice a1' y1.length c1', .int .i64 z.f_At, .int .i64 z.f_State, .slice a4' y4.length c4']) (by simp [results, Try.results194, go_sem, *]) rfl ?_
 clear f0 f1 f2 f3 f4
 have S12 := Lib.hid (show Sl.Sep w _ [_, _, _, Bag.bag ((rs_Op a1' c1' y1) ++ (rs_Store a4' c4' y4)), Bag.bag ([])] from Bag.bag_join S11.out 3 4 (by decide) rfl rfl)
 clear S11
 refine ⟨⟨z.f_Id, a1', c1', y1, z.f_At, z.f_State, a4', c4', y4⟩, rfl, ?_, Bag.bag_from S12.out 3 rfl, S12.out.old⟩
 show (⟨z.f_Id, coS_Op y1, z.f_At, z.f_State, coS_Store y4⟩ : X_Tx) = (⟨z.f_Id, coS_Op z.f_Ops, z.f_At, z.f_State, coS_Store z.f_Backup⟩ : X_Tx)
 rw [HQ1.out, HQ4.out]
theorem info_Tx : ∃ i, Try.prog.info? 161 = some i ∧ i.zero = some (.agg #[.int .i64 0, .slice none 0 0, .int .i64 0, .int .i64 0, .slice none 0 0]) ∧ i.size = 5 ∧ i.bytes = 72 := Ex.infoOf _ _ _ _ (by kernel_rfl)
set_option maxHeartbeats 4000000 in
theorem to_TxS (a : Option Addr) (c : Nat) (xs : List Y_Tx) (hf : wsum wt_Tx (coS_Tx xs) ≤ 1048576) (w : World) (hr : Reads w w.heap.size a (xs.flatMap cl_Tx)) (hx : RowsRd w w.heap.size (rws_Tx xs)) :
  Calls Try.prog 137 #[.slice a xs.length c] w fun e w' => ∃ a' c' ys, e = .returned (.slice a' ys.length c') ∧ coS_Tx ys = coS_Tx xs ∧ BagOwn w' w.heap.size (rs_Tx a' c' ys) ∧ Below w.heap.size w w' := by
 obtain ⟨i0, hi1, hi2, hi3, hi4⟩ := info_Tx
 have HI := Lib.hid (And.intro hi1 (And.intro hi2 (And.intro hi3 hi4)))
 clear hi1 hi2 hi3 hi4
 rw [coS_Tx_eq] at hf
 have HR := Lib.hid (fun w' (h : Below w.heap.size w w') => hr.below h)
 have HX := Lib.hid (fun w' (h : Below w.heap.size w w') => (hx.below h).more h.size)
 have HF := Lib.hid hf
 have hl : xs.length ≤ 1048576 := by have := wsum_len wt_Tx (xs.map co_Tx); rw [List.length_map] at this; omega
 obtain ⟨N, hN⟩ : ∃ n, n = xs.length := ⟨_, rfl⟩
 rw [← hN] at hl ⊢
 have hl' : (N : Int) ≤ 1048576 := by omega
 have HN := Lib.hid hN
 clear hN hr hx hf
 obtain ⟨Z, hZ⟩ : ∃ Z, Z = (madeCells (Value.agg #[.int .i64 0, .slice none 0 0, .int .i64 0, .int .i64 0, .slice none 0 0]).cells (N * 5)).toList := ⟨_, rfl⟩
 have HZ := Lib.hid (show Z.length = N * 5 by rw [hZ]; simp [madeCells])
 have HZD := Lib.hid hZ
 clear hZ
 have S1 := Lib.hid (show Sl.Sep w w [] from Sl.Sep.start w)
 go_enter Try.func137, Try.ntmps137
 go_upto_region 2 with (at_make; refine Run.wpList_make_s S1.out rfl _ _ 96 rfl 161 i0 (.agg #[.int .i64 0, .slice none 0 0, .int .i64 0, .int .i64 0, .slice none 0 0]) 5 Try.underlying96 HI.out.1 HI.out.2.1 HI.out.2.2.1 _ _ N rfl rfl (by rw [HI.out.2.2.2]; omega) (by unfold maxLen; omega) ?_; intro w1 S')
 obtain ⟨g1, hg⟩ : ∃ g', g' = w.heap.size := ⟨_, rfl⟩
 rw [← hg] at S' ⊢
 clear hg
 have S2 := Lib.hid (show Sl.Sep w _ [Sv.ownV 161 5 (some ⟨g1, 0, none⟩) N N (([] : List Y_Tx).flatMap cl_Tx ++ Z)] from (by have h := S'; rw [← HZD.out] at h; exact h))
 clear S1
 clear S'
 have S3 := Lib.hid (show Sl.Sep w _ [_, Bag.bag (rws_Tx [])] from Bag.push_bag S2.out (Below.refl _ _) (by rw [rws_Tx_eq]; exact Bag.BagOwn.nil _ _))
 clear S2
 go_wp2_with fail
 go_loopw [4] (fun i wr => ∃ (k : Nat) (ys : List Y_Tx) (Zs : List Value), k ≤ N ∧ i = .int .i64 k ∧ Hid ((ys.map co_Tx = (xs.take k).map co_Tx ∧ ys.length = k ∧ Zs.length = (N - k) * 5) ∧ Sl.Sep w wr [Sv.ownV 161 5 (some ⟨g1, 0, none⟩) N N (ys.flatMap cl_Tx ++ Zs), Bag.bag (rws_Tx ys)])) (fun i _ => N - (intOf i).toNat)
 case atStart => exact ⟨0, [], Z, Nat.zero_le _, rfl, And.intro ⟨rfl, rfl, HZ.out⟩ S3.out⟩
 case round =>
  obtain ⟨k, ys, Zs, hk, rfl, hrel⟩ := hrel
  have HC := Lib.hid hrel.out.1
  have S4 := Lib.hid hrel.out.2
  clear hrel S3
  by_cases hlt : (k : Int) < (N : Int)
  ·
   skip
   have hkl : k < xs.length := by have := HN.out; omega
   obtain ⟨x, hx⟩ : ∃ x, xs[k]? = some x := ⟨_, List.getElem?_eq_getElem hkl⟩
   obtain ⟨ad, e'⟩ := el_some cl_Tx_len (by decide) (HR.out _ S4.out.old) hkl
   subst e'
   have HK := Lib.hid (fun w' (h : Below w.heap.size w w') => el5 cl_Tx_len (HR.out _ h) hx rfl)
   have HTX := Lib.hid (take_next hx)
   have HL := Lib.hid (show (ys.flatMap cl_Tx).length = k * 5 ∧ k * 5 + 5 ≤ (ys.flatMap cl_Tx ++ Zs).length ∧ 5 ≤ Zs.length from by have h1 := HC.out.2.1; have h2 := HC.out.2.2; rw [List.length_append, flat_len cl_Tx_len, h1, h2]; omega)
   have HCI := Lib.hid (fun w' (h : Below w.heap.size w w') => to_Tx x (by have h1 := wsum_mem (f := wt_Tx) (List.mem_map.2 ⟨x, List.mem_of_getElem? hx, rfl⟩ : co_Tx x ∈ xs.map co_Tx); have h2 := HF.out; omega) w' (rd_el (rw_ := rw_Tx) (by rw [← rws_Tx_eq]; exact HX.out w' h) hx))
   dsimp only [vv_Tx] at HCI
   clear hx
   obtain ⟨f0, f1, f2, f3, f4⟩ := HK.out _ S4.out.old
   go_wp2_with fail
   go_at_call 194
   refine (HCI.out _ S4.out.old).mono ?_
   rintro e w2 ⟨y, rfl, hcy, ho, hb⟩
   clear f0 f1 f2 f3 f4
   have S5 := Lib.hid (show Sl.Sep w _ [Sv.ownV 161 5 (some ⟨g1, 0, none⟩) N N (ys.flatMap cl_Tx ++ Zs), Bag.bag (rws_Tx ys), Bag.bag (rw_Tx y)] from Bag.push_bag S4.out hb ho)
   clear S4
   clear hb ho
   have HCY := Lib.hid hcy
   clear hcy
   try dsimp only [vv_Tx]
   have q0 := (Sv.own_at S5.out 0 rfl).cell (k * 5) (by have := HL.out.2.1; omega)
   have z0 := (Sv.own_at S5.out 0 rfl).free (k * 5)
   have q1 := (Sv.own_at S5.out 0 rfl).cell (k * 5 + 1) (by have := HL.out.2.1; omega)
   have z1 := (Sv.own_at S5.out 0 rfl).free (k * 5 + 1)
   have q2 := (Sv.own_at S5.out 0 rfl).cell (k * 5 + 2) (by have := HL.out.2.1; omega)
   have z2 := (Sv.own_at S5.out 0 rfl).free (k * 5 + 2)
   have q3 := (Sv.own_at S5.out 0 rfl).cell (k * 5 + 3) (by have := HL.out.2.1; omega)
   have z3 := (Sv.own_at S5.out 0 rfl).free (k * 5 + 3)
   have q4 := (Sv.own_at S5.out 0 rfl).cell (k * 5 + 4) (by have := HL.out.2.1; omega)
   have z4 := (Sv.own_at S5.out 0 rfl).free (k * 5 + 4)
   go_wp2_with fail
   clear q0 z0 q1 z1 q2 z2 q3 z3 q4 z4
   have S6 := Lib.hid (show Sl.Sep w (World.setCells w2 g1 (k * 5) [.int .i64 y.f_Id, .slice y.f_Ops_a y.f_Ops.length y.f_Ops_c, .int .i64 y.f_At, .int .i64 y.f_State, .slice y.f_Backup_a y.f_Backup.length y.f_Backup_c]) [Sv.ownV 161 5 (some ⟨g1, 0, none⟩) N N ((ys ++ [y]).flatMap cl_Tx ++ Zs.drop 5), Bag.bag (rws_Tx ys), Bag.bag (rw_Tx y)] from (by have h := Run.put_run S5.out 0 rfl (k * 5) [.int .i64 y.f_Id, .slice y.f_Ops_a y.f_Ops.length y.f_Ops_c, .int .i64 y.f_At, .int .i64 y.f_State, .slice y.f_Backup_a y.f_Backup.length y.f_Backup_c] (by have := HL.out.2.1; simpa using this); rw [Run.over_at _ _ _ _ HL.out.1 (by have := HL.out.2.2; simpa using this)] at h; rw [List.flatMap_append, List.append_assoc]; exact h))
   clear S5
   have S7 := Lib.hid (show Sl.Sep w _ [Sv.ownV 161 5 (some ⟨g1, 0, none⟩) N N ((ys ++ [y]).flatMap cl_Tx ++ Zs.drop 5), Bag.bag (rws_Tx ys ++ (rw_Tx y)), Bag.bag ([])] from Bag.bag_join S6.out 1 2 (by decide) rfl rfl)
   clear S6
   have S8 := Lib.hid (show Sl.Sep w _ [_, _] from Bag.take S7.out [0, 1] (by rfl) (by decide))
   clear S7
   go_roundw
   case rel =>
    refine ⟨k + 1, ys ++ [y], Zs.drop 5, by omega, by go_num, And.intro ⟨?_, ?_, ?_⟩ ?_⟩
    ·
     rw [HTX.out, List.map_append, List.map_append, HC.out.1]; rw [show [y].map co_Tx = [x].map co_Tx from congrArg (fun u => [u]) HCY.out]
    ·
     rw [List.length_append, HC.out.2.1]; rfl
    ·
     rw [List.length_drop, HC.out.2.2]; omega
    ·
     rw [rws_Tx_app]; rw [show rws_Tx [y] = rw_Tx y from by rw [rws_Tx_eq]; simp]; exact S8.out
   case measure => simp [intOf]; omega
  ·
   skip
   obtain rfl : k = N := by omega
   go_wp2_with fail
   go_ret
   obtain ⟨hc1, hc2, hc3⟩ := HC.out
   have hZs : Zs = [] := List.eq_nil_of_length_eq_zero (by rw [hc3]; omega)
   have hcon : ys.map co_Tx = xs.map co_Tx := by rw [hc1, List.take_of_length_le (by have := HN.out; omega)]
   have S90 := Lib.hid (Bag.bag_of_one S4.out 0 (r := row_Tx (some ⟨g1, 0, none⟩) k ys) (by unfold RowS.res row_Tx; dsimp only; rw [hZs, List.append_nil, hc2]; rfl))
   have S91 := Lib.hid (Bag.bag_join S90.out 0 1 (by decide) rfl rfl)
   have hb := Bag.bag_from S91.out 0 rfl
   subst hc2
   exact ⟨_, _, ys, rfl, by rw [coS_Tx_eq, coS_Tx_eq]; exact hcon, hb, S91.out.old⟩
set_option maxHeartbeats 4000000 in
theorem sz_Tx (z : Y_Tx) (q : Int) (hw : Wide_Tx z) (hq0 : -1 ≤ q) (hq1 : q ≤ 1048576) (w : World) (hr : RowsRd w w.heap.size (rw_Tx z)) : Calls Try.prog 192 #[vv_Tx z, .int .i64 q] w fun e w' => e = .returned (.int .i64 (lft q (wt_Tx (co_Tx z)))) ∧ Below w.heap.size w w' := by
 have HS1 := Lib.hid (fun (m : Int) (h0 : -1 ≤ m) (h1 : m ≤ 1048576) w' (h : Below w.heap.size w w') => sz_OpS z.f_Ops_a z.f_Ops_c z.f_Ops m hw.2.1.2 hw.2.1.1 h0 h1 w' (((rd_head (rd_left hr)).reads.below h).more h.size) (((rd_tail (rd_left hr)).below h).more h.size))
 have HS4 := Lib.hid (fun (m : Int) (h0 : -1 ≤ m) (h1 : m ≤ 1048576) w' (h : Below w.heap.size w w') => sz_StoreS z.f_Backup_a z.f_Backup_c z.f_Backup m hw.2.2.2.2.2 hw.2.2.2.2.1 h0 h1 w' (((rd_head (rd_right hr)).reads.below h).more h.size) (((rd_tail (rd_right hr)).below h).more h.size))
 have HW := Lib.hid (wt_Tx_parts z)
 clear hw hr
 unfold vv_Tx
 have S1 := Lib.hid (show Sl.Sep w _ [_] from L4.push_box (Sl.Sep.start w) 211 #[.int .i64 z.f_Id, .slice z.f_Ops_a z.f_Ops.length z.f_Ops_c, .int .i64 z.f_At, .int .i64 z.f_State, .slice z.f_Backup_a z.f_Backup.length z.f_Backup_c] (w.heap.size) (by simp))
 obtain ⟨wa, hwa⟩ : ∃ w_, w_ = (w.alloc (.cells #[.int .i64 z.f_Id, .slice z.f_Ops_a z.f_Ops.length z.f_Ops_c, .int .i64 z.f_At, .int .i64 z.f_State, .slice z.f_Backup_a z.f_Backup.length z.f_Backup_c] 211)) := ⟨_, rfl⟩
 rw [← hwa] at S1
 go_enter Try.func192, Try.ntmps192
 go_upto_region 1 with fail
 rw [← hwa]
 clear hwa
 obtain ⟨f0, f1, f2, f3, f4⟩ := Bag.cs5 S1.out 0 rfl
 obtain ⟨u1, hu⟩ : ∃ u, lft q (wsum wt_Op (coS_Op z.f_Ops)) = u := ⟨_, rfl⟩
 have hc1 := lft_cases hu
 have hr1 := lft_range (q := q) (wsum wt_Op (coS_Op z.f_Ops)) (by omega)
 rw [hu] at hr1
 have HCU := HS1.out q (by omega) (by omega)
 simp only [hu] at HCU
 replace HCU := Lib.hid HCU
 clear hu
 go_wp2_with fail
 go_at_call 50
 refine (HCU.out _ S1.out.old).mono ?_
 rintro e w1 ⟨rfl, hb⟩
 clear f0 f1 f2 f3 f4
 have S2 := Lib.hid (S1.out.keep hb)
 clear S1
 clear hb
 obtain ⟨f0, f1, f2, f3, f4⟩ := Bag.cs5 S2.out 0 rfl
 clear HCU
 by_cases hn1 : u1 < 0
 ·
  have hm1 : u1 = -1 := by omega
  subst hm1
  go_wp2_with fail
  go_ret
  exact ⟨by rw [HW.out, lft_neg (by omega)] <;> rfl, S2.out.old⟩
 ·
  skip
  obtain ⟨u4, hu⟩ : ∃ u, lft u1 (wsum wt_Store (coS_Store z.f_Backup)) = u := ⟨_, rfl⟩
  have hc4 := lft_cases hu
  have hr4 := lft_range (q := u1) (wsum wt_Store (coS_Store z.f_Backup)) (by omega)
  rw [hu] at hr4
  have HCU := HS4.out u1 (by omega) (by omega)
  simp only [hu] at HCU
  replace HCU := Lib.hid HCU
  clear hu
  go_wp2_with fail
  go_at_call 226
  refine (HCU.out _ S2.out.old).mono ?_
  rintro e w2 ⟨rfl, hb⟩
  clear f0 f1 f2 f3 f4
  have S3 := Lib.hid (S2.out.keep hb)
  clear S2
  clear hb
  obtain ⟨f0, f1, f2, f3, f4⟩ := Bag.cs5 S3.out 0 rfl
  clear HCU
  by_cases hn4 : u4 < 0
  ·
   have hm1 : u4 = -1 := by omega
   subst hm1
   go_wp2_with fail
   go_ret
   exact ⟨by rw [HW.out, lft_neg (by omega)] <;> rfl, S3.out.old⟩
  ·
   skip
   go_wp2_with fail
   go_ret
   exact ⟨by rw [HW.out, lft_pos (by omega)] <;> first | rfl | (refine congrArg (fun i => Ending.returned (.int .i64 i)) ?_; omega), S3.out.old⟩
set_option maxHeartbeats 4000000 in
theorem sz_TxS (a : Option Addr) (c : Nat) (xs : List Y_Tx) (q : Int) (hw : ∀ x ∈ xs, Wide_Tx x) (hm : xs.length ≤ maxLen) (hq0 : -1 ≤ q) (hq1 : q ≤ 1048576) (w : World) (hr : Reads w w.heap.size a (xs.flatMap cl_Tx)) (hx : RowsRd w w.heap.size (rws_Tx xs)) :
  Calls Try.prog 134 #[.slice a xs.length c, .int .i64 q] w fun e w' => e = .returned (.int .i64 (lft q (wsum wt_Tx (coS_Tx xs)))) ∧ Below w.heap.size w w' := by
 have HR := Lib.hid (fun w' (h : Below w.heap.size w w') => hr.below h)
 have HX := Lib.hid (fun w' (h : Below w.heap.size w w') => (hx.below h).more h.size)
 have HWD := Lib.hid hw
 have HW := Lib.hid (show wsum wt_Tx (coS_Tx xs) = xs.length + fsum (fun x => wt_Tx (co_Tx x)) xs from by rw [coS_Tx_eq, wsum_map])
 obtain ⟨N, hN⟩ : ∃ n, n = xs.length := ⟨_, rfl⟩
 rw [← hN] at hm HW ⊢
 have HN := Lib.hid hN
 have hm' : (N : Int) ≤ 9223372036854775807 := by unfold maxLen at hm; omega
 clear hN hr hx hw hm
 have S1 := Lib.hid (show Sl.Sep w w [] from Sl.Sep.start w)
 by_cases hneg : q - (N : Int) < 0
 ·
  skip
  go_enter Try.func134, Try.ntmps134
  go_wp2_with fail
  go_ret
  exact ⟨by rw [HW.out, lft_neg (by omega)] <;> rfl, Below.refl _ _⟩
 ·
  skip
  go_enter Try.func134, Try.ntmps134
  go_wp2_with fail
  go_loopw [1, 5] (fun lv i wr => ∃ (k : Nat) (m : Int), k ≤ N ∧ i = .int .i64 k ∧ lv = .int .i64 m ∧ 0 ≤ m ∧ m ≤ 1048576 ∧ Hid (m = q - N - (fsum (fun x => wt_Tx (co_Tx x)) (xs.take k) : Int) ∧ Sl.Sep w wr [])) (fun _ i _ => N - (intOf i).toNat)
  case atStart => exact ⟨0, q - N, Nat.zero_le _, rfl, rfl, by omega, by omega, And.intro (by rw [List.take_zero, fsum_nil]; omega) S1.out⟩
  case round =>
   obtain ⟨k, m, hk, rfl, rfl, hm0, hm1, hrel⟩ := hrel
   have HA := Lib.hid hrel.out.1
   have S2 := Lib.hid hrel.out.2
   clear hrel S1
   by_cases hlt : (k : Int) < (N : Int)
   ·
    skip
    have hkl : k < xs.length := by have := HN.out; omega
    obtain ⟨x, hx⟩ : ∃ x, xs[k]? = some x := ⟨_, List.getElem?_eq_getElem hkl⟩
    obtain ⟨ad, e'⟩ := el_some cl_Tx_len (by decide) (HR.out _ S2.out.old) (List.getElem?_eq_some_iff.1 hx).1
    subst e'
    have HK := Lib.hid (fun w' (h : Below w.heap.size w w') => el5 cl_Tx_len (HR.out _ h) hx rfl)
    have HAT := Lib.hid (fsum_at (f := (fun x => wt_Tx (co_Tx x))) hx)
    have HTK := Lib.hid (fsum_take (f := (fun x => wt_Tx (co_Tx x))) hx)
    try dsimp only at HAT HTK
    obtain ⟨fx, hfx⟩ : ∃ u, wt_Tx (co_Tx x) = u := ⟨_, rfl⟩
    rw [hfx] at HAT HTK
    obtain ⟨u, hu⟩ : ∃ u, lft m fx = u := ⟨_, rfl⟩
    have hcu := lft_cases hu
    have hru := lft_range (q := m) fx (by omega)
    rw [hu] at hru
    have HSI := fun w' (h : Below w.heap.size w w') => sz_Tx x m (HWD.out x (List.mem_of_getElem? hx)) (by omega) hm1 w' (rd_el (rw_ := rw_Tx) (by rw [← rws_Tx_eq]; exact HX.out w' h) hx)
    rw [hfx, hu] at HSI
    dsimp only [vv_Tx] at HSI
    replace HSI := Lib.hid HSI
    clear hfx hu hx
    obtain ⟨f0, f1, f2, f3, f4⟩ := HK.out _ S2.out.old
    go_wp2_with fail
    go_at_call 192
    refine (HSI.out _ S2.out.old).mono ?_
    rintro e w1 ⟨rfl, hb⟩
    clear f0 f1 f2 f3 f4
    have S3 := Lib.hid (S2.out.keep hb)
    clear S2
    clear hb
    by_cases h0 : u < 0
    ·
     have hm1' : u = -1 := by omega
     subst hm1'
     go_wp2_with fail
     go_ret
     exact ⟨by rw [HW.out, lft_neg (by have := HA.out; have := HAT.out; omega)] <;> rfl, S3.out.old⟩
    ·
     skip
     go_wp2_with fail
     go_roundw
     case rel => exact ⟨k + 1, u, by omega, by go_num, rfl, by omega, by omega, And.intro (by rw [HTK.out]; have := HA.out; omega) S3.out⟩
     case measure => simp [intOf]; omega
   ·
    skip
    obtain rfl : k = N := by omega
    have HT := HA.out
    rw [List.take_of_length_le (Nat.le_of_eq HN.out.symm)] at HT
    go_wp2_with fail
    go_ret
    exact ⟨by rw [HW.out, lft_pos (by omega)] <;> first | rfl | (refine congrArg (fun i => Ending.returned (.int .i64 i)) ?_; omega), S2.out.old⟩
set_option maxHeartbeats 4000000 in
theorem eq_Tx (y z : Y_Tx) (hc : co_Tx y = co_Tx z) (hf : wt_Tx (co_Tx y) ≤ 1125899906842624) (w : World) (hr : RowsRd w w.heap.size (rw_Tx y)) (hr2 : RowsRd w w.heap.size (rw_Tx z)) : Calls Try.prog 197 #[vv_Tx y, vv_Tx z] w fun e w' => e = .returned (.bool true) ∧ Below w.heap.size w w' := by
 have hfp := hf
 rw [wt_Tx_parts] at hfp
 have ee0 : z.f_Id = y.f_Id := (show y.f_Id = z.f_Id from congrArg X_Tx.f_Id (hc)).symm
 have ee1 : z.f_Ops.length = y.f_Ops.length := (by have h := congrArg List.length (show coS_Op y.f_Ops = coS_Op z.f_Ops from congrArg X_Tx.f_Ops (hc)); rw [coS_Op_eq, coS_Op_eq, List.length_map, List.length_map] at h; exact h.symm)
 have ee2 : z.f_At = y.f_At := (show y.f_At = z.f_At from congrArg X_Tx.f_At (hc)).symm
 have ee3 : z.f_State = y.f_State := (show y.f_State = z.f_State from congrArg X_Tx.f_State (hc)).symm
 have ee4 : z.f_Backup.length = y.f_Backup.length := (by have h := congrArg List.length (show coS_Store y.f_Backup = coS_Store z.f_Backup from congrArg X_Tx.f_Backup (hc)); rw [coS_Store_eq, coS_Store_eq, List.length_map, List.length_map] at h; exact h.symm)
 have HE1 := Lib.hid (fun w' (h : Below w.heap.size w w') => eq_OpS y.f_Ops_a z.f_Ops_a y.f_Ops_c z.f_Ops_c y.f_Ops z.f_Ops (congrArg X_Tx.f_Ops hc) (by omega) w' (((rd_head (rd_left hr)).reads.below h).more h.size) (((rd_tail (rd_left hr)).below h).more h.size) (((rd_head (rd_left hr2)).reads.below h).more h.size) (((rd_tail (rd_left hr2)).below h).more h.size))
 simp only [ee0, ee1, ee2, ee3, ee4] at HE1
 have HE4 := Lib.hid (fun w' (h : Below w.heap.size w w') => eq_StoreS y.f_Backup_a z.f_Backup_a y.f_Backup_c z.f_Backup_c y.f_Backup z.f_Backup (congrArg X_Tx.f_Backup hc) (by omega) w' (((rd_head (rd_right hr)).reads.below h).more h.size) (((rd_tail (rd_right hr)).below h).more h.size) (((rd_head (rd_right hr2)).reads.below h).more h.size) (((rd_tail (rd_right hr2)).below h).more h.size))
 simp only [ee0, ee1, ee2, ee3, ee4] at HE4
 have hv : vv_Tx z = .agg #[.int .i64 y.f_Id, .slice z.f_Ops_a y.f_Ops.length z.f_Ops_c, .int .i64 y.f_At, .int .i64 y.f_State, .slice z.f_Backup_a y.f_Backup.length z.f_Backup_c] := by unfold vv_Tx; simp only [ee0, ee1, ee2, ee3, ee4]
 rw [hv]
 clear hv hfp hf hc hr hr2 ee0 ee1 ee2 ee3 ee4
 unfold vv_Tx
 have S1 := Lib.hid (show Sl.Sep w _ [_, _] from L4.push_box (L4.push_box (Sl.Sep.start w) 161 #[.int .i64 y.f_Id, .slice y.f_Ops_a y.f_Ops.length y.f_Ops_c, .int .i64 y.f_At, .int .i64 y.f_State, .slice y.f_Backup_a y.f_Backup.length y.f_Backup_c] (w.heap.size) (by simp)) 161 #[.int .i64 y.f_Id, .slice z.f_Ops_a y.f_Ops.length z.f_Ops_c, .int .i64 y.f_At, .int .i64 y.f_State, .slice z.f_Backup_a y.f_Backup.length z.f_Backup_c] (w.heap.size + 1) (by simp))
 obtain ⟨wa, hwa⟩ : ∃ w_, w_ = ((w.alloc (.cells #[.int .i64 y.f_Id, .slice y.f_Ops_a y.f_Ops.length y.f_Ops_c, .int .i64 y.f_At, .int .i64 y.f_State, .slice y.f_Backup_a y.f_Backup.length y.f_Backup_c] 161)).alloc (.cells #[.int .i64 y.f_Id, .slice z.f_Ops_a y.f_Ops.length z.f_Ops_c, .int .i64 y.f_At, .int .i64 y.f_State, .slice z.f_Backup_a y.f_Backup.length z.f_Backup_c] 161)) := ⟨_, rfl⟩
 rw [← hwa] at S1
 go_enter Try.func197, Try.ntmps197
 go_upto_region 1 with fail
 rw [← hwa]
 clear hwa
 obtain ⟨f0, f1, f2, f3, f4⟩ := Bag.cs5 S1.out 0 rfl
 obtain ⟨f5, f6, f7, f8, f9⟩ := Bag.cs5 S1.out 1 rfl
 go_wp2_with fail
 go_at_call 55
 refine (HE1.out _ S1.out.old).mono ?_
 rintro e w1 ⟨rfl, hb⟩
 clear f0 f1 f2 f3 f4 f5 f6 f7 f8 f9
 have S2 := Lib.hid (S1.out.keep hb)
 clear S1
 clear hb
 obtain ⟨f0, f1, f2, f3, f4⟩ := Bag.cs5 S2.out 0 rfl
 obtain ⟨f5, f6, f7, f8, f9⟩ := Bag.cs5 S2.out 1 rfl
 go_wp2_with fail
 go_at_call 229
 refine (HE4.out _ S2.out.old).mono ?_
 rintro e w2 ⟨rfl, hb⟩
 clear f0 f1 f2 f3 f4 f5 f6 f7 f8 f9
 have S3 := Lib.hid (S2.out.keep hb)
 clear S2
 clear hb
 obtain ⟨f0, f1, f2, f3, f4⟩ := Bag.cs5 S3.out 0 rfl
 obtain ⟨f5, f6, f7, f8, f9⟩ := Bag.cs5 S3.out 1 rfl
 go_wp2_with fail
 go_ret
 exact ⟨rfl, S3.out.old⟩
set_option maxHeartbeats 4000000 in
theorem eq_TxS (a a2 : Option Addr) (c c2 : Nat) (xs xs2 : List Y_Tx) (hc : coS_Tx xs = coS_Tx xs2) (hf : wsum wt_Tx (coS_Tx xs) ≤ 1125899906842624) (w : World) (hr : Reads w w.heap.size a (xs.flatMap cl_Tx)) (hx : RowsRd w w.heap.size (rws_Tx xs)) (hr2 : Reads w w.heap.size a2 (xs2.flatMap cl_Tx)) (hx2 : RowsRd w w.heap.size (rws_Tx xs2)) :
  Calls Try.prog 141 #[.slice a xs.length c, .slice a2 xs2.length c2] w fun e w' => e = .returned (.bool true) ∧ Below w.heap.size w w' := by
 have hlen : xs2.length = xs.length := by have h := congrArg List.length hc; rw [coS_Tx_eq, coS_Tx_eq, List.length_map, List.length_map] at h; exact h.symm
 have hl : xs.length ≤ 1125899906842624 := by have := wsum_len wt_Tx (coS_Tx xs); rw [coS_Tx_eq, List.length_map] at this; rw [coS_Tx_eq] at hf; omega
 have HR := Lib.hid (fun w' (h : Below w.heap.size w w') => hr.below h)
 have HR2 := Lib.hid (fun w' (h : Below w.heap.size w w') => hr2.below h)
 have HX := Lib.hid (fun w' (h : Below w.heap.size w w') => (hx.below h).more h.size)
 have HX2 := Lib.hid (fun w' (h : Below w.heap.size w w') => (hx2.below h).more h.size)
 rw [coS_Tx_eq] at hf
 have HF := Lib.hid hf
 have HS := Lib.hid (show xs.map co_Tx = xs2.map co_Tx from by rw [← coS_Tx_eq, ← coS_Tx_eq]; exact hc)
 obtain ⟨N, hN⟩ : ∃ n, n = xs.length := ⟨_, rfl⟩
 rw [hlen, ← hN]
 rw [← hN] at hl
 have hl' : (N : Int) ≤ 1125899906842624 := by omega
 have HN := Lib.hid hN
 clear hN hr hr2 hx hx2 hf hc hlen
 have S1 := Lib.hid (show Sl.Sep w w [] from Sl.Sep.start w)
 go_enter Try.func141, Try.ntmps141
 go_wp2_with fail
 go_loopw [5] (fun i wr => ∃ k : Nat, k ≤ N ∧ i = .int .i64 k ∧ Hid (Sl.Sep w wr [])) (fun i _ => N - (intOf i).toNat)
 case atStart => exact ⟨0, Nat.zero_le _, rfl, S1.out⟩
 case round =>
  obtain ⟨k, hk, rfl, hrel⟩ := hrel
  have S2 := Lib.hid hrel.out
  clear hrel S1
  by_cases hlt : (k : Int) < (N : Int)
  ·
   skip
   have hkl : k < xs.length := by have := HN.out; omega
   obtain ⟨x, hx⟩ : ∃ x, xs[k]? = some x := ⟨_, List.getElem?_eq_getElem hkl⟩
   obtain ⟨ad, e'⟩ := el_some cl_Tx_len (by decide) (HR.out _ S2.out.old) (List.getElem?_eq_some_iff.1 hx).1
   subst e'
   have HK := Lib.hid (fun w' (h : Below w.heap.size w w') => el5 cl_Tx_len (HR.out _ h) hx rfl)
   obtain ⟨x2, hx2, hcx⟩ := map_same HS.out hx
   obtain ⟨ad2, e'⟩ := el_some cl_Tx_len (by decide) (HR2.out _ S2.out.old) (List.getElem?_eq_some_iff.1 hx2).1
   subst e'
   have HK2 := Lib.hid (fun w' (h : Below w.heap.size w w') => el5 cl_Tx_len (HR2.out _ h) hx2 rfl)
   have ee0 : x2.f_Id = x.f_Id := (show x.f_Id = x2.f_Id from congrArg X_Tx.f_Id (hcx.symm)).symm
   have ee1 : x2.f_Ops.length = x.f_Ops.length := (by have h := congrArg List.length (show coS_Op x.f_Ops = coS_Op x2.f_Ops from congrArg X_Tx.f_Ops (hcx.symm)); rw [coS_Op_eq, coS_Op_eq, List.length_map, List.length_map] at h; exact h.symm)
   have ee2 : x2.f_At = x.f_At := (show x.f_At = x2.f_At from congrArg X_Tx.f_At (hcx.symm)).symm
   have ee3 : x2.f_State = x.f_State := (show x.f_State = x2.f_State from congrArg X_Tx.f_State (hcx.symm)).symm
   have ee4 : x2.f_Backup.length = x.f_Backup.length := (by have h := congrArg List.length (show coS_Store x.f_Backup = coS_Store x2.f_Backup from congrArg X_Tx.f_Backup (hcx.symm)); rw [coS_Store_eq, coS_Store_eq, List.length_map, List.length_map] at h; exact h.symm)
   have HEQ := fun w' (h : Below w.heap.size w w') => eq_Tx x x2 hcx.symm (by have h1 := wsum_mem (f := wt_Tx) (List.mem_map.2 ⟨x, List.mem_of_getElem? hx, rfl⟩ : co_Tx x ∈ xs.map co_Tx); have h2 := HF.out; omega) w' (rd_el (rw_ := rw_Tx) (by rw [← rws_Tx_eq]; exact HX.out w' h) hx) (rd_el (rw_ := rw_Tx) (by rw [← rws_Tx_eq]; exact HX2.out w' h) hx2)
   dsimp only [vv_Tx] at HEQ
   try dsimp only [cl_Tx] at HK2
   simp only [ee0, ee1, ee2, ee3, ee4] at HEQ HK2
   replace HEQ := Lib.hid HEQ
   clear hcx ee0 ee1 ee2 ee3 ee4
   try dsimp only [vv_Tx] at HEQ
   clear hx hx2
   go_upto_region 6 with fail
   refine wp_region_held_drew (S := (fun w' => (w'.cell? (ad.add (k * 5)) = some (.int .i64 x.f_Id) ∧ w'.cell? (⟨(ad.add (k * 5)).block, (ad.add (k * 5)).off + 1, none⟩) = some (.slice x.f_Ops_a x.f_Ops.length x.f_Ops_c) ∧ w'.cell? (⟨(ad.add (k * 5)).block, (ad.add (k * 5)).off + 2, none⟩) = some (.int .i64 x.f_At) ∧ w'.cell? (⟨(ad.add (k * 5)).block, (ad.add (k * 5)).off + 3, none⟩) = some (.int .i64 x.f_State) ∧ w'.cell? (⟨(ad.add (k * 5)).block, (ad.add (k * 5)).off + 4, none⟩) = some (.slice x.f_Backup_a x.f_Backup.length x.f_Backup_c)) ∧ (w'.cell? (ad2.add (k * 5)) = some (.int .i64 x.f_Id) ∧ w'.cell? (⟨(ad2.add (k * 5)).block, (ad2.add (k * 5)).off + 1, none⟩) = some (.slice x2.f_Ops_a x.f_Ops.length x2.f_Ops_c) ∧ w'.cell? (⟨(ad2.add (k * 5)).block, (ad2.add (k * 5)).off + 2, none⟩) = some (.int .i64 x.f_At) ∧ w'.cell? (⟨(ad2.add (k * 5)).block, (ad2.add (k * 5)).off + 3, none⟩) = some (.int .i64 x.f_State) ∧ w'.cell? (⟨(ad2.add (k * 5)).block, (ad2.add (k * 5)).off + 4, none⟩) = some (.slice x2.f_Backup_a x.f_Backup.length x2.f_Backup_c)))) (by kernel_rfl) ⟨HK.out _ (Bag.drew1 S2.out).old, HK2.out _ (Bag.drew1 S2.out).old⟩ (fun hS => ?_)
   have S3 := Lib.hid (Bag.drew1 S2.out)
   clear S2
   generalize World.drew _ = w1 at hS S3 ⊢
   refine tk 0 rfl ?_
   try simp only [zp0, zp1, zp2, zp3, zp4]
   refine tk 1 rfl ?_
   try simp only [zp0, zp1, zp2, zp3, zp4]
   refine tk 2 rfl ?_
   try simp only [zp0, zp1, zp2, zp3, zp4]
   refine tk 3 rfl ?_
   try simp only [zp0, zp1, zp2, zp3, zp4]
   refine tk 4 rfl ?_
   try simp only [zp0, zp1, zp2, zp3, zp4]
   refine tk 5 rfl ?_
   try simp only [zp0, zp1, zp2, zp3, zp4]
   refine tk 6 rfl ?_
   try simp only [zp0, zp1, zp2, zp3, zp4]
   refine tk 7 rfl ?_
   try simp only [zp0, zp1, zp2, zp3, zp4]
   refine Reg.one_op (i := 8) rfl (by kernel_rfl) (fun K hK => ?_)
   go_simp
   go_at_call 197
   refine (HEQ.out _ S3.out.old).mono ?_
   rintro e w2 ⟨rfl, hb⟩
   have S4 := Lib.hid (S3.out.keep hb)
   clear S3
   clear hb
   go_wp2_with fail
   refine hK.out _ _ ⟨HK.out _ S4.out.old, HK2.out _ S4.out.old⟩ (fun hS => ?_)
   clear hK K
   try simp only [zp0, zp1, zp2, zp3, zp4]
   refine tk 9 rfl ?_
   try simp only [zp0, zp1, zp2, zp3, zp4]
   refine wpAnyH_done (by kernel_rfl) ?_ _
   obtain ⟨f0, f1, f2, f3, f4⟩ := HK.out _ S4.out.old
   obtain ⟨f5, f6, f7, f8, f9⟩ := HK2.out _ S4.out.old
   go_wp2_with fail
   go_roundw
   case rel => exact ⟨k + 1, by omega, by go_num, S4.out⟩
   case measure => simp [intOf]; omega
  ·
   skip
   go_wp2_with fail
   go_ret
   exact ⟨rfl, S2.out.old⟩
end Go.Proofs.Ytojcdmgcbgpdmaa.V

namespace Go.Proofs.Ytojcdmgcbgpdmaa.V
open Go.ChangeShapes Go.WideShapes Go.ChangeAt Go.RowKit Mem Sl Sv Bag
open L5 (markT)
structure X_TxQueue where
 f_Txs : List X_Tx
structure Y_TxQueue where
 f_Txs_a : Option Addr
 f_Txs_c : Nat
 f_Txs : List Y_Tx
def co_TxQueue (z : Y_TxQueue) : X_TxQueue := ⟨coS_Tx z.f_Txs⟩
def cl_TxQueue (z : Y_TxQueue) : List Value := [.slice z.f_Txs_a z.f_Txs.length z.f_Txs_c]
def cs_TxQueue (z : Y_TxQueue) : Array Value := #[.slice z.f_Txs_a z.f_Txs.length z.f_Txs_c]
def vv_TxQueue (z : Y_TxQueue) : Value := .agg #[.slice z.f_Txs_a z.f_Txs.length z.f_Txs_c]
def rw_TxQueue (z : Y_TxQueue) : List RowS := rs_Tx z.f_Txs_a z.f_Txs_c z.f_Txs
def wt_TxQueue (c : X_TxQueue) : Nat := wsum wt_Tx c.f_Txs
theorem wt_TxQueue_parts (z : Y_TxQueue) : wt_TxQueue (co_TxQueue z) = wsum wt_Tx (coS_Tx z.f_Txs) := rfl
def Wide_TxQueue (z : Y_TxQueue) : Prop := (z.f_Txs.length ≤ maxLen ∧ ∀ x ∈ z.f_Txs, Wide_Tx x)
section
variable {H : Type} {enc : TypeId × Value → H} {W : World} {b : Nat} {sp : Nat → Bool} {hd : Bool}
theorem trod_TxQueue {fuel : Nat} {cs : List Value} {x : DataW H × List MemPlace} (h : DataW.trod enc Try.prog W b sp hd fuel 94 cs = some x) (hlt : ∀ p ∈ x.2, p.block < W.heap.size) : ∃ z : Y_TxQueue, cs = cl_TxQueue z ∧ RowsRd W W.heap.size (rw_TxQueue z) ∧ Wide_TxQueue z := by
 obtain ⟨xs, n, _, hx, hl, hlen, hf⟩ := DataW.trod_struct Try.underlying94 h
 have hlN : cs.length = 1 := hl.trans (by kernel_rfl)
 match cs, hlN with
 | [c0], _ =>
  have h0 : DataW.trod enc Try.prog W b sp hd n 92 (List.take (Try.prog.cellsOf 92) (List.drop 0 [c0])) = xs[0]? := hf 0 _ rfl
  rw [show Try.prog.cellsOf 92 = 1 by kernel_rfl, List.getElem?_eq_getElem (by rw [hlen]; decide)] at h0
  obtain ⟨a0, x0, c0', e0, r0, v0, l0, w0⟩ := trods_Tx h0 (fun p hp => hlt p (by rw [hx]; exact List.mem_flatMap.2 ⟨_, List.getElem_mem (show 0 < xs.length by rw [hlen]; decide), hp⟩))
  simp only [List.drop_succ_cons, List.drop_zero, List.take_succ_cons, List.take_zero, List.cons.injEq, and_true] at e0
  subst e0
  exact ⟨⟨a0, c0', x0⟩, rfl, rd_cons ⟨r0.1, r0.2.1, r0.2.2⟩ (by rw [rws_Tx_eq]; exact v0), ⟨l0, w0⟩⟩
theorem open_TxQueue {b0 : Nat} {v : Value} {d : DataW H} {ps : List MemPlace} (hval : Value.okWide Try.prog W .any b0 94 v) (h0 : DataW.Trod enc Try.prog W b sp hd 94 v d ps) (hlt : ∀ p ∈ ps, p.block < W.heap.size) : ∃ z : Y_TxQueue, v = vv_TxQueue z ∧ RowsRd W W.heap.size (rw_TxQueue z) ∧ Wide_TxQueue z := by
 obtain ⟨cs, rfl, _⟩ := okWide_struct Try.underlying94 hval
 obtain ⟨fuel, hf0⟩ := h0
 obtain ⟨z, e, h1, h2⟩ := trod_TxQueue hf0 hlt
 obtain ⟨l⟩ := cs
 exact ⟨z, by rw [show l = cl_TxQueue z from e]; rfl, h1, h2⟩
end
set_option maxHeartbeats 4000000 in
theorem to_TxQueue (z : Y_TxQueue) (hf : wt_TxQueue (co_TxQueue z) ≤ 1048576) (w : World) (hr : RowsRd w w.heap.size (rw_TxQueue z)) : Calls Try.prog 66 #[vv_TxQueue z] w fun e w' => ∃ y : Y_TxQueue, e = .returned (vv_TxQueue y) ∧ co_TxQueue y = co_TxQueue z ∧ BagOwn w' w.heap.size (rw_TxQueue y) ∧ Below w.heap.size w w' := by
 have hfp := hf
 rw [wt_TxQueue_parts] at hfp
 have HC0 := Lib.hid (fun w' (h : Below w.heap.size w w') => to_TxS z.f_Txs_a z.f_Txs_c z.f_Txs (by omega) w' (((rd_head hr).reads.below h).more h.size) (((rd_tail hr).below h).more h.size))
 clear hfp hf hr
 unfold vv_TxQueue
 have S1 := Lib.hid (show Sl.Sep w _ [_, _] from L4.push_box (L4.push_box (Sl.Sep.start w) 94 #[.slice z.f_Txs_a z.f_Txs.length z.f_Txs_c] (w.heap.size) (by simp)) 98 #[.slice none 0 0] (w.heap.size + 1) (by simp))
 obtain ⟨wa, hwa⟩ : ∃ w_, w_ = ((w.alloc (.cells #[.slice z.f_Txs_a z.f_Txs.length z.f_Txs_c] 94)).alloc (.cells #[.slice none 0 0] 98)) := ⟨_, rfl⟩
 rw [← hwa] at S1
 go_enter Try.func66, Try.ntmps66
 go_upto_region 1 with fail
 rw [← hwa]
 clear hwa
 go_upto_region 2 with fail
 have S2 := Lib.hid (show Sl.Sep w _ [_, _, _] from L4.push_box S1.out 98 #[.slice none 0 0] wa.heap.size rfl)
 clear S1
 obtain ⟨g1, hg⟩ : ∃ g', g' = wa.heap.size := ⟨_, rfl⟩
 rw [← hg] at S2 ⊢
 clear hg
 generalize wa.alloc (.cells #[.slice none 0 0] 98) = w1 at S2 ⊢
 have f0 := Bag.cs1 S2.out 0 rfl
 go_wp2_with fail
 go_at_call 137
 refine (HC0.out _ S2.out.old).mono ?_
 rintro e w2 ⟨a0', c0', y0, rfl, hc0, ho, hb⟩
 clear f0
 have S3 := Lib.hid (show Sl.Sep w _ [_, _, L4.boxR g1 98 #[.slice none 0 0], Bag.bag (rs_Tx a0' c0' y0)] from Bag.push_bag S2.out hb ho)
 clear S2
 clear hb ho
 have HQ0 := Lib.hid hc0
 clear hc0
 have f0 := Bag.cs1 S3.out 0 rfl
 have f1 := Bag.cs1 S3.out 2 rfl
 have z0 := Bag.free_at S3.out 2 rfl 0
 go_upto_region 3 with fail
 clear f0 f1 z0
 have S4 := Lib.hid (show Sl.Sep w _ [_, _, L4.boxR g1 98 #[.slice a0' y0.length c0'], _] from L5.put_box5 (S3.out) 2 rfl 0 (.slice a0' y0.length c0'))
 clear S3
 have f0 := Bag.cs1 S4.out 1 rfl
 have f1 := Bag.cs1 S4.out 2 rfl
 have z0 := Bag.free_at S4.out 1 rfl 0
 go_wp2_with fail
 clear f0 f1 z0
 have S5 := Lib.hid (show Sl.Sep w _ [_, L4.boxR (w.heap.size + 1) 98 #[.slice a0' y0.length c0'], _, _] from L5.put_box5 (S4.out) 1 rfl 0 (.slice a0' y0.length c0'))
 clear S4
 have f0 := Bag.cs1 S5.out 1 rfl
 refine bodyPost_ret (v := .agg #[.slice a0' y0.length c0']) (by simp [results, Try.results66, go_sem, *]) rfl ?_
 clear f0
 refine ⟨⟨a0', c0', y0⟩, rfl, ?_, Bag.bag_from S5.out 3 rfl, S5.out.old⟩
 show (⟨coS_Tx y0⟩ : X_TxQueue) = (⟨coS_Tx z.f_Txs⟩ : X_TxQueue)
 rw [HQ0.out]
set_option maxHeartbeats 4000000 in
theorem sz_TxQueue (z : Y_TxQueue) (q : Int) (hw : Wide_TxQueue z) (hq0 : -1 ≤ q) (hq1 : q ≤ 1048576) (w : World) (hr : RowsRd w w.heap.size (rw_TxQueue z)) : Calls Try.prog 64 #[vv_TxQueue z, .int .i64 q] w fun e w' => e = .returned (.int .i64 (lft q (wt_TxQueue (co_TxQueue z)))) ∧ Below w.heap.size w w' := by
 have HS0 := Lib.hid (fun (m : Int) (h0 : -1 ≤ m) (h1 : m ≤ 1048576) w' (h : Below w.heap.size w w') => sz_TxS z.f_Txs_a z.f_Txs_c z.f_Txs m hw.2 hw.1 h0 h1 w' (((rd_head hr).reads.below h).more h.size) (((rd_tail hr).below h).more h.size))
 have HW := Lib.hid (wt_TxQueue_parts z)
 clear hw hr
 unfold vv_TxQueue
 have S1 := Lib.hid (show Sl.Sep w _ [_] from L4.push_box (Sl.Sep.start w) 94 #[.slice z.f_Txs_a z.f_Txs.length z.f_Txs_c] (w.heap.size) (by simp))
 obtain ⟨wa, hwa⟩ : ∃ w_, w_ = (w.alloc (.cells #[.slice z.f_Txs_a z.f_Txs.length z.f_Txs_c] 94)) := ⟨_, rfl⟩
 rw [← hwa] at S1
 go_enter Try.func64, Try.ntmps64
 go_upto_region 1 with fail
 rw [← hwa]
 clear hwa
 have f0 := Bag.cs1 S1.out 0 rfl
 obtain ⟨u0, hu⟩ : ∃ u, lft q (wsum wt_Tx (coS_Tx z.f_Txs)) = u := ⟨_, rfl⟩
 have hc0 := lft_cases hu
 have hr0 := lft_range (q := q) (wsum wt_Tx (coS_Tx z.f_Txs)) (by omega)
 rw [hu] at hr0
 have HCU := HS0.out q (by omega) (by omega)
 simp only [hu] at HCU
 replace HCU := Lib.hid HCU
 clear hu
 go_wp2_with fail
 go_at_call 134
 refine (HCU.out _ S1.out.old).mono ?_
 rintro e w1 ⟨rfl, hb⟩
 clear f0
 have S2 := Lib.hid (S1.out.keep hb)
 clear S1
 clear hb
 have f0 := Bag.cs1 S2.out 0 rfl
 clear HCU
 by_cases hn0 : u0 < 0
 ·
  have hm1 : u0 = -1 := by omega
  subst hm1
  go_wp2_with fail
  go_ret
  exact ⟨by rw [HW.out, lft_neg (by omega)] <;> rfl, S2.out.old⟩
 ·
  skip
  go_wp2_with fail
  go_ret
  exact ⟨by rw [HW.out, lft_pos (by omega)] <;> first | rfl | (refine congrArg (fun i => Ending.returned (.int .i64 i)) ?_; omega), S2.out.old⟩
set_option maxHeartbeats 4000000 in
theorem eq_TxQueue (y z : Y_TxQueue) (hc : co_TxQueue y = co_TxQueue z) (hf : wt_TxQueue (co_TxQueue y) ≤ 1125899906842624) (w : World) (hr : RowsRd w w.heap.size (rw_TxQueue y)) (hr2 : RowsRd w w.heap.size (rw_TxQueue z)) : Calls Try.prog 68 #[vv_TxQueue y, vv_TxQueue z] w fun e w' => e = .returned (.bool true) ∧ Below w.heap.size w w' := by
 have hfp := hf
 rw [wt_TxQueue_parts] at hfp
 have ee0 : z.f_Txs.length = y.f_Txs.length := (by have h := congrArg List.length (show coS_Tx y.f_Txs = coS_Tx z.f_Txs from congrArg X_TxQueue.f_Txs (hc)); rw [coS_Tx_eq, coS_Tx_eq, List.length_map, List.length_map] at h; exact h.symm)
 have HE0 := Lib.hid (fun w' (h : Below w.heap.size w w') => eq_TxS y.f_Txs_a z.f_Txs_a y.f_Txs_c z.f_Txs_c y.f_Txs z.f_Txs (congrArg X_TxQueue.f_Txs hc) (by omega) w' (((rd_head hr).reads.below h).more h.size) (((rd_tail hr).below h).more h.size) (((rd_head hr2).reads.below h).more h.size) (((rd_tail hr2).below h).more h.size))
 simp only [ee0] at HE0
 have hv : vv_TxQueue z = .agg #[.slice z.f_Txs_a y.f_Txs.length z.f_Txs_c] := by unfold vv_TxQueue; simp only [ee0]
 rw [hv]
 clear hv hfp hf hc hr hr2 ee0
 unfold vv_TxQueue
 have S1 := Lib.hid (show Sl.Sep w _ [_, _] from L4.push_box (L4.push_box (Sl.Sep.start w) 98 #[.slice y.f_Txs_a y.f_Txs.length y.f_Txs_c] (w.heap.size) (by simp)) 98 #[.slice z.f_Txs_a y.f_Txs.length z.f_Txs_c] (w.heap.size + 1) (by simp))
 obtain ⟨wa, hwa⟩ : ∃ w_, w_ = ((w.alloc (.cells #[.slice y.f_Txs_a y.f_Txs.length y.f_Txs_c] 98)).alloc (.cells #[.slice z.f_Txs_a y.f_Txs.length z.f_Txs_c] 98)) := ⟨_, rfl⟩
 rw [← hwa] at S1
 go_enter Try.func68, Try.ntmps68
 go_upto_region 1 with fail
 rw [← hwa]
 clear hwa
 have f0 := Bag.cs1 S1.out 0 rfl
 have f1 := Bag.cs1 S1.out 1 rfl
 go_wp2_with fail
 go_at_call 141
 refine (HE0.out _ S1.out.old).mono ?_
 rintro e w1 ⟨rfl, hb⟩
 clear f0 f1
 have S2 := Lib.hid (S1.out.keep hb)
 clear S1
 clear hb
 have f0 := Bag.cs1 S2.out 0 rfl
 have f1 := Bag.cs1 S2.out 1 rfl
 go_wp2_with fail
 go_ret
 exact ⟨rfl, S2.out.old⟩
end Go.Proofs.Ytojcdmgcbgpdmaa.V

namespace Go.Proofs.Ytojcdmgcbgpdmaa.L10
open V L6 L9
open L4 (K isK cmpK R)
open Go.ChangeShapes Go.WideShapes Go.ChangeAt Go.RowKit Mem Sl Sv Bag

def eqSl (xs ys : List S6) : Bool := xs.length == ys.length && (xs.zip ys).all fun p => eqS p.1 p.2
def eqT (a b : X_Tx) : Bool := a.f_Id == b.f_Id && (eqOs a.f_Ops b.f_Ops && (a.f_At == b.f_At && (a.f_State == b.f_State && eqSl a.f_Backup b.f_Backup)))
def eqTs (xs ys : List X_Tx) : Bool := xs.length == ys.length && (xs.zip ys).all fun p => eqT p.1 p.2

structure FitT (t : X_Tx) : Prop where
 ops : ∀ o ∈ t.f_Ops, FitO o
 len : t.f_Ops.length ≤ 1048576
 back : ∀ s ∈ t.f_Backup, FitS s
 blen : t.f_Backup.length ≤ 1048576
structure FitQ (q : List X_Tx) : Prop where
 txs : ∀ t ∈ q, FitT t
 len : q.length ≤ 1048576

theorem coT_len {ts : List Y_Tx} : (coS_Tx ts).length = ts.length := by rw [coS_Tx_eq, List.length_map]
theorem coT_at {ts : List Y_Tx} {k : Nat} {x : Y_Tx} (h : ts[k]? = some x) : (coS_Tx ts)[k]? = some (co_Tx x) := by rw [coS_Tx_eq, List.getElem?_map, h]; rfl
section
variable {w : World} {B : Nat} {z : Y_Tx}
theorem rdTs {ts : List Y_Tx} {k : Nat} {x : Y_Tx} (h : RowsRd w B (rws_Tx ts)) (hx : ts[k]? = some x) : RowsRd w B (rw_Tx x) := rd_el (rw_ := rw_Tx) h hx
theorem rdTo (h : RowsRd w B (rw_Tx z)) : Reads w B z.f_Ops_a (z.f_Ops.flatMap cl_Op) := (rd_head (rd_left h)).reads
theorem rdTox (h : RowsRd w B (rw_Tx z)) : RowsRd w B (rws_Op z.f_Ops) := rd_tail (rd_left h)
theorem rdTb (h : RowsRd w B (rw_Tx z)) : Reads w B z.f_Backup_a (z.f_Backup.flatMap cl_Store) := (rd_head (rd_right h)).reads
theorem rdTbx (h : RowsRd w B (rw_Tx z)) : RowsRd w B (rws_Store z.f_Backup) := rd_tail (rd_right h)
end
section
variable {w : World} {B : Nat} {z : Y_TxQueue}
theorem rdQ (h : RowsRd w B (rw_TxQueue z)) : Reads w B z.f_Txs_a (z.f_Txs.flatMap cl_Tx) := (rd_head h).reads
theorem rdQx (h : RowsRd w B (rw_TxQueue z)) : RowsRd w B (rws_Tx z.f_Txs) := rd_tail h
end

end Go.Proofs.Ytojcdmgcbgpdmaa.L10

namespace Go.Proofs.Ytojcdmgcbgpdmaa.V
open Go.ChangeShapes Go.WideShapes Go.ChangeAt Go.RowKit Mem Sl Sv Bag
structure Y_OpZ where
 a : Option Addr
 c : Nat
 xs : List Y_Op
section
variable {H : Type} {enc : TypeId × Value → H} {W : World} {b : Nat} {sp : Nat → Bool} {hd : Bool}
end
end Go.Proofs.Ytojcdmgcbgpdmaa.V

namespace Go.Proofs.Ytojcdmgcbgpdmaa.L9
open V L6
open L4 (K isK cmpK)
open L5 (F isR isN Small)
open Go.ChangeShapes Go.WideShapes Go.ChangeAt Go.RowKit Mem Sl Ex L2 Sv Bag

theorem fitR_wt {l : List F} (h : wt_Record l ≤ 1048576) : l.length ≤ 1048576 ∧ Small l := by
 have h1 : l.length ≤ wt_Record l := wsum_len wt_Field l
 refine ⟨by omega, fun f hf => ?_⟩
 have h2 : wt_Field f + 1 ≤ wt_Record l := wsum_mem hf
 have h3 : wt_Field f = f.name.size := rfl
 omega
theorem fitO_wt {o : X_Op} (h : wt_Op o ≤ 1048576) : FitO o := by
 have h1 : wt_Op o = o.f_Store.size + (o.f_Key.text.size + (wt_Record o.f_Record + o.f_Field.size)) := rfl
 obtain ⟨h2, h3⟩ := fitR_wt (l := o.f_Record) (by omega)
 exact ⟨by omega, by omega, h2, h3, by omega⟩
theorem fitOs_wt {l : List X_Op} (h : wsum wt_Op l ≤ 1048576) : l.length ≤ 1048576 ∧ ∀ o ∈ l, FitO o := by
 have h1 := wsum_len wt_Op l
 refine ⟨by omega, fun o ho => fitO_wt ?_⟩
 have h2 : wt_Op o + 1 ≤ wsum wt_Op l := wsum_mem ho
 omega
end Go.Proofs.Ytojcdmgcbgpdmaa.L9

namespace Go.Proofs.Ytojcdmgcbgpdmaa.L10
open V L6 L9
open Go.ChangeShapes Go.WideShapes Go.ChangeAt Go.RowKit Mem Sl Sv Bag

theorem fitI_wt {x : It} (h : wt_Item x ≤ 1048576) : FitI x := by
 have h1 : wt_Item x = x.k.text.size + wt_Record x.l := rfl
 obtain ⟨h2, h3⟩ := fitR_wt (l := x.l) (by omega)
 exact ⟨by omega, h2, h3⟩
theorem fitS_wt {s : S6} (h : wt_Store s ≤ 1048576) : FitS s := by
 have h1 : wt_Store s = s.name.size + wsum wt_Item s.items := rfl
 have h2 := wsum_len wt_Item s.items
 refine ⟨by omega, by omega, fun x hx => fitI_wt ?_⟩
 have h3 : wt_Item x + 1 ≤ wsum wt_Item s.items := wsum_mem hx
 omega
theorem fitT_wt {t : X_Tx} (h : wt_Tx t ≤ 1048576) : FitT t := by
 have h1 : wt_Tx t = wsum wt_Op t.f_Ops + wsum wt_Store t.f_Backup := rfl
 have h2 := fitOs_wt (l := t.f_Ops) (by omega)
 have h3 := wsum_len wt_Store t.f_Backup
 refine ⟨h2.2, h2.1, fun s hs => fitS_wt ?_, by omega⟩
 have h4 : wt_Store s + 1 ≤ wsum wt_Store t.f_Backup := wsum_mem hs
 omega
theorem fitQ_wt {z : Y_TxQueue} (h : wt_TxQueue (co_TxQueue z) ≤ 1048576) : z.f_Txs.length ≤ 1048576 ∧ ∀ t ∈ coS_Tx z.f_Txs, FitT t := by
 have h1 : wt_TxQueue (co_TxQueue z) = wsum wt_Tx (coS_Tx z.f_Txs) := rfl
 have h2 := wsum_len wt_Tx (coS_Tx z.f_Txs)
 rw [coT_len] at h2
 refine ⟨by omega, fun t ht => fitT_wt ?_⟩
 have h4 : wt_Tx t + 1 ≤ wsum wt_Tx (coS_Tx z.f_Txs) := wsum_mem ht
 omega
end Go.Proofs.Ytojcdmgcbgpdmaa.L10

set_option linter.unusedSimpArgs false
namespace Go.Proofs.Ytojcdmgcbgpdmaa.L9
open V L6
open L4 (K isK cmpK)
open L5 (F isR isN string_geq)
open Go.Op (bytesLess)
open Go.ChangeShapes Go.WideShapes Go.ChangeAt Go.RowKit Mem Sl Ex L2 Sv Bag

set_option maxHeartbeats 8000000 in
theorem specEqualOps_any (a : Option Addr) (c : Nat) (os : List Y_Op) (hl : os.length ≤ 1048576) (hf : ∀ o ∈ coS_Op os, FitO o) (a2 : Option Addr) (c2 : Nat) (os2 : List Y_Op) (hl2 : os2.length ≤ 1048576) (hf2 : ∀ o ∈ coS_Op os2, FitO o) (w : World) (hr : Reads w w.heap.size a (os.flatMap cl_Op)) (hx : RowsRd w w.heap.size (rws_Op os)) (hr2 : Reads w w.heap.size a2 (os2.flatMap cl_Op)) (hx2 : RowsRd w w.heap.size (rws_Op os2)) :
  Calls Try.prog 152 #[.slice a os.length c, .slice a2 os2.length c2] w fun e w' => e = .returned (.bool (eqOs (coS_Op os) (coS_Op os2))) ∧ Below w.heap.size w w' := by
 have HR := Lib.hid (fun w' (h : Below w.heap.size w w') => hr.below h)
 have HX := Lib.hid (fun w' (h : Below w.heap.size w w') => (hx.below h).more h.size)
 have HF := Lib.hid hf
 obtain ⟨N, hN⟩ : ∃ n, n = os.length := ⟨_, rfl⟩
 rw [← hN] at hl ⊢
 have hl' : (N : Int) ≤ 1048576 := by omega
 have HN := Lib.hid hN
 clear hN hr hx hf
 have HR2 := Lib.hid (fun w' (h : Below w.heap.size w w') => hr2.below h)
 have HX2 := Lib.hid (fun w' (h : Below w.heap.size w w') => (hx2.below h).more h.size)
 have HF2 := Lib.hid hf2
 obtain ⟨N2, hN2⟩ : ∃ n, n = os2.length := ⟨_, rfl⟩
 rw [← hN2] at hl2 ⊢
 have hl2' : (N2 : Int) ≤ 1048576 := by omega
 have HN2 := Lib.hid hN2
 clear hN2 hr2 hx2 hf2
 skip
 have HSL := Lib.hid (show (coS_Op os).length = N ∧ (coS_Op os2).length = N2 from by rw [coS_len, coS_len, HN.out, HN2.out]; exact ⟨rfl, rfl⟩)
 obtain ⟨be, hbe⟩ : ∃ b, eqOs (coS_Op os) (coS_Op os2) = b := ⟨_, rfl⟩
 rw [hbe]
 have HB := Lib.hid hbe
 clear hbe
 have S1 := Lib.hid (show Sl.Sep w w [] from Sl.Sep.start w)
 by_cases hN : N = N2
 ·
  subst hN
  go_enter Try.func152, Try.ntmps152
  go_wp2_with fail
  go_loopw [5] (fun i wr => ∃ k : Nat, k ≤ N ∧ i = .int .i64 k ∧ Hid ((∀ j (h1 : j < (coS_Op os).length) (h2 : j < (coS_Op os2).length), j < k → eqO (coS_Op os)[j] (coS_Op os2)[j] = true) ∧ Sl.Sep w wr [])) (fun i _ => N - (intOf i).toNat)
  case atStart => exact ⟨0, Nat.zero_le _, rfl, And.intro (fun j h1 h2 h => absurd h (by omega)) S1.out⟩
  case round =>
   obtain ⟨k, hk, rfl, hrel⟩ := hrel
   have HA := Lib.hid hrel.out.1
   have S2 := Lib.hid hrel.out.2
   clear hrel S1
   by_cases hlt : (k : Int) < (N : Int)
   ·
    skip
    have hkl : k < os.length := by have := HN.out; omega
    have hkl2 : k < os2.length := by have := HN2.out; omega
    obtain ⟨x, hx⟩ : ∃ x, os[k]? = some x := ⟨_, List.getElem?_eq_getElem hkl⟩
    obtain ⟨oad, e'⟩ := el_some cl_Op_len (by decide) (HR.out _ S2.out.old) hkl
    subst e'
    have hro := fun w' (h : Below w.heap.size w w') => rdOs (HX.out w' h) hx
    have hrr := fun w' (h : Below w.heap.size w w') => rdO (rdOs (HX.out w' h) hx)
    obtain ⟨kd, st, ⟨kk, kn, kt⟩, ⟨ra, rc, rl⟩, fd⟩ := x
    have HK := Lib.hid (fun w' (h : Below w.heap.size w w') => el7 cl_Op_len (HR.out _ h) hx rfl)
    dsimp only at HK hrr
    have HRO := Lib.hid hro
    have HRR := Lib.hid hrr
    have HC := Lib.hid (show (coS_Op os)[k]? = some (⟨kd, st, ⟨kk, kn, kt⟩, rl, fd⟩ : X_Op) from coS_at hx)
    have HFO := Lib.hid (HF.out _ (List.mem_of_getElem? HC.out))
    clear hx hrr hro
    obtain ⟨x, hx⟩ : ∃ x, os2[k]? = some x := ⟨_, List.getElem?_eq_getElem hkl2⟩
    obtain ⟨oad2, e'⟩ := el_some cl_Op_len (by decide) (HR2.out _ S2.out.old) hkl2
    subst e'
    have hro := fun w' (h : Below w.heap.size w w') => rdOs (HX2.out w' h) hx
    have hrr := fun w' (h : Below w.heap.size w w') => rdO (rdOs (HX2.out w' h) hx)
    obtain ⟨kd2, st2, ⟨kk2, kn2, kt2⟩, ⟨ra2, rc2, rl2⟩, fd2⟩ := x
    have HK2 := Lib.hid (fun w' (h : Below w.heap.size w w') => el7 cl_Op_len (HR2.out _ h) hx rfl)
    dsimp only at HK2 hrr
    have HRO2 := Lib.hid hro
    have HRR2 := Lib.hid hrr
    have HC2 := Lib.hid (show (coS_Op os2)[k]? = some (⟨kd2, st2, ⟨kk2, kn2, kt2⟩, rl2, fd2⟩ : X_Op) from coS_at hx)
    have HFO2 := Lib.hid (HF2.out _ (List.mem_of_getElem? HC2.out))
    clear hx hrr hro
    obtain ⟨b, hb⟩ : ∃ b, L5.eqR rl rl2 = b := ⟨_, rfl⟩
    have HER := fun w' (h : Below w.heap.size w w') => L5.specEqualRecords_any ra ra2 rc rc2 rl rl2 (by have h : rl.length ≤ 1048576 := HFO.out.len; omega) (by have h : rl2.length ≤ 1048576 := HFO2.out.len; omega) w' (HRR.out w' h) (HRR2.out w' h)
    rw [hb] at HER
    replace HER := Lib.hid HER
    obtain ⟨bk, hbk⟩ : ∃ b, eqK (⟨kk, kn, kt⟩ : K) (⟨kk2, kn2, kt2⟩ : K) = b := ⟨_, rfl⟩
    have HKE := fun w => keyO_eq (⟨kk, kn, kt⟩ : K) (⟨kk2, kn2, kt2⟩ : K) w
    rw [hbk] at HKE
    dsimp only at HKE
    have HEO := Lib.hid (show eqO (⟨kd, st, ⟨kk, kn, kt⟩, rl, fd⟩ : X_Op) (⟨kd2, st2, ⟨kk2, kn2, kt2⟩, rl2, fd2⟩ : X_Op) = ((kd == kd2) && ((st.toList == st2.toList) && (bk && (b && (fd.toList == fd2.toList))))) from by rw [← hb, ← hbk]; rfl)
    clear hb hbk
    obtain ⟨f0, f1, f2, f3, f4, f5, f6⟩ := HK.out _ S2.out.old
    obtain ⟨f7, f8, f9, f10, f11, f12, f13⟩ := HK2.out _ S2.out.old
    cases hk1 : kd == kd2 with
    | false =>
     have hk1n : (kd != kd2) = true := by rw [bne, hk1]; rfl
     go_upto_region 6 with fail
     clear f0 f1 f2 f3 f4 f5 f6 f7 f8 f9 f10 f11 f12 f13
     refine wp_region_held_drew (S := (fun w' => (w'.cell? (oad.add (k * 7)) = some (.int .i64 kd) ∧ w'.cell? (⟨(oad.add (k * 7)).block, (oad.add (k * 7)).off + 1, none⟩) = some (.string st) ∧ w'.cell? (⟨(oad.add (k * 7)).block, (oad.add (k * 7)).off + 2, none⟩) = some (.int .i64 kk) ∧ w'.cell? (⟨(oad.add (k * 7)).block, (oad.add (k * 7)).off + 3, none⟩) = some (.int .i64 kn) ∧ w'.cell? (⟨(oad.add (k * 7)).block, (oad.add (k * 7)).off + 4, none⟩) = some (.string kt) ∧ w'.cell? (⟨(oad.add (k * 7)).block, (oad.add (k * 7)).off + 5, none⟩) = some (.slice ra rl.length rc) ∧ w'.cell? (⟨(oad.add (k * 7)).block, (oad.add (k * 7)).off + 6, none⟩) = some (.string fd)) ∧ (w'.cell? (oad2.add (k * 7)) = some (.int .i64 kd2) ∧ w'.cell? (⟨(oad2.add (k * 7)).block, (oad2.add (k * 7)).off + 1, none⟩) = some (.string st2) ∧ w'.cell? (⟨(oad2.add (k * 7)).block, (oad2.add (k * 7)).off + 2, none⟩) = some (.int .i64 kk2) ∧ w'.cell? (⟨(oad2.add (k * 7)).block, (oad2.add (k * 7)).off + 3, none⟩) = some (.int .i64 kn2) ∧ w'.cell? (⟨(oad2.add (k * 7)).block, (oad2.add (k * 7)).off + 4, none⟩) = some (.string kt2) ∧ w'.cell? (⟨(oad2.add (k * 7)).block, (oad2.add (k * 7)).off + 5, none⟩) = some (.slice ra2 rl2.length rc2) ∧ w'.cell? (⟨(oad2.add (k * 7)).block, (oad2.add (k * 7)).off + 6, none⟩) = some (.string fd2)))) (by kernel_rfl) ⟨HK.out _ (Bag.drew1 S2.out).old, HK2.out _ (Bag.drew1 S2.out).old⟩ (fun hS => ?_)
     have S3 := Lib.hid (Bag.drew1 S2.out)
     clear S2
     generalize World.drew _ = w1 at hS S3 ⊢
     refine tk 0 rfl ?_
     try simp only [zp0, zp1, zp2, zp3, zp4]
     refine tk 1 rfl ?_
     try simp only [zp0, zp1, zp2, zp3, zp4]
     refine tk 2 rfl ?_
     try simp only [zp0, zp1, zp2, zp3, zp4]
     refine tk 3 rfl ?_
     try simp only [zp0, zp1, zp2, zp3, zp4]
     refine tk 4 rfl ?_
     try simp only [zp0, zp1, zp2, zp3, zp4]
     refine tk 5 rfl ?_
     try simp only [zp0, zp1, zp2, zp3, zp4]
     refine tk 6 rfl ?_
     try simp only [zp0, zp1, zp2, zp3, zp4]
     refine tk 7 rfl ?_
     try simp only [zp0, zp1, zp2, zp3, zp4]
     refine tk 8 rfl ?_
     try simp only [zp0, zp1, zp2, zp3, zp4]
     refine tk 9 rfl ?_
     try simp only [zp0, zp1, zp2, zp3, zp4]
     refine tk 10 rfl ?_
     try simp only [zp0, zp1, zp2, zp3, zp4]
     refine tk 11 rfl ?_
     try simp only [zp0, zp1, zp2, zp3, zp4]
     refine sk 12 rfl ?_
     try simp only [zp0, zp1, zp2, zp3, zp4]
     refine sk 13 rfl ?_
     try simp only [zp0, zp1, zp2, zp3, zp4]
     refine sk 14 rfl ?_
     try simp only [zp0, zp1, zp2, zp3, zp4]
     refine sk 15 rfl ?_
     try simp only [zp0, zp1, zp2, zp3, zp4]
     refine sk 16 rfl ?_
     try simp only [zp0, zp1, zp2, zp3, zp4]
     refine sk 17 rfl ?_
     try simp only [zp0, zp1, zp2, zp3, zp4]
     refine sk 18 rfl ?_
     try simp only [zp0, zp1, zp2, zp3, zp4]
     refine sk 19 rfl ?_
     try simp only [zp0, zp1, zp2, zp3, zp4]
     refine sk 20 rfl ?_
     try simp only [zp0, zp1, zp2, zp3, zp4]
     refine sk 21 rfl ?_
     try simp only [zp0, zp1, zp2, zp3, zp4]
     refine sk 22 rfl ?_
     try simp only [zp0, zp1, zp2, zp3, zp4]
     refine tk 23 rfl ?_
     try simp only [zp0, zp1, zp2, zp3, zp4]
     refine tk 24 rfl ?_
     try simp only [zp0, zp1, zp2, zp3, zp4]
     refine sk 25 rfl ?_
     try simp only [zp0, zp1, zp2, zp3, zp4]
     refine sk 26 rfl ?_
     try simp only [zp0, zp1, zp2, zp3, zp4]
     refine sk 27 rfl ?_
     try simp only [zp0, zp1, zp2, zp3, zp4]
     refine sk 28 rfl ?_
     try simp only [zp0, zp1, zp2, zp3, zp4]
     refine sk 29 rfl ?_
     try simp only [zp0, zp1, zp2, zp3, zp4]
     refine sk 30 rfl ?_
     try simp only [zp0, zp1, zp2, zp3, zp4]
     refine sk 31 rfl ?_
     try simp only [zp0, zp1, zp2, zp3, zp4]
     refine sk 32 rfl ?_
     try simp only [zp0, zp1, zp2, zp3, zp4]
     refine sk 33 rfl ?_
     try simp only [zp0, zp1, zp2, zp3, zp4]
     refine sk 34 rfl ?_
     try simp only [zp0, zp1, zp2, zp3, zp4]
     refine sk 35 rfl ?_
     try simp only [zp0, zp1, zp2, zp3, zp4]
     refine tk 36 rfl ?_
     try simp only [zp0, zp1, zp2, zp3, zp4]
     refine tk 37 rfl ?_
     try simp only [zp0, zp1, zp2, zp3, zp4]
     refine sk 38 rfl ?_
     try simp only [zp0, zp1, zp2, zp3, zp4]
     refine sk 39 rfl ?_
     try simp only [zp0, zp1, zp2, zp3, zp4]
     refine sk 40 rfl ?_
     try simp only [zp0, zp1, zp2, zp3, zp4]
     refine sk 41 rfl ?_
     try simp only [zp0, zp1, zp2, zp3, zp4]
     refine sk 42 rfl ?_
     try simp only [zp0, zp1, zp2, zp3, zp4]
     refine sk 43 rfl ?_
     try simp only [zp0, zp1, zp2, zp3, zp4]
     refine sk 44 rfl ?_
     try simp only [zp0, zp1, zp2, zp3, zp4]
     refine sk 45 rfl ?_
     try simp only [zp0, zp1, zp2, zp3, zp4]
     refine sk 46 rfl ?_
     try simp only [zp0, zp1, zp2, zp3, zp4]
     refine sk 47 rfl ?_
     try simp only [zp0, zp1, zp2, zp3, zp4]
     refine sk 48 rfl ?_
     try simp only [zp0, zp1, zp2, zp3, zp4]
     refine tk 49 rfl ?_
     try simp only [zp0, zp1, zp2, zp3, zp4]
     refine tk 50 rfl ?_
     try simp only [zp0, zp1, zp2, zp3, zp4]
     refine sk 51 rfl ?_
     try simp only [zp0, zp1, zp2, zp3, zp4]
     refine sk 52 rfl ?_
     try simp only [zp0, zp1, zp2, zp3, zp4]
     refine sk 53 rfl ?_
     try simp only [zp0, zp1, zp2, zp3, zp4]
     refine sk 54 rfl ?_
     try simp only [zp0, zp1, zp2, zp3, zp4]
     refine sk 55 rfl ?_
     try simp only [zp0, zp1, zp2, zp3, zp4]
     refine sk 56 rfl ?_
     try simp only [zp0, zp1, zp2, zp3, zp4]
     refine sk 57 rfl ?_
     try simp only [zp0, zp1, zp2, zp3, zp4]
     refine sk 58 rfl ?_
     try simp only [zp0, zp1, zp2, zp3, zp4]
     refine sk 59 rfl ?_
     try simp only [zp0, zp1, zp2, zp3, zp4]
     refine sk 60 rfl ?_
     try simp only [zp0, zp1, zp2, zp3, zp4]
     refine Reg.skip_one (i := 61) rfl (by kernel_rfl) (by rfl) (by assumption) ?_
     try simp only [zp0, zp1, zp2, zp3, zp4]
     refine sk 62 rfl ?_
     try simp only [zp0, zp1, zp2, zp3, zp4]
     refine tk 63 rfl ?_
     try simp only [zp0, zp1, zp2, zp3, zp4]
     refine wpAnyH_done (by kernel_rfl) ?_ _
     obtain ⟨f0, f1, f2, f3, f4, f5, f6⟩ := HK.out _ S3.out.old
     obtain ⟨f7, f8, f9, f10, f11, f12, f13⟩ := HK2.out _ S3.out.old
     have HBK := Lib.hid (show eqO (⟨kd, st, ⟨kk, kn, kt⟩, rl, fd⟩ : X_Op) (⟨kd2, st2, ⟨kk2, kn2, kt2⟩, rl2, fd2⟩ : X_Op) = false from by rw [HEO.out, hk1]; simp)
     have HNO := Lib.hid (show eqOs (coS_Op os) (coS_Op os2) = false from zip_no k (len_of HC.out) (len_of HC2.out) (by rw [val_of HC.out, val_of HC2.out]; exact HBK.out))
     go_wp2_with fail
     go_ret
     exact ⟨by rw [← HB.out, HNO.out] <;> rfl, S3.out.old⟩
    | true =>
     have hk1n : (kd != kd2) = false := by rw [bne, hk1]; rfl
     cases hs1 : st.toList == st2.toList with
     | false =>
      have hs1n : (st.toList != st2.toList) = true := by rw [bne, hs1]; rfl
      go_upto_region 6 with fail
      clear f0 f1 f2 f3 f4 f5 f6 f7 f8 f9 f10 f11 f12 f13
      refine wp_region_held_drew (S := (fun w' => (w'.cell? (oad.add (k * 7)) = some (.int .i64 kd) ∧ w'.cell? (⟨(oad.add (k * 7)).block, (oad.add (k * 7)).off + 1, none⟩) = some (.string st) ∧ w'.cell? (⟨(oad.add (k * 7)).block, (oad.add (k * 7)).off + 2, none⟩) = some (.int .i64 kk) ∧ w'.cell? (⟨(oad.add (k * 7)).block, (oad.add (k * 7)).off + 3, none⟩) = some (.int .i64 kn) ∧ w'.cell? (⟨(oad.add (k * 7)).block, (oad.add (k * 7)).off + 4, none⟩) = some (.string kt) ∧ w'.cell? (⟨(oad.add (k * 7)).block, (oad.add (k * 7)).off + 5, none⟩) = some (.slice ra rl.length rc) ∧ w'.cell? (⟨(oad.add (k * 7)).block, (oad.add (k * 7)).off + 6, none⟩) = some (.string fd)) ∧ (w'.cell? (oad2.add (k * 7)) = some (.int .i64 kd2) ∧ w'.cell? (⟨(oad2.add (k * 7)).block, (oad2.add (k * 7)).off + 1, none⟩) = some (.string st2) ∧ w'.cell? (⟨(oad2.add (k * 7)).block, (oad2.add (k * 7)).off + 2, none⟩) = some (.int .i64 kk2) ∧ w'.cell? (⟨(oad2.add (k * 7)).block, (oad2.add (k * 7)).off + 3, none⟩) = some (.int .i64 kn2) ∧ w'.cell? (⟨(oad2.add (k * 7)).block, (oad2.add (k * 7)).off + 4, none⟩) = some (.string kt2) ∧ w'.cell? (⟨(oad2.add (k * 7)).block, (oad2.add (k * 7)).off + 5, none⟩) = some (.slice ra2 rl2.length rc2) ∧ w'.cell? (⟨(oad2.add (k * 7)).block, (oad2.add (k * 7)).off + 6, none⟩) = some (.string fd2)))) (by kernel_rfl) ⟨HK.out _ (Bag.drew1 S2.out).old, HK2.out _ (Bag.drew1 S2.out).old⟩ (fun hS => ?_)
      have S3 := Lib.hid (Bag.drew1 S2.out)
      clear S2
      generalize World.drew _ = w1 at hS S3 ⊢
      refine tk 0 rfl ?_
      try simp only [zp0, zp1, zp2, zp3, zp4]
      refine tk 1 rfl ?_
      try simp only [zp0, zp1, zp2, zp3, zp4]
      refine tk 2 rfl ?_
      try simp only [zp0, zp1, zp2, zp3, zp4]
      refine tk 3 rfl ?_
      try simp only [zp0, zp1, zp2, zp3, zp4]
      refine tk 4 rfl ?_
      try simp only [zp0, zp1, zp2, zp3, zp4]
      refine tk 5 rfl ?_
      try simp only [zp0, zp1, zp2, zp3, zp4]
      refine tk 6 rfl ?_
      try simp only [zp0, zp1, zp2, zp3, zp4]
      refine tk 7 rfl ?_
      try simp only [zp0, zp1, zp2, zp3, zp4]
      refine tk 8 rfl ?_
      try simp only [zp0, zp1, zp2, zp3, zp4]
      refine tk 9 rfl ?_
      try simp only [zp0, zp1, zp2, zp3, zp4]
      refine tk 10 rfl ?_
      try simp only [zp0, zp1, zp2, zp3, zp4]
      refine tk 11 rfl ?_
      try simp only [zp0, zp1, zp2, zp3, zp4]
      refine tk 12 rfl ?_
      try simp only [zp0, zp1, zp2, zp3, zp4]
      refine tk 13 rfl ?_
      try simp only [zp0, zp1, zp2, zp3, zp4]
      refine tk 14 rfl ?_
      try simp only [zp0, zp1, zp2, zp3, zp4]
      refine tk 15 rfl ?_
      try simp only [zp0, zp1, zp2, zp3, zp4]
      refine tk 16 rfl ?_
      try simp only [zp0, zp1, zp2, zp3, zp4]
      refine tk 17 rfl ?_
      try simp only [zp0, zp1, zp2, zp3, zp4]
      refine tk 18 rfl ?_
      try simp only [zp0, zp1, zp2, zp3, zp4]
      refine tk 19 rfl ?_
      try simp only [zp0, zp1, zp2, zp3, zp4]
      refine tk 20 rfl ?_
      try simp only [zp0, zp1, zp2, zp3, zp4]
      refine tk 21 rfl ?_
      try simp only [zp0, zp1, zp2, zp3, zp4]
      refine tk 22 rfl ?_
      try simp only [zp0, zp1, zp2, zp3, zp4]
      refine tk 23 rfl ?_
      try simp only [zp0, zp1, zp2, zp3, zp4]
      refine tk 24 rfl ?_
      try simp only [zp0, zp1, zp2, zp3, zp4]
      refine sk 25 rfl ?_
      try simp only [zp0, zp1, zp2, zp3, zp4]
      refine sk 26 rfl ?_
      try simp only [zp0, zp1, zp2, zp3, zp4]
      refine sk 27 rfl ?_
      try simp only [zp0, zp1, zp2, zp3, zp4]
      refine sk 28 rfl ?_
      try simp only [zp0, zp1, zp2, zp3, zp4]
      refine sk 29 rfl ?_
      try simp only [zp0, zp1, zp2, zp3, zp4]
      refine sk 30 rfl ?_
      try simp only [zp0, zp1, zp2, zp3, zp4]
      refine sk 31 rfl ?_
      try simp only [zp0, zp1, zp2, zp3, zp4]
      refine sk 32 rfl ?_
      try simp only [zp0, zp1, zp2, zp3, zp4]
      refine sk 33 rfl ?_
      try simp only [zp0, zp1, zp2, zp3, zp4]
      refine sk 34 rfl ?_
      try simp only [zp0, zp1, zp2, zp3, zp4]
      refine sk 35 rfl ?_
      try simp only [zp0, zp1, zp2, zp3, zp4]
      refine tk 36 rfl ?_
      try simp only [zp0, zp1, zp2, zp3, zp4]
      refine tk 37 rfl ?_
      try simp only [zp0, zp1, zp2, zp3, zp4]
      refine sk 38 rfl ?_
      try simp only [zp0, zp1, zp2, zp3, zp4]
      refine sk 39 rfl ?_
      try simp only [zp0, zp1, zp2, zp3, zp4]
      refine sk 40 rfl ?_
      try simp only [zp0, zp1, zp2, zp3, zp4]
      refine sk 41 rfl ?_
      try simp only [zp0, zp1, zp2, zp3, zp4]
      refine sk 42 rfl ?_
      try simp only [zp0, zp1, zp2, zp3, zp4]
      refine sk 43 rfl ?_
      try simp only [zp0, zp1, zp2, zp3, zp4]
      refine sk 44 rfl ?_
      try simp only [zp0, zp1, zp2, zp3, zp4]
      refine sk 45 rfl ?_
      try simp only [zp0, zp1, zp2, zp3, zp4]
      refine sk 46 rfl ?_
      try simp only [zp0, zp1, zp2, zp3, zp4]
      refine sk 47 rfl ?_
      try simp only [zp0, zp1, zp2, zp3, zp4]
      refine sk 48 rfl ?_
      try simp only [zp0, zp1, zp2, zp3, zp4]
      refine tk 49 rfl ?_
      try simp only [zp0, zp1, zp2, zp3, zp4]
      refine tk 50 rfl ?_
      try simp only [zp0, zp1, zp2, zp3, zp4]
      refine sk 51 rfl ?_
      try simp only [zp0, zp1, zp2, zp3, zp4]
      refine sk 52 rfl ?_
      try simp only [zp0, zp1, zp2, zp3, zp4]
      refine sk 53 rfl ?_
      try simp only [zp0, zp1, zp2, zp3, zp4]
      refine sk 54 rfl ?_
      try simp only [zp0, zp1, zp2, zp3, zp4]
      refine sk 55 rfl ?_
      try simp only [zp0, zp1, zp2, zp3, zp4]
      refine sk 56 rfl ?_
      try simp only [zp0, zp1, zp2, zp3, zp4]
      refine sk 57 rfl ?_
      try simp only [zp0, zp1, zp2, zp3, zp4]
      refine sk 58 rfl ?_
      try simp only [zp0, zp1, zp2, zp3, zp4]
      refine sk 59 rfl ?_
      try simp only [zp0, zp1, zp2, zp3, zp4]
      refine sk 60 rfl ?_
      try simp only [zp0, zp1, zp2, zp3, zp4]
      refine Reg.skip_one (i := 61) rfl (by kernel_rfl) (by rfl) (by assumption) ?_
      try simp only [zp0, zp1, zp2, zp3, zp4]
      refine sk 62 rfl ?_
      try simp only [zp0, zp1, zp2, zp3, zp4]
      refine tk 63 rfl ?_
      try simp only [zp0, zp1, zp2, zp3, zp4]
      refine wpAnyH_done (by kernel_rfl) ?_ _
      obtain ⟨f0, f1, f2, f3, f4, f5, f6⟩ := HK.out _ S3.out.old
      obtain ⟨f7, f8, f9, f10, f11, f12, f13⟩ := HK2.out _ S3.out.old
      have HBK := Lib.hid (show eqO (⟨kd, st, ⟨kk, kn, kt⟩, rl, fd⟩ : X_Op) (⟨kd2, st2, ⟨kk2, kn2, kt2⟩, rl2, fd2⟩ : X_Op) = false from by rw [HEO.out, hk1, hs1]; simp)
      have HNO := Lib.hid (show eqOs (coS_Op os) (coS_Op os2) = false from zip_no k (len_of HC.out) (len_of HC2.out) (by rw [val_of HC.out, val_of HC2.out]; exact HBK.out))
      go_wp2_with fail
      go_ret
      exact ⟨by rw [← HB.out, HNO.out] <;> rfl, S3.out.old⟩
     | true =>
      have hs1n : (st.toList != st2.toList) = false := by rw [bne, hs1]; rfl
      cases bk with
      | false =>
       go_upto_region 6 with fail
       clear f0 f1 f2 f3 f4 f5 f6 f7 f8 f9 f10 f11 f12 f13
       refine wp_region_held_drew (S := (fun w' => (w'.cell? (oad.add (k * 7)) = some (.int .i64 kd) ∧ w'.cell? (⟨(oad.add (k * 7)).block, (oad.add (k * 7)).off + 1, none⟩) = some (.string st) ∧ w'.cell? (⟨(oad.add (k * 7)).block, (oad.add (k * 7)).off + 2, none⟩) = some (.int .i64 kk) ∧ w'.cell? (⟨(oad.add (k * 7)).block, (oad.add (k * 7)).off + 3, none⟩) = some (.int .i64 kn) ∧ w'.cell? (⟨(oad.add (k * 7)).block, (oad.add (k * 7)).off + 4, none⟩) = some (.string kt) ∧ w'.cell? (⟨(oad.add (k * 7)).block, (oad.add (k * 7)).off + 5, none⟩) = some (.slice ra rl.length rc) ∧ w'.cell? (⟨(oad.add (k * 7)).block, (oad.add (k * 7)).off + 6, none⟩) = some (.string fd)) ∧ (w'.cell? (oad2.add (k * 7)) = some (.int .i64 kd2) ∧ w'.cell? (⟨(oad2.add (k * 7)).block, (oad2.add (k * 7)).off + 1, none⟩) = some (.string st2) ∧ w'.cell? (⟨(oad2.add (k * 7)).block, (oad2.add (k * 7)).off + 2, none⟩) = some (.int .i64 kk2) ∧ w'.cell? (⟨(oad2.add (k * 7)).block, (oad2.add (k * 7)).off + 3, none⟩) = some (.int .i64 kn2) ∧ w'.cell? (⟨(oad2.add (k * 7)).block, (oad2.add (k * 7)).off + 4, none⟩) = some (.string kt2) ∧ w'.cell? (⟨(oad2.add (k * 7)).block, (oad2.add (k * 7)).off + 5, none⟩) = some (.slice ra2 rl2.length rc2) ∧ w'.cell? (⟨(oad2.add (k * 7)).block, (oad2.add (k * 7)).off + 6, none⟩) = some (.string fd2)))) (by kernel_rfl) ⟨HK.out _ (Bag.drew1 S2.out).old, HK2.out _ (Bag.drew1 S2.out).old⟩ (fun hS => ?_)
       have S3 := Lib.hid (Bag.drew1 S2.out)
       clear S2
       generalize World.drew _ = w1 at hS S3 ⊢
       refine tk 0 rfl ?_
       try simp only [zp0, zp1, zp2, zp3, zp4]
       refine tk 1 rfl ?_
       try simp only [zp0, zp1, zp2, zp3, zp4]
       refine tk 2 rfl ?_
       try simp only [zp0, zp1, zp2, zp3, zp4]
       refine tk 3 rfl ?_
       try simp only [zp0, zp1, zp2, zp3, zp4]
       refine tk 4 rfl ?_
       try simp only [zp0, zp1, zp2, zp3, zp4]
       refine tk 5 rfl ?_
       try simp only [zp0, zp1, zp2, zp3, zp4]
       refine tk 6 rfl ?_
       try simp only [zp0, zp1, zp2, zp3, zp4]
       refine tk 7 rfl ?_
       try simp only [zp0, zp1, zp2, zp3, zp4]
       refine tk 8 rfl ?_
       try simp only [zp0, zp1, zp2, zp3, zp4]
       refine tk 9 rfl ?_
       try simp only [zp0, zp1, zp2, zp3, zp4]
       refine tk 10 rfl ?_
       try simp only [zp0, zp1, zp2, zp3, zp4]
       refine tk 11 rfl ?_
       try simp only [zp0, zp1, zp2, zp3, zp4]
       refine tk 12 rfl ?_
       try simp only [zp0, zp1, zp2, zp3, zp4]
       refine tk 13 rfl ?_
       try simp only [zp0, zp1, zp2, zp3, zp4]
       refine tk 14 rfl ?_
       try simp only [zp0, zp1, zp2, zp3, zp4]
       refine tk 15 rfl ?_
       try simp only [zp0, zp1, zp2, zp3, zp4]
       refine tk 16 rfl ?_
       try simp only [zp0, zp1, zp2, zp3, zp4]
       refine tk 17 rfl ?_
       try simp only [zp0, zp1, zp2, zp3, zp4]
       refine tk 18 rfl ?_
       try simp only [zp0, zp1, zp2, zp3, zp4]
       refine tk 19 rfl ?_
       try simp only [zp0, zp1, zp2, zp3, zp4]
       refine tk 20 rfl ?_
       try simp only [zp0, zp1, zp2, zp3, zp4]
       refine tk 21 rfl ?_
       try simp only [zp0, zp1, zp2, zp3, zp4]
       refine tk 22 rfl ?_
       try simp only [zp0, zp1, zp2, zp3, zp4]
       refine tk 23 rfl ?_
       try simp only [zp0, zp1, zp2, zp3, zp4]
       refine tk 24 rfl ?_
       try simp only [zp0, zp1, zp2, zp3, zp4]
       refine tk 25 rfl ?_
       try simp only [zp0, zp1, zp2, zp3, zp4]
       refine tk 26 rfl ?_
       try simp only [zp0, zp1, zp2, zp3, zp4]
       refine tk 27 rfl ?_
       try simp only [zp0, zp1, zp2, zp3, zp4]
       refine tk 28 rfl ?_
       try simp only [zp0, zp1, zp2, zp3, zp4]
       refine tk 29 rfl ?_
       try simp only [zp0, zp1, zp2, zp3, zp4]
       refine tk 30 rfl ?_
       try simp only [zp0, zp1, zp2, zp3, zp4]
       refine tk 31 rfl ?_
       try simp only [zp0, zp1, zp2, zp3, zp4]
       refine tk 32 rfl ?_
       try simp only [zp0, zp1, zp2, zp3, zp4]
       refine tk 33 rfl ?_
       try simp only [zp0, zp1, zp2, zp3, zp4]
       refine tk 34 rfl ?_
       try simp only [zp0, zp1, zp2, zp3, zp4]
       refine tk 35 rfl ?_
       try simp only [zp0, zp1, zp2, zp3, zp4]
       refine tk 36 rfl ?_
       try simp only [zp0, zp1, zp2, zp3, zp4]
       refine tk 37 rfl ?_
       try simp only [zp0, zp1, zp2, zp3, zp4]
       refine sk 38 rfl ?_
       try simp only [zp0, zp1, zp2, zp3, zp4]
       refine sk 39 rfl ?_
       try simp only [zp0, zp1, zp2, zp3, zp4]
       refine sk 40 rfl ?_
       try simp only [zp0, zp1, zp2, zp3, zp4]
       refine sk 41 rfl ?_
       try simp only [zp0, zp1, zp2, zp3, zp4]
       refine sk 42 rfl ?_
       try simp only [zp0, zp1, zp2, zp3, zp4]
       refine sk 43 rfl ?_
       try simp only [zp0, zp1, zp2, zp3, zp4]
       refine sk 44 rfl ?_
       try simp only [zp0, zp1, zp2, zp3, zp4]
       refine sk 45 rfl ?_
       try simp only [zp0, zp1, zp2, zp3, zp4]
       refine sk 46 rfl ?_
       try simp only [zp0, zp1, zp2, zp3, zp4]
       refine sk 47 rfl ?_
       try simp only [zp0, zp1, zp2, zp3, zp4]
       refine sk 48 rfl ?_
       try simp only [zp0, zp1, zp2, zp3, zp4]
       refine tk 49 rfl ?_
       try simp only [zp0, zp1, zp2, zp3, zp4]
       refine tk 50 rfl ?_
       try simp only [zp0, zp1, zp2, zp3, zp4]
       refine sk 51 rfl ?_
       try simp only [zp0, zp1, zp2, zp3, zp4]
       refine sk 52 rfl ?_
       try simp only [zp0, zp1, zp2, zp3, zp4]
       refine sk 53 rfl ?_
       try simp only [zp0, zp1, zp2, zp3, zp4]
       refine sk 54 rfl ?_
       try simp only [zp0, zp1, zp2, zp3, zp4]
       refine sk 55 rfl ?_
       try simp only [zp0, zp1, zp2, zp3, zp4]
       refine sk 56 rfl ?_
       try simp only [zp0, zp1, zp2, zp3, zp4]
       refine sk 57 rfl ?_
       try simp only [zp0, zp1, zp2, zp3, zp4]
       refine sk 58 rfl ?_
       try simp only [zp0, zp1, zp2, zp3, zp4]
       refine sk 59 rfl ?_
       try simp only [zp0, zp1, zp2, zp3, zp4]
       refine sk 60 rfl ?_
       try simp only [zp0, zp1, zp2, zp3, zp4]
       refine Reg.skip_one (i := 61) rfl (by kernel_rfl) (by rfl) (by assumption) ?_
       try simp only [zp0, zp1, zp2, zp3, zp4]
       refine sk 62 rfl ?_
       try simp only [zp0, zp1, zp2, zp3, zp4]
       refine tk 63 rfl ?_
       try simp only [zp0, zp1, zp2, zp3, zp4]
       refine wpAnyH_done (by kernel_rfl) ?_ _
       obtain ⟨f0, f1, f2, f3, f4, f5, f6⟩ := HK.out _ S3.out.old
       obtain ⟨f7, f8, f9, f10, f11, f12, f13⟩ := HK2.out _ S3.out.old
       have HBK := Lib.hid (show eqO (⟨kd, st, ⟨kk, kn, kt⟩, rl, fd⟩ : X_Op) (⟨kd2, st2, ⟨kk2, kn2, kt2⟩, rl2, fd2⟩ : X_Op) = false from by rw [HEO.out, hk1, hs1]; simp)
       have HNO := Lib.hid (show eqOs (coS_Op os) (coS_Op os2) = false from zip_no k (len_of HC.out) (len_of HC2.out) (by rw [val_of HC.out, val_of HC2.out]; exact HBK.out))
       go_wp2_with fail
       go_ret
       exact ⟨by rw [← HB.out, HNO.out] <;> rfl, S3.out.old⟩
      | true =>
       cases hf1 : fd.toList == fd2.toList with
       | false =>
        have hf1n : (fd.toList != fd2.toList) = true := by rw [bne, hf1]; rfl
        go_upto_region 6 with fail
        clear f0 f1 f2 f3 f4 f5 f6 f7 f8 f9 f10 f11 f12 f13
        refine wp_region_held_drew (S := (fun w' => (w'.cell? (oad.add (k * 7)) = some (.int .i64 kd) ∧ w'.cell? (⟨(oad.add (k * 7)).block, (oad.add (k * 7)).off + 1, none⟩) = some (.string st) ∧ w'.cell? (⟨(oad.add (k * 7)).block, (oad.add (k * 7)).off + 2, none⟩) = some (.int .i64 kk) ∧ w'.cell? (⟨(oad.add (k * 7)).block, (oad.add (k * 7)).off + 3, none⟩) = some (.int .i64 kn) ∧ w'.cell? (⟨(oad.add (k * 7)).block, (oad.add (k * 7)).off + 4, none⟩) = some (.string kt) ∧ w'.cell? (⟨(oad.add (k * 7)).block, (oad.add (k * 7)).off + 5, none⟩) = some (.slice ra rl.length rc) ∧ w'.cell? (⟨(oad.add (k * 7)).block, (oad.add (k * 7)).off + 6, none⟩) = some (.string fd)) ∧ (w'.cell? (oad2.add (k * 7)) = some (.int .i64 kd2) ∧ w'.cell? (⟨(oad2.add (k * 7)).block, (oad2.add (k * 7)).off + 1, none⟩) = some (.string st2) ∧ w'.cell? (⟨(oad2.add (k * 7)).block, (oad2.add (k * 7)).off + 2, none⟩) = some (.int .i64 kk2) ∧ w'.cell? (⟨(oad2.add (k * 7)).block, (oad2.add (k * 7)).off + 3, none⟩) = some (.int .i64 kn2) ∧ w'.cell? (⟨(oad2.add (k * 7)).block, (oad2.add (k * 7)).off + 4, none⟩) = some (.string kt2) ∧ w'.cell? (⟨(oad2.add (k * 7)).block, (oad2.add (k * 7)).off + 5, none⟩) = some (.slice ra2 rl2.length rc2) ∧ w'.cell? (⟨(oad2.add (k * 7)).block, (oad2.add (k * 7)).off + 6, none⟩) = some (.string fd2)))) (by kernel_rfl) ⟨HK.out _ (Bag.drew1 S2.out).old, HK2.out _ (Bag.drew1 S2.out).old⟩ (fun hS => ?_)
        have S3 := Lib.hid (Bag.drew1 S2.out)
        clear S2
        generalize World.drew _ = w1 at hS S3 ⊢
        refine tk 0 rfl ?_
        try simp only [zp0, zp1, zp2, zp3, zp4]
        refine tk 1 rfl ?_
        try simp only [zp0, zp1, zp2, zp3, zp4]
        refine tk 2 rfl ?_
        try simp only [zp0, zp1, zp2, zp3, zp4]
        refine tk 3 rfl ?_
        try simp only [zp0, zp1, zp2, zp3, zp4]
        refine tk 4 rfl ?_
        try simp only [zp0, zp1, zp2, zp3, zp4]
        refine tk 5 rfl ?_
        try simp only [zp0, zp1, zp2, zp3, zp4]
        refine tk 6 rfl ?_
        try simp only [zp0, zp1, zp2, zp3, zp4]
        refine tk 7 rfl ?_
        try simp only [zp0, zp1, zp2, zp3, zp4]
        refine tk 8 rfl ?_
        try simp only [zp0, zp1, zp2, zp3, zp4]
        refine tk 9 rfl ?_
        try simp only [zp0, zp1, zp2, zp3, zp4]
        refine tk 10 rfl ?_
        try simp only [zp0, zp1, zp2, zp3, zp4]
        refine tk 11 rfl ?_
        try simp only [zp0, zp1, zp2, zp3, zp4]
        refine tk 12 rfl ?_
        try simp only [zp0, zp1, zp2, zp3, zp4]
        refine tk 13 rfl ?_
        try simp only [zp0, zp1, zp2, zp3, zp4]
        refine tk 14 rfl ?_
        try simp only [zp0, zp1, zp2, zp3, zp4]
        refine tk 15 rfl ?_
        try simp only [zp0, zp1, zp2, zp3, zp4]
        refine tk 16 rfl ?_
        try simp only [zp0, zp1, zp2, zp3, zp4]
        refine tk 17 rfl ?_
        try simp only [zp0, zp1, zp2, zp3, zp4]
        refine tk 18 rfl ?_
        try simp only [zp0, zp1, zp2, zp3, zp4]
        refine tk 19 rfl ?_
        try simp only [zp0, zp1, zp2, zp3, zp4]
        refine tk 20 rfl ?_
        try simp only [zp0, zp1, zp2, zp3, zp4]
        refine tk 21 rfl ?_
        try simp only [zp0, zp1, zp2, zp3, zp4]
        refine tk 22 rfl ?_
        try simp only [zp0, zp1, zp2, zp3, zp4]
        refine tk 23 rfl ?_
        try simp only [zp0, zp1, zp2, zp3, zp4]
        refine tk 24 rfl ?_
        try simp only [zp0, zp1, zp2, zp3, zp4]
        refine tk 25 rfl ?_
        try simp only [zp0, zp1, zp2, zp3, zp4]
        refine tk 26 rfl ?_
        try simp only [zp0, zp1, zp2, zp3, zp4]
        refine tk 27 rfl ?_
        try simp only [zp0, zp1, zp2, zp3, zp4]
        refine tk 28 rfl ?_
        try simp only [zp0, zp1, zp2, zp3, zp4]
        refine tk 29 rfl ?_
        try simp only [zp0, zp1, zp2, zp3, zp4]
        refine tk 30 rfl ?_
        try simp only [zp0, zp1, zp2, zp3, zp4]
        refine tk 31 rfl ?_
        try simp only [zp0, zp1, zp2, zp3, zp4]
        refine tk 32 rfl ?_
        try simp only [zp0, zp1, zp2, zp3, zp4]
        refine tk 33 rfl ?_
        try simp only [zp0, zp1, zp2, zp3, zp4]
        refine tk 34 rfl ?_
        try simp only [zp0, zp1, zp2, zp3, zp4]
        refine tk 35 rfl ?_
        try simp only [zp0, zp1, zp2, zp3, zp4]
        refine tk 36 rfl ?_
        try simp only [zp0, zp1, zp2, zp3, zp4]
        refine tk 37 rfl ?_
        try simp only [zp0, zp1, zp2, zp3, zp4]
        refine tk 38 rfl ?_
        try simp only [zp0, zp1, zp2, zp3, zp4]
        refine tk 39 rfl ?_
        try simp only [zp0, zp1, zp2, zp3, zp4]
        refine tk 40 rfl ?_
        try simp only [zp0, zp1, zp2, zp3, zp4]
        refine tk 41 rfl ?_
        try simp only [zp0, zp1, zp2, zp3, zp4]
        refine tk 42 rfl ?_
        try simp only [zp0, zp1, zp2, zp3, zp4]
        refine tk 43 rfl ?_
        try simp only [zp0, zp1, zp2, zp3, zp4]
        refine tk 44 rfl ?_
        try simp only [zp0, zp1, zp2, zp3, zp4]
        refine tk 45 rfl ?_
        try simp only [zp0, zp1, zp2, zp3, zp4]
        refine tk 46 rfl ?_
        try simp only [zp0, zp1, zp2, zp3, zp4]
        refine tk 47 rfl ?_
        try simp only [zp0, zp1, zp2, zp3, zp4]
        refine tk 48 rfl ?_
        try simp only [zp0, zp1, zp2, zp3, zp4]
        refine tk 49 rfl ?_
        try simp only [zp0, zp1, zp2, zp3, zp4]
        refine tk 50 rfl ?_
        try simp only [zp0, zp1, zp2, zp3, zp4]
        refine sk 51 rfl ?_
        try simp only [zp0, zp1, zp2, zp3, zp4]
        refine sk 52 rfl ?_
        try simp only [zp0, zp1, zp2, zp3, zp4]
        refine sk 53 rfl ?_
        try simp only [zp0, zp1, zp2, zp3, zp4]
        refine sk 54 rfl ?_
        try simp only [zp0, zp1, zp2, zp3, zp4]
        refine sk 55 rfl ?_
        try simp only [zp0, zp1, zp2, zp3, zp4]
        refine sk 56 rfl ?_
        try simp only [zp0, zp1, zp2, zp3, zp4]
        refine sk 57 rfl ?_
        try simp only [zp0, zp1, zp2, zp3, zp4]
        refine sk 58 rfl ?_
        try simp only [zp0, zp1, zp2, zp3, zp4]
        refine sk 59 rfl ?_
        try simp only [zp0, zp1, zp2, zp3, zp4]
        refine sk 60 rfl ?_
        try simp only [zp0, zp1, zp2, zp3, zp4]
        refine Reg.skip_one (i := 61) rfl (by kernel_rfl) (by rfl) (by assumption) ?_
        try simp only [zp0, zp1, zp2, zp3, zp4]
        refine sk 62 rfl ?_
        try simp only [zp0, zp1, zp2, zp3, zp4]
        refine tk 63 rfl ?_
        try simp only [zp0, zp1, zp2, zp3, zp4]
        refine wpAnyH_done (by kernel_rfl) ?_ _
        obtain ⟨f0, f1, f2, f3, f4, f5, f6⟩ := HK.out _ S3.out.old
        obtain ⟨f7, f8, f9, f10, f11, f12, f13⟩ := HK2.out _ S3.out.old
        have HBK := Lib.hid (show eqO (⟨kd, st, ⟨kk, kn, kt⟩, rl, fd⟩ : X_Op) (⟨kd2, st2, ⟨kk2, kn2, kt2⟩, rl2, fd2⟩ : X_Op) = false from by rw [HEO.out, hk1, hs1, hf1]; simp)
        have HNO := Lib.hid (show eqOs (coS_Op os) (coS_Op os2) = false from zip_no k (len_of HC.out) (len_of HC2.out) (by rw [val_of HC.out, val_of HC2.out]; exact HBK.out))
        go_wp2_with fail
        go_ret
        exact ⟨by rw [← HB.out, HNO.out] <;> rfl, S3.out.old⟩
       | true =>
        have hf1n : (fd.toList != fd2.toList) = false := by rw [bne, hf1]; rfl
        cases b with
        | false =>
         go_upto_region 6 with fail
         clear f0 f1 f2 f3 f4 f5 f6 f7 f8 f9 f10 f11 f12 f13
         refine wp_region_held_drew (S := (fun w' => (w'.cell? (oad.add (k * 7)) = some (.int .i64 kd) ∧ w'.cell? (⟨(oad.add (k * 7)).block, (oad.add (k * 7)).off + 1, none⟩) = some (.string st) ∧ w'.cell? (⟨(oad.add (k * 7)).block, (oad.add (k * 7)).off + 2, none⟩) = some (.int .i64 kk) ∧ w'.cell? (⟨(oad.add (k * 7)).block, (oad.add (k * 7)).off + 3, none⟩) = some (.int .i64 kn) ∧ w'.cell? (⟨(oad.add (k * 7)).block, (oad.add (k * 7)).off + 4, none⟩) = some (.string kt) ∧ w'.cell? (⟨(oad.add (k * 7)).block, (oad.add (k * 7)).off + 5, none⟩) = some (.slice ra rl.length rc) ∧ w'.cell? (⟨(oad.add (k * 7)).block, (oad.add (k * 7)).off + 6, none⟩) = some (.string fd)) ∧ (w'.cell? (oad2.add (k * 7)) = some (.int .i64 kd2) ∧ w'.cell? (⟨(oad2.add (k * 7)).block, (oad2.add (k * 7)).off + 1, none⟩) = some (.string st2) ∧ w'.cell? (⟨(oad2.add (k * 7)).block, (oad2.add (k * 7)).off + 2, none⟩) = some (.int .i64 kk2) ∧ w'.cell? (⟨(oad2.add (k * 7)).block, (oad2.add (k * 7)).off + 3, none⟩) = some (.int .i64 kn2) ∧ w'.cell? (⟨(oad2.add (k * 7)).block, (oad2.add (k * 7)).off + 4, none⟩) = some (.string kt2) ∧ w'.cell? (⟨(oad2.add (k * 7)).block, (oad2.add (k * 7)).off + 5, none⟩) = some (.slice ra2 rl2.length rc2) ∧ w'.cell? (⟨(oad2.add (k * 7)).block, (oad2.add (k * 7)).off + 6, none⟩) = some (.string fd2)))) (by kernel_rfl) ⟨HK.out _ (Bag.drew1 S2.out).old, HK2.out _ (Bag.drew1 S2.out).old⟩ (fun hS => ?_)
         have S3 := Lib.hid (Bag.drew1 S2.out)
         clear S2
         generalize World.drew _ = w1 at hS S3 ⊢
         refine tk 0 rfl ?_
         try simp only [zp0, zp1, zp2, zp3, zp4]
         refine tk 1 rfl ?_
         try simp only [zp0, zp1, zp2, zp3, zp4]
         refine tk 2 rfl ?_
         try simp only [zp0, zp1, zp2, zp3, zp4]
         refine tk 3 rfl ?_
         try simp only [zp0, zp1, zp2, zp3, zp4]
         refine tk 4 rfl ?_
         try simp only [zp0, zp1, zp2, zp3, zp4]
         refine tk 5 rfl ?_
         try simp only [zp0, zp1, zp2, zp3, zp4]
         refine tk 6 rfl ?_
         try simp only [zp0, zp1, zp2, zp3, zp4]
         refine tk 7 rfl ?_
         try simp only [zp0, zp1, zp2, zp3, zp4]
         refine tk 8 rfl ?_
         try simp only [zp0, zp1, zp2, zp3, zp4]
         refine tk 9 rfl ?_
         try simp only [zp0, zp1, zp2, zp3, zp4]
         refine tk 10 rfl ?_
         try simp only [zp0, zp1, zp2, zp3, zp4]
         refine tk 11 rfl ?_
         try simp only [zp0, zp1, zp2, zp3, zp4]
         refine tk 12 rfl ?_
         try simp only [zp0, zp1, zp2, zp3, zp4]
         refine tk 13 rfl ?_
         try simp only [zp0, zp1, zp2, zp3, zp4]
         refine tk 14 rfl ?_
         try simp only [zp0, zp1, zp2, zp3, zp4]
         refine tk 15 rfl ?_
         try simp only [zp0, zp1, zp2, zp3, zp4]
         refine tk 16 rfl ?_
         try simp only [zp0, zp1, zp2, zp3, zp4]
         refine tk 17 rfl ?_
         try simp only [zp0, zp1, zp2, zp3, zp4]
         refine tk 18 rfl ?_
         try simp only [zp0, zp1, zp2, zp3, zp4]
         refine tk 19 rfl ?_
         try simp only [zp0, zp1, zp2, zp3, zp4]
         refine tk 20 rfl ?_
         try simp only [zp0, zp1, zp2, zp3, zp4]
         refine tk 21 rfl ?_
         try simp only [zp0, zp1, zp2, zp3, zp4]
         refine tk 22 rfl ?_
         try simp only [zp0, zp1, zp2, zp3, zp4]
         refine tk 23 rfl ?_
         try simp only [zp0, zp1, zp2, zp3, zp4]
         refine tk 24 rfl ?_
         try simp only [zp0, zp1, zp2, zp3, zp4]
         refine tk 25 rfl ?_
         try simp only [zp0, zp1, zp2, zp3, zp4]
         refine tk 26 rfl ?_
         try simp only [zp0, zp1, zp2, zp3, zp4]
         refine tk 27 rfl ?_
         try simp only [zp0, zp1, zp2, zp3, zp4]
         refine tk 28 rfl ?_
         try simp only [zp0, zp1, zp2, zp3, zp4]
         refine tk 29 rfl ?_
         try simp only [zp0, zp1, zp2, zp3, zp4]
         refine tk 30 rfl ?_
         try simp only [zp0, zp1, zp2, zp3, zp4]
         refine tk 31 rfl ?_
         try simp only [zp0, zp1, zp2, zp3, zp4]
         refine tk 32 rfl ?_
         try simp only [zp0, zp1, zp2, zp3, zp4]
         refine tk 33 rfl ?_
         try simp only [zp0, zp1, zp2, zp3, zp4]
         refine tk 34 rfl ?_
         try simp only [zp0, zp1, zp2, zp3, zp4]
         refine tk 35 rfl ?_
         try simp only [zp0, zp1, zp2, zp3, zp4]
         refine tk 36 rfl ?_
         try simp only [zp0, zp1, zp2, zp3, zp4]
         refine tk 37 rfl ?_
         try simp only [zp0, zp1, zp2, zp3, zp4]
         refine tk 38 rfl ?_
         try simp only [zp0, zp1, zp2, zp3, zp4]
         refine tk 39 rfl ?_
         try simp only [zp0, zp1, zp2, zp3, zp4]
         refine tk 40 rfl ?_
         try simp only [zp0, zp1, zp2, zp3, zp4]
         refine tk 41 rfl ?_
         try simp only [zp0, zp1, zp2, zp3, zp4]
         refine tk 42 rfl ?_
         try simp only [zp0, zp1, zp2, zp3, zp4]
         refine tk 43 rfl ?_
         try simp only [zp0, zp1, zp2, zp3, zp4]
         refine tk 44 rfl ?_
         try simp only [zp0, zp1, zp2, zp3, zp4]
         refine tk 45 rfl ?_
         try simp only [zp0, zp1, zp2, zp3, zp4]
         refine tk 46 rfl ?_
         try simp only [zp0, zp1, zp2, zp3, zp4]
         refine tk 47 rfl ?_
         try simp only [zp0, zp1, zp2, zp3, zp4]
         refine tk 48 rfl ?_
         try simp only [zp0, zp1, zp2, zp3, zp4]
         refine tk 49 rfl ?_
         try simp only [zp0, zp1, zp2, zp3, zp4]
         refine tk 50 rfl ?_
         try simp only [zp0, zp1, zp2, zp3, zp4]
         refine tk 51 rfl ?_
         try simp only [zp0, zp1, zp2, zp3, zp4]
         refine tk 52 rfl ?_
         try simp only [zp0, zp1, zp2, zp3, zp4]
         refine tk 53 rfl ?_
         try simp only [zp0, zp1, zp2, zp3, zp4]
         refine tk 54 rfl ?_
         try simp only [zp0, zp1, zp2, zp3, zp4]
         refine tk 55 rfl ?_
         try simp only [zp0, zp1, zp2, zp3, zp4]
         refine tk 56 rfl ?_
         try simp only [zp0, zp1, zp2, zp3, zp4]
         refine tk 57 rfl ?_
         try simp only [zp0, zp1, zp2, zp3, zp4]
         refine tk 58 rfl ?_
         try simp only [zp0, zp1, zp2, zp3, zp4]
         refine tk 59 rfl ?_
         try simp only [zp0, zp1, zp2, zp3, zp4]
         refine tk 60 rfl ?_
         try simp only [zp0, zp1, zp2, zp3, zp4]
         refine Reg.one_op (i := 61) rfl (by kernel_rfl) (fun K hK => ?_)
         go_simp
         go_at_call 204
         refine (HER.out _ S3.out.old).mono ?_
         rintro e w2 ⟨rfl, hb⟩
         have S4 := Lib.hid (S3.out.keep hb)
         clear S3
         clear hb
         go_wp2_with fail
         refine hK.out _ _ ⟨HK.out _ S4.out.old, HK2.out _ S4.out.old⟩ (fun hS => ?_)
         clear hK K
         try simp only [zp0, zp1, zp2, zp3, zp4]
         refine tk 62 rfl ?_
         try simp only [zp0, zp1, zp2, zp3, zp4]
         refine tk 63 rfl ?_
         try simp only [zp0, zp1, zp2, zp3, zp4]
         refine wpAnyH_done (by kernel_rfl) ?_ _
         obtain ⟨f0, f1, f2, f3, f4, f5, f6⟩ := HK.out _ S4.out.old
         obtain ⟨f7, f8, f9, f10, f11, f12, f13⟩ := HK2.out _ S4.out.old
         have HBK := Lib.hid (show eqO (⟨kd, st, ⟨kk, kn, kt⟩, rl, fd⟩ : X_Op) (⟨kd2, st2, ⟨kk2, kn2, kt2⟩, rl2, fd2⟩ : X_Op) = false from by rw [HEO.out, hk1, hs1, hf1]; rfl)
         have HNO := Lib.hid (show eqOs (coS_Op os) (coS_Op os2) = false from zip_no k (len_of HC.out) (len_of HC2.out) (by rw [val_of HC.out, val_of HC2.out]; exact HBK.out))
         go_wp2_with fail
         go_ret
         exact ⟨by rw [← HB.out, HNO.out] <;> rfl, S4.out.old⟩
        | true =>
         go_upto_region 6 with fail
         clear f0 f1 f2 f3 f4 f5 f6 f7 f8 f9 f10 f11 f12 f13
         refine wp_region_held_drew (S := (fun w' => (w'.cell? (oad.add (k * 7)) = some (.int .i64 kd) ∧ w'.cell? (⟨(oad.add (k * 7)).block, (oad.add (k * 7)).off + 1, none⟩) = some (.string st) ∧ w'.cell? (⟨(oad.add (k * 7)).block, (oad.add (k * 7)).off + 2, none⟩) = some (.int .i64 kk) ∧ w'.cell? (⟨(oad.add (k * 7)).block, (oad.add (k * 7)).off + 3, none⟩) = some (.int .i64 kn) ∧ w'.cell? (⟨(oad.add (k * 7)).block, (oad.add (k * 7)).off + 4, none⟩) = some (.string kt) ∧ w'.cell? (⟨(oad.add (k * 7)).block, (oad.add (k * 7)).off + 5, none⟩) = some (.slice ra rl.length rc) ∧ w'.cell? (⟨(oad.add (k * 7)).block, (oad.add (k * 7)).off + 6, none⟩) = some (.string fd)) ∧ (w'.cell? (oad2.add (k * 7)) = some (.int .i64 kd2) ∧ w'.cell? (⟨(oad2.add (k * 7)).block, (oad2.add (k * 7)).off + 1, none⟩) = some (.string st2) ∧ w'.cell? (⟨(oad2.add (k * 7)).block, (oad2.add (k * 7)).off + 2, none⟩) = some (.int .i64 kk2) ∧ w'.cell? (⟨(oad2.add (k * 7)).block, (oad2.add (k * 7)).off + 3, none⟩) = some (.int .i64 kn2) ∧ w'.cell? (⟨(oad2.add (k * 7)).block, (oad2.add (k * 7)).off + 4, none⟩) = some (.string kt2) ∧ w'.cell? (⟨(oad2.add (k * 7)).block, (oad2.add (k * 7)).off + 5, none⟩) = some (.slice ra2 rl2.length rc2) ∧ w'.cell? (⟨(oad2.add (k * 7)).block, (oad2.add (k * 7)).off + 6, none⟩) = some (.string fd2)))) (by kernel_rfl) ⟨HK.out _ (Bag.drew1 S2.out).old, HK2.out _ (Bag.drew1 S2.out).old⟩ (fun hS => ?_)
         have S3 := Lib.hid (Bag.drew1 S2.out)
         clear S2
         generalize World.drew _ = w1 at hS S3 ⊢
         refine tk 0 rfl ?_
         try simp only [zp0, zp1, zp2, zp3, zp4]
         refine tk 1 rfl ?_
         try simp only [zp0, zp1, zp2, zp3, zp4]
         refine tk 2 rfl ?_
         try simp only [zp0, zp1, zp2, zp3, zp4]
         refine tk 3 rfl ?_
         try simp only [zp0, zp1, zp2, zp3, zp4]
         refine tk 4 rfl ?_
         try simp only [zp0, zp1, zp2, zp3, zp4]
         refine tk 5 rfl ?_
         try simp only [zp0, zp1, zp2, zp3, zp4]
         refine tk 6 rfl ?_
         try simp only [zp0, zp1, zp2, zp3, zp4]
         refine tk 7 rfl ?_
         try simp only [zp0, zp1, zp2, zp3, zp4]
         refine tk 8 rfl ?_
         try simp only [zp0, zp1, zp2, zp3, zp4]
         refine tk 9 rfl ?_
         try simp only [zp0, zp1, zp2, zp3, zp4]
         refine tk 10 rfl ?_
         try simp only [zp0, zp1, zp2, zp3, zp4]
         refine tk 11 rfl ?_
         try simp only [zp0, zp1, zp2, zp3, zp4]
         refine tk 12 rfl ?_
         try simp only [zp0, zp1, zp2, zp3, zp4]
         refine tk 13 rfl ?_
         try simp only [zp0, zp1, zp2, zp3, zp4]
         refine tk 14 rfl ?_
         try simp only [zp0, zp1, zp2, zp3, zp4]
         refine tk 15 rfl ?_
         try simp only [zp0, zp1, zp2, zp3, zp4]
         refine tk 16 rfl ?_
         try simp only [zp0, zp1, zp2, zp3, zp4]
         refine tk 17 rfl ?_
         try simp only [zp0, zp1, zp2, zp3, zp4]
         refine tk 18 rfl ?_
         try simp only [zp0, zp1, zp2, zp3, zp4]
         refine tk 19 rfl ?_
         try simp only [zp0, zp1, zp2, zp3, zp4]
         refine tk 20 rfl ?_
         try simp only [zp0, zp1, zp2, zp3, zp4]
         refine tk 21 rfl ?_
         try simp only [zp0, zp1, zp2, zp3, zp4]
         refine tk 22 rfl ?_
         try simp only [zp0, zp1, zp2, zp3, zp4]
         refine tk 23 rfl ?_
         try simp only [zp0, zp1, zp2, zp3, zp4]
         refine tk 24 rfl ?_
         try simp only [zp0, zp1, zp2, zp3, zp4]
         refine tk 25 rfl ?_
         try simp only [zp0, zp1, zp2, zp3, zp4]
         refine tk 26 rfl ?_
         try simp only [zp0, zp1, zp2, zp3, zp4]
         refine tk 27 rfl ?_
         try simp only [zp0, zp1, zp2, zp3, zp4]
         refine tk 28 rfl ?_
         try simp only [zp0, zp1, zp2, zp3, zp4]
         refine tk 29 rfl ?_
         try simp only [zp0, zp1, zp2, zp3, zp4]
         refine tk 30 rfl ?_
         try simp only [zp0, zp1, zp2, zp3, zp4]
         refine tk 31 rfl ?_
         try simp only [zp0, zp1, zp2, zp3, zp4]
         refine tk 32 rfl ?_
         try simp only [zp0, zp1, zp2, zp3, zp4]
         refine tk 33 rfl ?_
         try simp only [zp0, zp1, zp2, zp3, zp4]
         refine tk 34 rfl ?_
         try simp only [zp0, zp1, zp2, zp3, zp4]
         refine tk 35 rfl ?_
         try simp only [zp0, zp1, zp2, zp3, zp4]
         refine tk 36 rfl ?_
         try simp only [zp0, zp1, zp2, zp3, zp4]
         refine tk 37 rfl ?_
         try simp only [zp0, zp1, zp2, zp3, zp4]
         refine tk 38 rfl ?_
         try simp only [zp0, zp1, zp2, zp3, zp4]
         refine tk 39 rfl ?_
         try simp only [zp0, zp1, zp2, zp3, zp4]
         refine tk 40 rfl ?_
         try simp only [zp0, zp1, zp2, zp3, zp4]
         refine tk 41 rfl ?_
         try simp only [zp0, zp1, zp2, zp3, zp4]
         refine tk 42 rfl ?_
         try simp only [zp0, zp1, zp2, zp3, zp4]
         refine tk 43 rfl ?_
         try simp only [zp0, zp1, zp2, zp3, zp4]
         refine tk 44 rfl ?_
         try simp only [zp0, zp1, zp2, zp3, zp4]
         refine tk 45 rfl ?_
         try simp only [zp0, zp1, zp2, zp3, zp4]
         refine tk 46 rfl ?_
         try simp only [zp0, zp1, zp2, zp3, zp4]
         refine tk 47 rfl ?_
         try simp only [zp0, zp1, zp2, zp3, zp4]
         refine tk 48 rfl ?_
         try simp only [zp0, zp1, zp2, zp3, zp4]
         refine tk 49 rfl ?_
         try simp only [zp0, zp1, zp2, zp3, zp4]
         refine tk 50 rfl ?_
         try simp only [zp0, zp1, zp2, zp3, zp4]
         refine tk 51 rfl ?_
         try simp only [zp0, zp1, zp2, zp3, zp4]
         refine tk 52 rfl ?_
         try simp only [zp0, zp1, zp2, zp3, zp4]
         refine tk 53 rfl ?_
         try simp only [zp0, zp1, zp2, zp3, zp4]
         refine tk 54 rfl ?_
         try simp only [zp0, zp1, zp2, zp3, zp4]
         refine tk 55 rfl ?_
         try simp only [zp0, zp1, zp2, zp3, zp4]
         refine tk 56 rfl ?_
         try simp only [zp0, zp1, zp2, zp3, zp4]
         refine tk 57 rfl ?_
         try simp only [zp0, zp1, zp2, zp3, zp4]
         refine tk 58 rfl ?_
         try simp only [zp0, zp1, zp2, zp3, zp4]
         refine tk 59 rfl ?_
         try simp only [zp0, zp1, zp2, zp3, zp4]
         refine tk 60 rfl ?_
         try simp only [zp0, zp1, zp2, zp3, zp4]
         refine Reg.one_op (i := 61) rfl (by kernel_rfl) (fun K hK => ?_)
         go_simp
         go_at_call 204
         refine (HER.out _ S3.out.old).mono ?_
         rintro e w2 ⟨rfl, hb⟩
         have S4 := Lib.hid (S3.out.keep hb)
         clear S3
         clear hb
         go_wp2_with fail
         refine hK.out _ _ ⟨HK.out _ S4.out.old, HK2.out _ S4.out.old⟩ (fun hS => ?_)
         clear hK K
         try simp only [zp0, zp1, zp2, zp3, zp4]
         refine tk 62 rfl ?_
         try simp only [zp0, zp1, zp2, zp3, zp4]
         refine tk 63 rfl ?_
         try simp only [zp0, zp1, zp2, zp3, zp4]
         refine wpAnyH_done (by kernel_rfl) ?_ _
         obtain ⟨f0, f1, f2, f3, f4, f5, f6⟩ := HK.out _ S4.out.old
         obtain ⟨f7, f8, f9, f10, f11, f12, f13⟩ := HK2.out _ S4.out.old
         have HBK := Lib.hid (show eqO (⟨kd, st, ⟨kk, kn, kt⟩, rl, fd⟩ : X_Op) (⟨kd2, st2, ⟨kk2, kn2, kt2⟩, rl2, fd2⟩ : X_Op) = true from by rw [HEO.out, hk1, hs1, hf1]; rfl)
         go_wp2_with fail
         go_roundw
         case rel => exact ⟨k + 1, by omega, by go_num, And.intro (fun j h1 h2 h => by
          by_cases e : j < k
          ·
           exact HA.out j h1 h2 e
          ·
           obtain rfl : j = k := by omega
           rw [val_of HC.out, val_of HC2.out]; exact HBK.out) S4.out⟩
         case measure => simp [intOf]; omega
   ·
    skip
    have HI := Lib.hid (show eqOs (coS_Op os) (coS_Op os2) = true from zip_yes (by rw [HSL.out.1, HSL.out.2]) (fun j h1 h2 => HA.out j h1 h2 (by rw [HSL.out.1] at h1; omega)))
    go_wp2_with fail
    go_ret
    exact ⟨by rw [← HB.out, HI.out] <;> rfl, S2.out.old⟩
 ·
  have hne : ((N : Int) == (N2 : Int)) = false := by simp; omega
  have hne2 : ¬ (N : Int) = (N2 : Int) := by omega
  have HI := Lib.hid (show eqOs (coS_Op os) (coS_Op os2) = false from zip_len (by rw [HSL.out.1, HSL.out.2]; exact hN))
  go_enter Try.func152, Try.ntmps152
  go_wp2_with fail
  go_ret
  exact ⟨by rw [← HB.out, HI.out] <;> rfl, S1.out.old⟩
end Go.Proofs.Ytojcdmgcbgpdmaa.L9

namespace Go.Proofs.Ytojcdmgcbgpdmaa.L6
open L4 (K isK cmpK R inR encU)
open L5 (F isR isN cellsF encR eqR Small)
open Go.ChangeShapes Go.WideShapes Go.ChangeAt Go.RowKit Mem Sl Ex L2 Sv Bag

theorem readsI_at {w : World} {B : Nat} {ad : Addr} {xs : List LI} (h : Reads w B (some ad) (cellsI xs)) (j : Nat) (x : LI) (hx : xs[j]? = some x) :
  w.cell? (ad.add (j * 4)) = some (.int .i64 x.k.kind) ∧ w.cell? ⟨(ad.add (j * 4)).block, (ad.add (j * 4)).off + 1, none⟩ = some (.int .i64 x.k.n) ∧ w.cell? ⟨(ad.add (j * 4)).block, (ad.add (j * 4)).off + 2, none⟩ = some (.string x.k.text) ∧ w.cell? ⟨(ad.add (j * 4)).block, (ad.add (j * 4)).off + 3, none⟩ = some (.slice x.a x.l.length x.c) := by
 obtain ⟨hj, rfl⟩ := List.getElem?_eq_some_iff.1 hx
 obtain ⟨ad', e, _, h1⟩ := readsI h j hj
 injection e with e
 subst e
 exact h1
theorem readsI_some {w : World} {B : Nat} {a : Option Addr} {xs : List LI} (h : Reads w B a (cellsI xs)) (j : Nat) (hj : j < xs.length) : ∃ ad x, a = some ad ∧ xs[j]? = some x := by
 obtain ⟨ad, e, _⟩ := readsI h j hj
 exact ⟨ad, _, e, List.getElem?_eq_getElem hj⟩
theorem rowsI_mem {xs : List LI} {j : Nat} {x : LI} (hx : xs[j]? = some x) : x.row ∈ rowsI xs := by
 obtain ⟨hj, rfl⟩ := List.getElem?_eq_some_iff.1 hx
 exact rowsI_at xs j hj
theorem fit_at {xs : List LI} {j : Nat} {x : LI} (h : ∀ y ∈ conI xs, FitI y) (hx : xs[j]? = some x) : FitI x.con := by
 obtain ⟨hj, rfl⟩ := List.getElem?_eq_some_iff.1 hx
 exact h _ (List.mem_map.2 ⟨_, List.getElem_mem hj, rfl⟩)
end Go.Proofs.Ytojcdmgcbgpdmaa.L6

namespace Go.Proofs.Ytojcdmgcbgpdmaa.L6
open L4 (K isK cmpK R inR encU)
open L5 (F isR isN cellsF encR eqR Small)
open Go.ChangeShapes Go.WideShapes Go.ChangeAt Go.RowKit Mem Sl Ex L2 Sv Bag

theorem key_eq (kd n : Int) (s : ByteArray) (kd2 n2 : Int) (s2 : ByteArray) (w : World) :
  (Op.equalIn 10000 28 (.agg #[.int .i64 kd, .int .i64 n, .string s]) (.agg #[.int .i64 kd2, .int .i64 n2, .string s2])).run Try.prog w = .ok (eqK ⟨kd, n, s⟩ ⟨kd2, n2, s2⟩) w := by
 unfold eqK K.t
 rw [← ByteArray.toList_eq, ← ByteArray.toList_eq]
 cases h1 : kd == kd2 <;> cases h2 : n == n2 <;> cases h3 : s.toList == s2.toList <;> simp [go_sem, h1, h2, h3]
theorem con_of {xs : List LI} {k : Nat} {x : LI} (hx : xs[k]? = some x) : (conI xs)[k]? = some x.con := by unfold conI; rw [List.getElem?_map, hx]; rfl
end Go.Proofs.Ytojcdmgcbgpdmaa.L6

set_option linter.unusedSimpArgs false
namespace Go.Proofs.Ytojcdmgcbgpdmaa.L6
open L4 (K isK cmpK R inR encU)
open L5 (F isR isN cellsF encR eqR Small)
open Go.ChangeShapes Go.WideShapes Go.ChangeAt Go.RowKit Mem Sl Ex L2 Sv Bag

set_option maxHeartbeats 8000000 in
theorem specEqualStores_any (y y2 : LS) (hf : FitS y.con) (hf2 : FitS y2.con) (w : World) (hr : RowsRd w w.heap.size y.rows) (hr2 : RowsRd w w.heap.size y2.rows) :
  Calls Try.prog 153 #[y.v, y2.v] w fun e w' => e = .returned (.bool (eqS y.con y2.con)) ∧ Below w.heap.size w w' := by
 obtain ⟨name, a, c, xs, auto⟩ := y
 have HR := Lib.hid (fun w' (h : Below w.heap.size w w') => LS.outer (hr.below h))
 have HX := Lib.hid (fun w' (h : Below w.heap.size w w') => (LS.inner (hr.below h)).more h.size)
 have HF := Lib.hid hf.items
 have HNM := Lib.hid hf.name
 have hl := hf.len
 simp only [LS.con, conI_length] at hl
 dsimp only [LS.con] at HR HX HF HNM
 try unfold LS.v LS.cells LS.con
 try dsimp only
 obtain ⟨N, hN⟩ : ∃ n, n = xs.length := ⟨_, rfl⟩
 rw [← hN] at hl ⊢
 have hl' : (N : Int) ≤ 1048576 := by omega
 have HN := Lib.hid hN
 clear hN hr hf
 obtain ⟨name2, a2, c2, xs2, auto2⟩ := y2
 have HR2 := Lib.hid (fun w' (h : Below w.heap.size w w') => LS.outer (hr2.below h))
 have HX2 := Lib.hid (fun w' (h : Below w.heap.size w w') => (LS.inner (hr2.below h)).more h.size)
 have HF2 := Lib.hid hf2.items
 have HNM2 := Lib.hid hf2.name
 have hl2 := hf2.len
 simp only [LS.con, conI_length] at hl2
 dsimp only [LS.con] at HR2 HX2 HF2 HNM2
 try unfold LS.v LS.cells LS.con
 try dsimp only
 obtain ⟨N2, hN2⟩ : ∃ n, n = xs2.length := ⟨_, rfl⟩
 rw [← hN2] at hl2 ⊢
 have hl2' : (N2 : Int) ≤ 1048576 := by omega
 have HN2 := Lib.hid hN2
 clear hN2 hr2 hf2
 obtain ⟨be, hbe⟩ : ∃ b, eqS ⟨name, conI xs, auto⟩ ⟨name2, conI xs2, auto2⟩ = b := ⟨_, rfl⟩
 rw [hbe]
 have HE := Lib.hid (show be = ((name.toList == name2.toList) && ((auto == auto2) && eqI (conI xs) (conI xs2))) from by rw [← hbe]; unfold eqS; rw [ByteArray.toList_eq, ByteArray.toList_eq])
 clear hbe
 have S1 := Lib.hid (show Sl.Sep w _ [_, _] from L4.push_box (L4.push_box (Sl.Sep.start w) 26 #[.string name, .slice a N c, .int .i64 auto] (w.heap.size) (by simp)) 26 #[.string name2, .slice a2 N2 c2, .int .i64 auto2] (w.heap.size + 1) (by simp))
 obtain ⟨wa, hwa⟩ : ∃ u, u = ((w.alloc (.cells #[.string name, .slice a N c, .int .i64 auto] 26)).alloc (.cells #[.string name2, .slice a2 N2 c2, .int .i64 auto2] 26)) := ⟨_, rfl⟩
 rw [← hwa] at S1
 go_enter Try.func153, Try.ntmps153
 go_upto_region 1 with fail
 rw [← hwa]
 clear hwa
 have f0 : World.cell? _ ⟨w.heap.size, 0, none⟩ = some (.string name) := Bag.cell_at S1.out 0 rfl 0 rfl
 have f1 : World.cell? _ ⟨w.heap.size, 1, none⟩ = some (.slice a N c) := Bag.cell_at S1.out 0 rfl 1 rfl
 have f2 : World.cell? _ ⟨w.heap.size, 2, none⟩ = some (.int .i64 auto) := Bag.cell_at S1.out 0 rfl 2 rfl
 have f3 : World.cell? _ ⟨w.heap.size + 1, 0, none⟩ = some (.string name2) := Bag.cell_at S1.out 1 rfl 0 rfl
 have f4 : World.cell? _ ⟨w.heap.size + 1, 1, none⟩ = some (.slice a2 N2 c2) := Bag.cell_at S1.out 1 rfl 1 rfl
 have f5 : World.cell? _ ⟨w.heap.size + 1, 2, none⟩ = some (.int .i64 auto2) := Bag.cell_at S1.out 1 rfl 2 rfl
 cases hn : name.toList == name2.toList with
 | false =>
  have HB := Lib.hid (show be = false from by rw [HE.out, hn]; rfl)
  go_wp2_with fail
  go_ret
  exact ⟨by rw [HB.out]; rfl, S1.out.old⟩
 | true =>
  cases hu : auto == auto2 with
  | false =>
   have hu2 : (auto != auto2) = true := by rw [bne, hu]; rfl
   have HB := Lib.hid (show be = false from by rw [HE.out, hn, hu]; rfl)
   go_wp2_with fail
   go_ret
   exact ⟨by rw [HB.out]; rfl, S1.out.old⟩
  | true =>
   have HB := Lib.hid (show be = eqI (conI xs) (conI xs2) from by rw [HE.out, hn, hu]; rfl)
   have hu2 : (auto != auto2) = false := by rw [bne, hu]; rfl
   by_cases hN : N = N2
   ·
    subst hN
    go_wp2_with fail
    go_loopw [5] (fun i wr => ∃ k : Nat, k ≤ N ∧ i = .int .i64 k ∧ Hid ((∀ j (h1 : j < (conI xs).length) (h2 : j < (conI xs2).length), j < k → (eqK (conI xs)[j].k (conI xs2)[j].k && eqR (conI xs)[j].l (conI xs2)[j].l) = true) ∧ Sl.Sep w wr [L4.boxR w.heap.size 26 #[.string name, .slice a N c, .int .i64 auto], L4.boxR (w.heap.size + 1) 26 #[.string name2, .slice a2 N c2, .int .i64 auto2]])) (fun i _ => N - (intOf i).toNat)
    case atStart => exact ⟨0, Nat.zero_le _, rfl, And.intro (fun j h1 h2 h => absurd h (by omega)) S1.out⟩
    case round =>
     clear f0 f1 f2 f3 f4 f5
     obtain ⟨k, hk, rfl, hrel⟩ := hrel
     have HA := Lib.hid hrel.out.1
     have S2 := Lib.hid hrel.out.2
     clear hrel S1
     by_cases hlt : (k : Int) < (N : Int)
     ·
      skip
      have hkl : k < xs.length := by have := HN.out; omega
      have hkl2 : k < xs2.length := by have := HN2.out; omega
      obtain ⟨ad, x, rfl, hx⟩ := readsI_some (HR.out _ S2.out.old) k hkl
      obtain ⟨⟨kd, n, t⟩, ia, ic, l⟩ := x
      have HK := Lib.hid (fun w' (h : Below w.heap.size w w') => readsI_at (HR.out _ h) k _ hx)
      try dsimp only at HK
      have HFI := Lib.hid (fit_at HF.out hx)
      try dsimp only [LI.con] at HFI
      obtain ⟨ad2, x, rfl, hx2⟩ := readsI_some (HR2.out _ S2.out.old) k hkl2
      obtain ⟨⟨kd2, n2, t2⟩, ia2, ic2, l2⟩ := x
      have HK2 := Lib.hid (fun w' (h : Below w.heap.size w w') => readsI_at (HR2.out _ h) k _ hx2)
      try dsimp only at HK2
      have HFI2 := Lib.hid (fit_at HF2.out hx2)
      try dsimp only [LI.con] at HFI2
      have HC := Lib.hid (show (conI xs)[k]? = some (⟨⟨kd, n, t⟩, l⟩ : It) from con_of hx)
      have HC2 := Lib.hid (show (conI xs2)[k]? = some (⟨⟨kd2, n2, t2⟩, l2⟩ : It) from con_of hx2)
      obtain ⟨b, hb⟩ : ∃ b, eqK ⟨kd, n, t⟩ ⟨kd2, n2, t2⟩ = b := ⟨_, rfl⟩
      have HEQ := fun w => key_eq kd n t kd2 n2 t2 w
      rw [hb] at HEQ
      have HBK := Lib.hid hb
      clear hb
      obtain ⟨br, hbr⟩ : ∃ b, eqR l l2 = b := ⟨_, rfl⟩
      have HER := fun w' (h : Below w.heap.size w w') => L5.specEqualRecords_any ia ia2 ic ic2 l l2 (by have : l.length ≤ 1048576 := HFI.out.len; omega) (by have : l2.length ≤ 1048576 := HFI2.out.len; omega) w' (((HX.out _ h).at_ (rowsI_mem hx)).reads) (((HX2.out _ h).at_ (rowsI_mem hx2)).reads)
      rw [hbr] at HER
      replace HER := Lib.hid HER
      have HBR := Lib.hid hbr
      clear hbr hx hx2
      have f0 : World.cell? _ ⟨w.heap.size, 0, none⟩ = some (.string name) := Bag.cell_at S2.out 0 rfl 0 rfl
      have f1 : World.cell? _ ⟨w.heap.size, 1, none⟩ = some (.slice (some ad) N c) := Bag.cell_at S2.out 0 rfl 1 rfl
      have f2 : World.cell? _ ⟨w.heap.size, 2, none⟩ = some (.int .i64 auto) := Bag.cell_at S2.out 0 rfl 2 rfl
      have f3 : World.cell? _ ⟨w.heap.size + 1, 0, none⟩ = some (.string name2) := Bag.cell_at S2.out 1 rfl 0 rfl
      have f4 : World.cell? _ ⟨w.heap.size + 1, 1, none⟩ = some (.slice (some ad2) N c2) := Bag.cell_at S2.out 1 rfl 1 rfl
      have f5 : World.cell? _ ⟨w.heap.size + 1, 2, none⟩ = some (.int .i64 auto2) := Bag.cell_at S2.out 1 rfl 2 rfl
      have f6 : World.cell? _ (ad.add (k * 4)) = some (.int .i64 kd) := (HK.out _ S2.out.old).1
      have f7 : World.cell? _ (⟨(ad.add (k * 4)).block, (ad.add (k * 4)).off + 1, none⟩) = some (.int .i64 n) := (HK.out _ S2.out.old).2.1
      have f8 : World.cell? _ (⟨(ad.add (k * 4)).block, (ad.add (k * 4)).off + 2, none⟩) = some (.string t) := (HK.out _ S2.out.old).2.2.1
      have f9 : World.cell? _ (⟨(ad.add (k * 4)).block, (ad.add (k * 4)).off + 3, none⟩) = some (.slice ia l.length ic) := (HK.out _ S2.out.old).2.2.2
      have f10 : World.cell? _ (ad2.add (k * 4)) = some (.int .i64 kd2) := (HK2.out _ S2.out.old).1
      have f11 : World.cell? _ (⟨(ad2.add (k * 4)).block, (ad2.add (k * 4)).off + 1, none⟩) = some (.int .i64 n2) := (HK2.out _ S2.out.old).2.1
      have f12 : World.cell? _ (⟨(ad2.add (k * 4)).block, (ad2.add (k * 4)).off + 2, none⟩) = some (.string t2) := (HK2.out _ S2.out.old).2.2.1
      have f13 : World.cell? _ (⟨(ad2.add (k * 4)).block, (ad2.add (k * 4)).off + 3, none⟩) = some (.slice ia2 l2.length ic2) := (HK2.out _ S2.out.old).2.2.2
      cases b with
      | false =>
       go_upto_region 6 with fail
       clear f0 f1 f2 f3 f4 f5 f6 f7 f8 f9 f10 f11 f12 f13
       refine wp_region_held_drew (S := (fun w' => w'.cell? ⟨w.heap.size, 0, none⟩ = some (.string name) ∧ w'.cell? ⟨w.heap.size, 1, none⟩ = some (.slice (some ad) N c) ∧ w'.cell? ⟨w.heap.size, 2, none⟩ = some (.int .i64 auto) ∧ w'.cell? ⟨w.heap.size + 1, 0, none⟩ = some (.string name2) ∧ w'.cell? ⟨w.heap.size + 1, 1, none⟩ = some (.slice (some ad2) N c2) ∧ w'.cell? ⟨w.heap.size + 1, 2, none⟩ = some (.int .i64 auto2) ∧ w'.cell? (ad.add (k * 4)) = some (.int .i64 kd) ∧ w'.cell? (⟨(ad.add (k * 4)).block, (ad.add (k * 4)).off + 1, none⟩) = some (.int .i64 n) ∧ w'.cell? (⟨(ad.add (k * 4)).block, (ad.add (k * 4)).off + 2, none⟩) = some (.string t) ∧ w'.cell? (⟨(ad.add (k * 4)).block, (ad.add (k * 4)).off + 3, none⟩) = some (.slice ia l.length ic) ∧ w'.cell? (ad2.add (k * 4)) = some (.int .i64 kd2) ∧ w'.cell? (⟨(ad2.add (k * 4)).block, (ad2.add (k * 4)).off + 1, none⟩) = some (.int .i64 n2) ∧ w'.cell? (⟨(ad2.add (k * 4)).block, (ad2.add (k * 4)).off + 2, none⟩) = some (.string t2) ∧ w'.cell? (⟨(ad2.add (k * 4)).block, (ad2.add (k * 4)).off + 3, none⟩) = some (.slice ia2 l2.length ic2))) (by kernel_rfl) ⟨Bag.cell_at S2.out 0 rfl 0 rfl, Bag.cell_at S2.out 0 rfl 1 rfl, Bag.cell_at S2.out 0 rfl 2 rfl, Bag.cell_at S2.out 1 rfl 0 rfl, Bag.cell_at S2.out 1 rfl 1 rfl, Bag.cell_at S2.out 1 rfl 2 rfl, (HK.out _ S2.out.old).1, (HK.out _ S2.out.old).2.1, (HK.out _ S2.out.old).2.2.1, (HK.out _ S2.out.old).2.2.2, (HK2.out _ S2.out.old).1, (HK2.out _ S2.out.old).2.1, (HK2.out _ S2.out.old).2.2.1, (HK2.out _ S2.out.old).2.2.2⟩ (fun hS => ?_)
       have S3 := Lib.hid (Bag.drew1 S2.out)
       clear S2
       generalize World.drew _ = w1 at hS S3 ⊢
       refine tk 0 rfl ?_
       try simp only [zp0, zp1, zp2, zp3, zp4]
       refine tk 1 rfl ?_
       try simp only [zp0, zp1, zp2, zp3, zp4]
       refine tk 2 rfl ?_
       try simp only [zp0, zp1, zp2, zp3, zp4]
       refine tk 3 rfl ?_
       try simp only [zp0, zp1, zp2, zp3, zp4]
       refine tk 4 rfl ?_
       try simp only [zp0, zp1, zp2, zp3, zp4]
       refine tk 5 rfl ?_
       try simp only [zp0, zp1, zp2, zp3, zp4]
       refine tk 6 rfl ?_
       try simp only [zp0, zp1, zp2, zp3, zp4]
       refine tk 7 rfl ?_
       try simp only [zp0, zp1, zp2, zp3, zp4]
       refine tk 8 rfl ?_
       try simp only [zp0, zp1, zp2, zp3, zp4]
       refine tk 9 rfl ?_
       try simp only [zp0, zp1, zp2, zp3, zp4]
       refine tk 10 rfl ?_
       try simp only [zp0, zp1, zp2, zp3, zp4]
       refine tk 11 rfl ?_
       try simp only [zp0, zp1, zp2, zp3, zp4]
       refine tk 12 rfl ?_
       try simp only [zp0, zp1, zp2, zp3, zp4]
       refine tk 13 rfl ?_
       try simp only [zp0, zp1, zp2, zp3, zp4]
       refine sk 14 rfl ?_
       try simp only [zp0, zp1, zp2, zp3, zp4]
       refine sk 15 rfl ?_
       try simp only [zp0, zp1, zp2, zp3, zp4]
       refine sk 16 rfl ?_
       try simp only [zp0, zp1, zp2, zp3, zp4]
       refine sk 17 rfl ?_
       try simp only [zp0, zp1, zp2, zp3, zp4]
       refine sk 18 rfl ?_
       try simp only [zp0, zp1, zp2, zp3, zp4]
       refine sk 19 rfl ?_
       try simp only [zp0, zp1, zp2, zp3, zp4]
       refine sk 20 rfl ?_
       try simp only [zp0, zp1, zp2, zp3, zp4]
       refine sk 21 rfl ?_
       try simp only [zp0, zp1, zp2, zp3, zp4]
       refine sk 22 rfl ?_
       try simp only [zp0, zp1, zp2, zp3, zp4]
       refine sk 23 rfl ?_
       try simp only [zp0, zp1, zp2, zp3, zp4]
       refine sk 24 rfl ?_
       try simp only [zp0, zp1, zp2, zp3, zp4]
       refine sk 25 rfl ?_
       try simp only [zp0, zp1, zp2, zp3, zp4]
       refine Reg.skip_one (i := 26) rfl (by kernel_rfl) (by rfl) (by assumption) ?_
       try simp only [zp0, zp1, zp2, zp3, zp4]
       refine sk 27 rfl ?_
       try simp only [zp0, zp1, zp2, zp3, zp4]
       refine tk 28 rfl ?_
       try simp only [zp0, zp1, zp2, zp3, zp4]
       refine wpAnyH_done (by kernel_rfl) ?_ _
       have f0 : World.cell? _ ⟨w.heap.size, 0, none⟩ = some (.string name) := Bag.cell_at S3.out 0 rfl 0 rfl
       have f1 : World.cell? _ ⟨w.heap.size, 1, none⟩ = some (.slice (some ad) N c) := Bag.cell_at S3.out 0 rfl 1 rfl
       have f2 : World.cell? _ ⟨w.heap.size, 2, none⟩ = some (.int .i64 auto) := Bag.cell_at S3.out 0 rfl 2 rfl
       have f3 : World.cell? _ ⟨w.heap.size + 1, 0, none⟩ = some (.string name2) := Bag.cell_at S3.out 1 rfl 0 rfl
       have f4 : World.cell? _ ⟨w.heap.size + 1, 1, none⟩ = some (.slice (some ad2) N c2) := Bag.cell_at S3.out 1 rfl 1 rfl
       have f5 : World.cell? _ ⟨w.heap.size + 1, 2, none⟩ = some (.int .i64 auto2) := Bag.cell_at S3.out 1 rfl 2 rfl
       have f6 : World.cell? _ (ad.add (k * 4)) = some (.int .i64 kd) := (HK.out _ S3.out.old).1
       have f7 : World.cell? _ (⟨(ad.add (k * 4)).block, (ad.add (k * 4)).off + 1, none⟩) = some (.int .i64 n) := (HK.out _ S3.out.old).2.1
       have f8 : World.cell? _ (⟨(ad.add (k * 4)).block, (ad.add (k * 4)).off + 2, none⟩) = some (.string t) := (HK.out _ S3.out.old).2.2.1
       have f9 : World.cell? _ (⟨(ad.add (k * 4)).block, (ad.add (k * 4)).off + 3, none⟩) = some (.slice ia l.length ic) := (HK.out _ S3.out.old).2.2.2
       have f10 : World.cell? _ (ad2.add (k * 4)) = some (.int .i64 kd2) := (HK2.out _ S3.out.old).1
       have f11 : World.cell? _ (⟨(ad2.add (k * 4)).block, (ad2.add (k * 4)).off + 1, none⟩) = some (.int .i64 n2) := (HK2.out _ S3.out.old).2.1
       have f12 : World.cell? _ (⟨(ad2.add (k * 4)).block, (ad2.add (k * 4)).off + 2, none⟩) = some (.string t2) := (HK2.out _ S3.out.old).2.2.1
       have f13 : World.cell? _ (⟨(ad2.add (k * 4)).block, (ad2.add (k * 4)).off + 3, none⟩) = some (.slice ia2 l2.length ic2) := (HK2.out _ S3.out.old).2.2.2
       have HNO := Lib.hid (show eqI (conI xs) (conI xs2) = false from eqI_no k (List.getElem?_eq_some_iff.1 HC.out).1 (List.getElem?_eq_some_iff.1 HC2.out).1 (by rw [(List.getElem?_eq_some_iff.1 HC.out).2, (List.getElem?_eq_some_iff.1 HC2.out).2]; dsimp only; rw [HBK.out]; rfl))
       go_wp2_with fail
       go_ret
       exact ⟨by rw [HB.out, HNO.out]; rfl, S3.out.old⟩
      | true =>
       cases br with
       | false =>
        go_upto_region 6 with fail
        clear f0 f1 f2 f3 f4 f5 f6 f7 f8 f9 f10 f11 f12 f13
        refine wp_region_held_drew (S := (fun w' => w'.cell? ⟨w.heap.size, 0, none⟩ = some (.string name) ∧ w'.cell? ⟨w.heap.size, 1, none⟩ = some (.slice (some ad) N c) ∧ w'.cell? ⟨w.heap.size, 2, none⟩ = some (.int .i64 auto) ∧ w'.cell? ⟨w.heap.size + 1, 0, none⟩ = some (.string name2) ∧ w'.cell? ⟨w.heap.size + 1, 1, none⟩ = some (.slice (some ad2) N c2) ∧ w'.cell? ⟨w.heap.size + 1, 2, none⟩ = some (.int .i64 auto2) ∧ w'.cell? (ad.add (k * 4)) = some (.int .i64 kd) ∧ w'.cell? (⟨(ad.add (k * 4)).block, (ad.add (k * 4)).off + 1, none⟩) = some (.int .i64 n) ∧ w'.cell? (⟨(ad.add (k * 4)).block, (ad.add (k * 4)).off + 2, none⟩) = some (.string t) ∧ w'.cell? (⟨(ad.add (k * 4)).block, (ad.add (k * 4)).off + 3, none⟩) = some (.slice ia l.length ic) ∧ w'.cell? (ad2.add (k * 4)) = some (.int .i64 kd2) ∧ w'.cell? (⟨(ad2.add (k * 4)).block, (ad2.add (k * 4)).off + 1, none⟩) = some (.int .i64 n2) ∧ w'.cell? (⟨(ad2.add (k * 4)).block, (ad2.add (k * 4)).off + 2, none⟩) = some (.string t2) ∧ w'.cell? (⟨(ad2.add (k * 4)).block, (ad2.add (k * 4)).off + 3, none⟩) = some (.slice ia2 l2.length ic2))) (by kernel_rfl) ⟨Bag.cell_at S2.out 0 rfl 0 rfl, Bag.cell_at S2.out 0 rfl 1 rfl, Bag.cell_at S2.out 0 rfl 2 rfl, Bag.cell_at S2.out 1 rfl 0 rfl, Bag.cell_at S2.out 1 rfl 1 rfl, Bag.cell_at S2.out 1 rfl 2 rfl, (HK.out _ S2.out.old).1, (HK.out _ S2.out.old).2.1, (HK.out _ S2.out.old).2.2.1, (HK.out _ S2.out.old).2.2.2, (HK2.out _ S2.out.old).1, (HK2.out _ S2.out.old).2.1, (HK2.out _ S2.out.old).2.2.1, (HK2.out _ S2.out.old).2.2.2⟩ (fun hS => ?_)
        have S3 := Lib.hid (Bag.drew1 S2.out)
        clear S2
        generalize World.drew _ = w1 at hS S3 ⊢
        refine tk 0 rfl ?_
        try simp only [zp0, zp1, zp2, zp3, zp4]
        refine tk 1 rfl ?_
        try simp only [zp0, zp1, zp2, zp3, zp4]
        refine tk 2 rfl ?_
        try simp only [zp0, zp1, zp2, zp3, zp4]
        refine tk 3 rfl ?_
        try simp only [zp0, zp1, zp2, zp3, zp4]
        refine tk 4 rfl ?_
        try simp only [zp0, zp1, zp2, zp3, zp4]
        refine tk 5 rfl ?_
        try simp only [zp0, zp1, zp2, zp3, zp4]
        refine tk 6 rfl ?_
        try simp only [zp0, zp1, zp2, zp3, zp4]
        refine tk 7 rfl ?_
        try simp only [zp0, zp1, zp2, zp3, zp4]
        refine tk 8 rfl ?_
        try simp only [zp0, zp1, zp2, zp3, zp4]
        refine tk 9 rfl ?_
        try simp only [zp0, zp1, zp2, zp3, zp4]
        refine tk 10 rfl ?_
        try simp only [zp0, zp1, zp2, zp3, zp4]
        refine tk 11 rfl ?_
        try simp only [zp0, zp1, zp2, zp3, zp4]
        refine tk 12 rfl ?_
        try simp only [zp0, zp1, zp2, zp3, zp4]
        refine tk 13 rfl ?_
        try simp only [zp0, zp1, zp2, zp3, zp4]
        refine tk 14 rfl ?_
        try simp only [zp0, zp1, zp2, zp3, zp4]
        refine tk 15 rfl ?_
        try simp only [zp0, zp1, zp2, zp3, zp4]
        refine tk 16 rfl ?_
        try simp only [zp0, zp1, zp2, zp3, zp4]
        refine tk 17 rfl ?_
        try simp only [zp0, zp1, zp2, zp3, zp4]
        refine tk 18 rfl ?_
        try simp only [zp0, zp1, zp2, zp3, zp4]
        refine tk 19 rfl ?_
        try simp only [zp0, zp1, zp2, zp3, zp4]
        refine tk 20 rfl ?_
        try simp only [zp0, zp1, zp2, zp3, zp4]
        refine tk 21 rfl ?_
        try simp only [zp0, zp1, zp2, zp3, zp4]
        refine tk 22 rfl ?_
        try simp only [zp0, zp1, zp2, zp3, zp4]
        refine tk 23 rfl ?_
        try simp only [zp0, zp1, zp2, zp3, zp4]
        refine tk 24 rfl ?_
        try simp only [zp0, zp1, zp2, zp3, zp4]
        refine tk 25 rfl ?_
        try simp only [zp0, zp1, zp2, zp3, zp4]
        refine Reg.one_op (i := 26) rfl (by kernel_rfl) (fun K hK => ?_)
        go_simp
        go_at_call 204
        refine (HER.out _ S3.out.old).mono ?_
        rintro e w2 ⟨rfl, hb⟩
        have S4 := Lib.hid (show Sl.Sep w _ [_, _] from S3.out.keep hb)
        clear S3
        clear hb
        go_wp2_with fail
        refine hK.out _ _ ⟨Bag.cell_at S4.out 0 rfl 0 rfl, Bag.cell_at S4.out 0 rfl 1 rfl, Bag.cell_at S4.out 0 rfl 2 rfl, Bag.cell_at S4.out 1 rfl 0 rfl, Bag.cell_at S4.out 1 rfl 1 rfl, Bag.cell_at S4.out 1 rfl 2 rfl, (HK.out _ S4.out.old).1, (HK.out _ S4.out.old).2.1, (HK.out _ S4.out.old).2.2.1, (HK.out _ S4.out.old).2.2.2, (HK2.out _ S4.out.old).1, (HK2.out _ S4.out.old).2.1, (HK2.out _ S4.out.old).2.2.1, (HK2.out _ S4.out.old).2.2.2⟩ (fun hS => ?_)
        clear hK K
        try simp only [zp0, zp1, zp2, zp3, zp4]
        refine tk 27 rfl ?_
        try simp only [zp0, zp1, zp2, zp3, zp4]
        refine tk 28 rfl ?_
        try simp only [zp0, zp1, zp2, zp3, zp4]
        refine wpAnyH_done (by kernel_rfl) ?_ _
        have f0 : World.cell? _ ⟨w.heap.size, 0, none⟩ = some (.string name) := Bag.cell_at S4.out 0 rfl 0 rfl
        have f1 : World.cell? _ ⟨w.heap.size, 1, none⟩ = some (.slice (some ad) N c) := Bag.cell_at S4.out 0 rfl 1 rfl
        have f2 : World.cell? _ ⟨w.heap.size, 2, none⟩ = some (.int .i64 auto) := Bag.cell_at S4.out 0 rfl 2 rfl
        have f3 : World.cell? _ ⟨w.heap.size + 1, 0, none⟩ = some (.string name2) := Bag.cell_at S4.out 1 rfl 0 rfl
        have f4 : World.cell? _ ⟨w.heap.size + 1, 1, none⟩ = some (.slice (some ad2) N c2) := Bag.cell_at S4.out 1 rfl 1 rfl
        have f5 : World.cell? _ ⟨w.heap.size + 1, 2, none⟩ = some (.int .i64 auto2) := Bag.cell_at S4.out 1 rfl 2 rfl
        have f6 : World.cell? _ (ad.add (k * 4)) = some (.int .i64 kd) := (HK.out _ S4.out.old).1
        have f7 : World.cell? _ (⟨(ad.add (k * 4)).block, (ad.add (k * 4)).off + 1, none⟩) = some (.int .i64 n) := (HK.out _ S4.out.old).2.1
        have f8 : World.cell? _ (⟨(ad.add (k * 4)).block, (ad.add (k * 4)).off + 2, none⟩) = some (.string t) := (HK.out _ S4.out.old).2.2.1
        have f9 : World.cell? _ (⟨(ad.add (k * 4)).block, (ad.add (k * 4)).off + 3, none⟩) = some (.slice ia l.length ic) := (HK.out _ S4.out.old).2.2.2
        have f10 : World.cell? _ (ad2.add (k * 4)) = some (.int .i64 kd2) := (HK2.out _ S4.out.old).1
        have f11 : World.cell? _ (⟨(ad2.add (k * 4)).block, (ad2.add (k * 4)).off + 1, none⟩) = some (.int .i64 n2) := (HK2.out _ S4.out.old).2.1
        have f12 : World.cell? _ (⟨(ad2.add (k * 4)).block, (ad2.add (k * 4)).off + 2, none⟩) = some (.string t2) := (HK2.out _ S4.out.old).2.2.1
        have f13 : World.cell? _ (⟨(ad2.add (k * 4)).block, (ad2.add (k * 4)).off + 3, none⟩) = some (.slice ia2 l2.length ic2) := (HK2.out _ S4.out.old).2.2.2
        have HNO := Lib.hid (show eqI (conI xs) (conI xs2) = false from eqI_no k (List.getElem?_eq_some_iff.1 HC.out).1 (List.getElem?_eq_some_iff.1 HC2.out).1 (by rw [(List.getElem?_eq_some_iff.1 HC.out).2, (List.getElem?_eq_some_iff.1 HC2.out).2]; dsimp only; rw [HBK.out, HBR.out]; rfl))
        go_wp2_with fail
        go_ret
        exact ⟨by rw [HB.out, HNO.out]; rfl, S4.out.old⟩
       | true =>
        go_upto_region 6 with fail
        clear f0 f1 f2 f3 f4 f5 f6 f7 f8 f9 f10 f11 f12 f13
        refine wp_region_held_drew (S := (fun w' => w'.cell? ⟨w.heap.size, 0, none⟩ = some (.string name) ∧ w'.cell? ⟨w.heap.size, 1, none⟩ = some (.slice (some ad) N c) ∧ w'.cell? ⟨w.heap.size, 2, none⟩ = some (.int .i64 auto) ∧ w'.cell? ⟨w.heap.size + 1, 0, none⟩ = some (.string name2) ∧ w'.cell? ⟨w.heap.size + 1, 1, none⟩ = some (.slice (some ad2) N c2) ∧ w'.cell? ⟨w.heap.size + 1, 2, none⟩ = some (.int .i64 auto2) ∧ w'.cell? (ad.add (k * 4)) = some (.int .i64 kd) ∧ w'.cell? (⟨(ad.add (k * 4)).block, (ad.add (k * 4)).off + 1, none⟩) = some (.int .i64 n) ∧ w'.cell? (⟨(ad.add (k * 4)).block, (ad.add (k * 4)).off + 2, none⟩) = some (.string t) ∧ w'.cell? (⟨(ad.add (k * 4)).block, (ad.add (k * 4)).off + 3, none⟩) = some (.slice ia l.length ic) ∧ w'.cell? (ad2.add (k * 4)) = some (.int .i64 kd2) ∧ w'.cell? (⟨(ad2.add (k * 4)).block, (ad2.add (k * 4)).off + 1, none⟩) = some (.int .i64 n2) ∧ w'.cell? (⟨(ad2.add (k * 4)).block, (ad2.add (k * 4)).off + 2, none⟩) = some (.string t2) ∧ w'.cell? (⟨(ad2.add (k * 4)).block, (ad2.add (k * 4)).off + 3, none⟩) = some (.slice ia2 l2.length ic2))) (by kernel_rfl) ⟨Bag.cell_at S2.out 0 rfl 0 rfl, Bag.cell_at S2.out 0 rfl 1 rfl, Bag.cell_at S2.out 0 rfl 2 rfl, Bag.cell_at S2.out 1 rfl 0 rfl, Bag.cell_at S2.out 1 rfl 1 rfl, Bag.cell_at S2.out 1 rfl 2 rfl, (HK.out _ S2.out.old).1, (HK.out _ S2.out.old).2.1, (HK.out _ S2.out.old).2.2.1, (HK.out _ S2.out.old).2.2.2, (HK2.out _ S2.out.old).1, (HK2.out _ S2.out.old).2.1, (HK2.out _ S2.out.old).2.2.1, (HK2.out _ S2.out.old).2.2.2⟩ (fun hS => ?_)
        have S3 := Lib.hid (Bag.drew1 S2.out)
        clear S2
        generalize World.drew _ = w1 at hS S3 ⊢
        refine tk 0 rfl ?_
        try simp only [zp0, zp1, zp2, zp3, zp4]
        refine tk 1 rfl ?_
        try simp only [zp0, zp1, zp2, zp3, zp4]
        refine tk 2 rfl ?_
        try simp only [zp0, zp1, zp2, zp3, zp4]
        refine tk 3 rfl ?_
        try simp only [zp0, zp1, zp2, zp3, zp4]
        refine tk 4 rfl ?_
        try simp only [zp0, zp1, zp2, zp3, zp4]
        refine tk 5 rfl ?_
        try simp only [zp0, zp1, zp2, zp3, zp4]
        refine tk 6 rfl ?_
        try simp only [zp0, zp1, zp2, zp3, zp4]
        refine tk 7 rfl ?_
        try simp only [zp0, zp1, zp2, zp3, zp4]
        refine tk 8 rfl ?_
        try simp only [zp0, zp1, zp2, zp3, zp4]
        refine tk 9 rfl ?_
        try simp only [zp0, zp1, zp2, zp3, zp4]
        refine tk 10 rfl ?_
        try simp only [zp0, zp1, zp2, zp3, zp4]
        refine tk 11 rfl ?_
        try simp only [zp0, zp1, zp2, zp3, zp4]
        refine tk 12 rfl ?_
        try simp only [zp0, zp1, zp2, zp3, zp4]
        refine tk 13 rfl ?_
        try simp only [zp0, zp1, zp2, zp3, zp4]
        refine tk 14 rfl ?_
        try simp only [zp0, zp1, zp2, zp3, zp4]
        refine tk 15 rfl ?_
        try simp only [zp0, zp1, zp2, zp3, zp4]
        refine tk 16 rfl ?_
        try simp only [zp0, zp1, zp2, zp3, zp4]
        refine tk 17 rfl ?_
        try simp only [zp0, zp1, zp2, zp3, zp4]
        refine tk 18 rfl ?_
        try simp only [zp0, zp1, zp2, zp3, zp4]
        refine tk 19 rfl ?_
        try simp only [zp0, zp1, zp2, zp3, zp4]
        refine tk 20 rfl ?_
        try simp only [zp0, zp1, zp2, zp3, zp4]
        refine tk 21 rfl ?_
        try simp only [zp0, zp1, zp2, zp3, zp4]
        refine tk 22 rfl ?_
        try simp only [zp0, zp1, zp2, zp3, zp4]
        refine tk 23 rfl ?_
        try simp only [zp0, zp1, zp2, zp3, zp4]
        refine tk 24 rfl ?_
        try simp only [zp0, zp1, zp2, zp3, zp4]
        refine tk 25 rfl ?_
        try simp only [zp0, zp1, zp2, zp3, zp4]
        refine Reg.one_op (i := 26) rfl (by kernel_rfl) (fun K hK => ?_)
        go_simp
        go_at_call 204
        refine (HER.out _ S3.out.old).mono ?_
        rintro e w2 ⟨rfl, hb⟩
        have S4 := Lib.hid (show Sl.Sep w _ [_, _] from S3.out.keep hb)
        clear S3
        clear hb
        go_wp2_with fail
        refine hK.out _ _ ⟨Bag.cell_at S4.out 0 rfl 0 rfl, Bag.cell_at S4.out 0 rfl 1 rfl, Bag.cell_at S4.out 0 rfl 2 rfl, Bag.cell_at S4.out 1 rfl 0 rfl, Bag.cell_at S4.out 1 rfl 1 rfl, Bag.cell_at S4.out 1 rfl 2 rfl, (HK.out _ S4.out.old).1, (HK.out _ S4.out.old).2.1, (HK.out _ S4.out.old).2.2.1, (HK.out _ S4.out.old).2.2.2, (HK2.out _ S4.out.old).1, (HK2.out _ S4.out.old).2.1, (HK2.out _ S4.out.old).2.2.1, (HK2.out _ S4.out.old).2.2.2⟩ (fun hS => ?_)
        clear hK K
        try simp only [zp0, zp1, zp2, zp3, zp4]
        refine tk 27 rfl ?_
        try simp only [zp0, zp1, zp2, zp3, zp4]
        refine tk 28 rfl ?_
        try simp only [zp0, zp1, zp2, zp3, zp4]
        refine wpAnyH_done (by kernel_rfl) ?_ _
        have f0 : World.cell? _ ⟨w.heap.size, 0, none⟩ = some (.string name) := Bag.cell_at S4.out 0 rfl 0 rfl
        have f1 : World.cell? _ ⟨w.heap.size, 1, none⟩ = some (.slice (some ad) N c) := Bag.cell_at S4.out 0 rfl 1 rfl
        have f2 : World.cell? _ ⟨w.heap.size, 2, none⟩ = some (.int .i64 auto) := Bag.cell_at S4.out 0 rfl 2 rfl
        have f3 : World.cell? _ ⟨w.heap.size + 1, 0, none⟩ = some (.string name2) := Bag.cell_at S4.out 1 rfl 0 rfl
        have f4 : World.cell? _ ⟨w.heap.size + 1, 1, none⟩ = some (.slice (some ad2) N c2) := Bag.cell_at S4.out 1 rfl 1 rfl
        have f5 : World.cell? _ ⟨w.heap.size + 1, 2, none⟩ = some (.int .i64 auto2) := Bag.cell_at S4.out 1 rfl 2 rfl
        have f6 : World.cell? _ (ad.add (k * 4)) = some (.int .i64 kd) := (HK.out _ S4.out.old).1
        have f7 : World.cell? _ (⟨(ad.add (k * 4)).block, (ad.add (k * 4)).off + 1, none⟩) = some (.int .i64 n) := (HK.out _ S4.out.old).2.1
        have f8 : World.cell? _ (⟨(ad.add (k * 4)).block, (ad.add (k * 4)).off + 2, none⟩) = some (.string t) := (HK.out _ S4.out.old).2.2.1
        have f9 : World.cell? _ (⟨(ad.add (k * 4)).block, (ad.add (k * 4)).off + 3, none⟩) = some (.slice ia l.length ic) := (HK.out _ S4.out.old).2.2.2
        have f10 : World.cell? _ (ad2.add (k * 4)) = some (.int .i64 kd2) := (HK2.out _ S4.out.old).1
        have f11 : World.cell? _ (⟨(ad2.add (k * 4)).block, (ad2.add (k * 4)).off + 1, none⟩) = some (.int .i64 n2) := (HK2.out _ S4.out.old).2.1
        have f12 : World.cell? _ (⟨(ad2.add (k * 4)).block, (ad2.add (k * 4)).off + 2, none⟩) = some (.string t2) := (HK2.out _ S4.out.old).2.2.1
        have f13 : World.cell? _ (⟨(ad2.add (k * 4)).block, (ad2.add (k * 4)).off + 3, none⟩) = some (.slice ia2 l2.length ic2) := (HK2.out _ S4.out.old).2.2.2
        go_wp2_with fail
        go_roundw
        case rel => exact ⟨k + 1, by omega, by go_num, And.intro (fun j h1 h2 h => by
         by_cases e : j < k
         ·
          exact HA.out j h1 h2 e
         ·
          obtain rfl : j = k := by omega
          rw [(List.getElem?_eq_some_iff.1 HC.out).2, (List.getElem?_eq_some_iff.1 HC2.out).2]; dsimp only; rw [HBK.out, HBR.out]; rfl) S4.out⟩
        case measure => simp [intOf]; omega
     ·
      skip
      have HI := Lib.hid (eqI_all (xs := conI xs) (ys := conI xs2) (by rw [conI_length, conI_length, ← HN.out, ← HN2.out]) (fun j h1 h2 => HA.out j h1 h2 (by rw [conI_length] at h1; have := HN.out; omega)))
      have f0 : World.cell? _ ⟨w.heap.size, 0, none⟩ = some (.string name) := Bag.cell_at S2.out 0 rfl 0 rfl
      have f1 : World.cell? _ ⟨w.heap.size, 1, none⟩ = some (.slice a N c) := Bag.cell_at S2.out 0 rfl 1 rfl
      have f2 : World.cell? _ ⟨w.heap.size, 2, none⟩ = some (.int .i64 auto) := Bag.cell_at S2.out 0 rfl 2 rfl
      have f3 : World.cell? _ ⟨w.heap.size + 1, 0, none⟩ = some (.string name2) := Bag.cell_at S2.out 1 rfl 0 rfl
      have f4 : World.cell? _ ⟨w.heap.size + 1, 1, none⟩ = some (.slice a2 N c2) := Bag.cell_at S2.out 1 rfl 1 rfl
      have f5 : World.cell? _ ⟨w.heap.size + 1, 2, none⟩ = some (.int .i64 auto2) := Bag.cell_at S2.out 1 rfl 2 rfl
      go_wp2_with fail
      go_ret
      exact ⟨by rw [HB.out, HI.out]; rfl, S2.out.old⟩
   ·
    have hne : ((N : Int) == (N2 : Int)) = false := by simp; omega
    have HI := Lib.hid (eqI_len (xs := conI xs) (ys := conI xs2) (by rw [conI_length, conI_length, ← HN.out, ← HN2.out]; exact hN))
    go_wp2_with fail
    go_ret
    exact ⟨by rw [HB.out, HI.out]; rfl, S1.out.old⟩
end Go.Proofs.Ytojcdmgcbgpdmaa.L6

set_option linter.unusedSimpArgs false
namespace Go.Proofs.Ytojcdmgcbgpdmaa.L10
open V L6 L9
open L4 (K isK cmpK)
open L5 (F isR isN string_geq)
open Go.Op (bytesLess)
open Go.ChangeShapes Go.WideShapes Go.ChangeAt Go.RowKit Mem Sl Ex L2 Sv Bag

set_option maxHeartbeats 8000000 in
theorem specEqualQueues_any (a : Option Addr) (c : Nat) (ts : List Y_Tx) (hl : ts.length ≤ 1048576) (hf : ∀ t ∈ coS_Tx ts, FitT t) (a2 : Option Addr) (c2 : Nat) (ts2 : List Y_Tx) (hl2 : ts2.length ≤ 1048576) (hf2 : ∀ t ∈ coS_Tx ts2, FitT t) (w : World) (hr : Reads w w.heap.size a (ts.flatMap cl_Tx)) (hx : RowsRd w w.heap.size (rws_Tx ts)) (hr2 : Reads w w.heap.size a2 (ts2.flatMap cl_Tx)) (hx2 : RowsRd w w.heap.size (rws_Tx ts2)) :
  Calls Try.prog 75 #[.agg #[.slice a ts.length c], .agg #[.slice a2 ts2.length c2]] w fun e w' => e = .returned (.bool (eqTs (coS_Tx ts) (coS_Tx ts2))) ∧ Below w.heap.size w w' := by
 have HR := Lib.hid (fun w' (h : Below w.heap.size w w') => hr.below h)
 have HX := Lib.hid (fun w' (h : Below w.heap.size w w') => (hx.below h).more h.size)
 have HF := Lib.hid hf
 obtain ⟨N, hN⟩ : ∃ n, n = ts.length := ⟨_, rfl⟩
 rw [← hN] at hl ⊢
 have hl' : (N : Int) ≤ 1048576 := by omega
 have HN := Lib.hid hN
 clear hN hr hx hf
 have HR2 := Lib.hid (fun w' (h : Below w.heap.size w w') => hr2.below h)
 have HX2 := Lib.hid (fun w' (h : Below w.heap.size w w') => (hx2.below h).more h.size)
 have HF2 := Lib.hid hf2
 obtain ⟨N2, hN2⟩ : ∃ n, n = ts2.length := ⟨_, rfl⟩
 rw [← hN2] at hl2 ⊢
 have hl2' : (N2 : Int) ≤ 1048576 := by omega
 have HN2 := Lib.hid hN2
 clear hN2 hr2 hx2 hf2
 have HSL := Lib.hid (show (coS_Tx ts).length = N ∧ (coS_Tx ts2).length = N2 from by rw [coT_len, coT_len, HN.out, HN2.out]; exact ⟨rfl, rfl⟩)
 obtain ⟨be, hbe⟩ : ∃ b, eqTs (coS_Tx ts) (coS_Tx ts2) = b := ⟨_, rfl⟩
 rw [hbe]
 have HB := Lib.hid hbe
 clear hbe
 have S1 := Lib.hid (show Sl.Sep w _ [_, _] from L4.push_box (L4.push_box (Sl.Sep.start w) 98 #[.slice a N c] (w.heap.size) (by simp)) 98 #[.slice a2 N2 c2] (w.heap.size + 1) (by simp))
 obtain ⟨wa, hwa⟩ : ∃ w_, w_ = ((w.alloc (.cells #[.slice a N c] 98)).alloc (.cells #[.slice a2 N2 c2] 98)) := ⟨_, rfl⟩
 rw [← hwa] at S1
 go_enter Try.func75, Try.ntmps75
 go_upto_region 1 with fail
 rw [← hwa]
 clear hwa
 have f0 := Bag.cs1 S1.out 0 rfl
 have f1 := Bag.cs1 S1.out 1 rfl
 by_cases hN : N = N2
 rotate_left
 ·
  have hne : ((N : Int) == (N2 : Int)) = false := by simp; omega
  have hne2 : ¬ (N : Int) = (N2 : Int) := by omega
  have HV := Lib.hid (show be = false from by rw [← HB.out]; exact zip_len (by rw [HSL.out.1, HSL.out.2]; exact hN))
  go_wp2_with fail
  go_ret
  exact ⟨by rw [HV.out] <;> rfl, S1.out.old⟩
 subst hN
 go_wp2_with fail
 clear f0 f1
 go_loopw [5] (fun i wr => ∃ k : Nat, k ≤ N ∧ i = .int .i64 k ∧ Hid ((∀ j (h1 : j < (coS_Tx ts).length) (h2 : j < (coS_Tx ts2).length), j < k → eqT (coS_Tx ts)[j] (coS_Tx ts2)[j] = true) ∧ Sl.Sep w wr [L4.boxR w.heap.size 98 #[.slice a N c], L4.boxR (w.heap.size + 1) 98 #[.slice a2 N c2]])) (fun i _ => N - (intOf i).toNat)
 case atStart => exact ⟨0, Nat.zero_le _, rfl, And.intro (fun j h1 h2 h => absurd h (by omega)) S1.out⟩
 case round =>
  obtain ⟨k, hk, rfl, hrel⟩ := hrel
  have HA := Lib.hid hrel.out.1
  have S2 := Lib.hid hrel.out.2
  clear hrel S1
  by_cases hlt : (k : Int) < (N : Int)
  ·
   skip
   have hkl : k < ts.length := by have := HN.out; omega
   have hkl2 : k < ts2.length := by have := HN2.out; omega
   obtain ⟨x, hx⟩ : ∃ x, ts[k]? = some x := ⟨_, List.getElem?_eq_getElem hkl⟩
   obtain ⟨tad, e'⟩ := el_some cl_Tx_len (by decide) (HR.out _ S2.out.old) hkl
   subst e'
   have HKx := Lib.hid (fun w' (h : Below w.heap.size w w') => el5 cl_Tx_len (HR.out _ h) hx rfl)
   have HRx := Lib.hid (fun w' (h : Below w.heap.size w w') => rdTs (HX.out w' h) hx)
   have HCx := Lib.hid (coT_at hx)
   have HFx := Lib.hid (HF.out _ (List.mem_of_getElem? HCx.out))
   clear hx
   obtain ⟨y, hy⟩ : ∃ x, ts2[k]? = some x := ⟨_, List.getElem?_eq_getElem hkl2⟩
   obtain ⟨tad2, e'⟩ := el_some cl_Tx_len (by decide) (HR2.out _ S2.out.old) hkl2
   subst e'
   have HKy := Lib.hid (fun w' (h : Below w.heap.size w w') => el5 cl_Tx_len (HR2.out _ h) hy rfl)
   have HRy := Lib.hid (fun w' (h : Below w.heap.size w w') => rdTs (HX2.out w' h) hy)
   have HCy := Lib.hid (coT_at hy)
   have HFy := Lib.hid (HF2.out _ (List.mem_of_getElem? HCy.out))
   clear hy
   obtain ⟨M, hM⟩ : ∃ n, n = x.f_Backup.length := ⟨_, rfl⟩
   rw [← hM] at HKx
   have HM := Lib.hid hM
   have hMl : M ≤ 1048576 := by have h := HFx.out.blen; rwa [show (co_Tx x).f_Backup = coS_Store x.f_Backup from rfl, coS_Store_eq, List.length_map, ← hM] at h
   clear hM
   obtain ⟨M2, hM⟩ : ∃ n, n = y.f_Backup.length := ⟨_, rfl⟩
   rw [← hM] at HKy
   have HM2 := Lib.hid hM
   have hM2l : M2 ≤ 1048576 := by have h := HFy.out.blen; rwa [show (co_Tx y).f_Backup = coS_Store y.f_Backup from rfl, coS_Store_eq, List.length_map, ← hM] at h
   clear hM
   obtain ⟨bo, hbo⟩ : ∃ b, eqOs (coS_Op x.f_Ops) (coS_Op y.f_Ops) = b := ⟨_, rfl⟩
   have HEO := fun w' (h : Below w.heap.size w w') => specEqualOps_any x.f_Ops_a x.f_Ops_c x.f_Ops (by have h := HFx.out.len; rwa [show (co_Tx x).f_Ops = coS_Op x.f_Ops from rfl, coS_len] at h) HFx.out.ops y.f_Ops_a y.f_Ops_c y.f_Ops (by have h := HFy.out.len; rwa [show (co_Tx y).f_Ops = coS_Op y.f_Ops from rfl, coS_len] at h) HFy.out.ops w' (rdTo (HRx.out w' h)) (rdTox (HRx.out w' h)) (rdTo (HRy.out w' h)) (rdTox (HRy.out w' h))
   rw [hbo] at HEO
   replace HEO := Lib.hid HEO
   have HBO := Lib.hid hbo
   clear hbo
   obtain ⟨bs, hbs⟩ : ∃ b, eqSl (coS_Store x.f_Backup) (coS_Store y.f_Backup) = b := ⟨_, rfl⟩
   have HBS := Lib.hid hbs
   have HET := Lib.hid (show eqT (co_Tx x) (co_Tx y) = (x.f_Id == y.f_Id && (bo && (x.f_At == y.f_At && (x.f_State == y.f_State && bs)))) from by rw [← hbs, ← HBO.out]; rfl)
   clear hbs
   have f0 := Bag.cs1 S2.out 0 rfl
   have f1 := Bag.cs1 S2.out 1 rfl
   obtain ⟨f2, f3, f4, f5, f6⟩ := HKx.out _ S2.out.old
   obtain ⟨f7, f8, f9, f10, f11⟩ := HKy.out _ S2.out.old
   go_upto_region 7 with fail
   clear f0 f1 f2 f3 f4 f5 f6 f7 f8 f9 f10 f11
   have S3 := Lib.hid (show Sl.Sep w _ [_, _, _] from L4.push_box S2.out 161 #[.int .i64 x.f_Id, .slice x.f_Ops_a x.f_Ops.length x.f_Ops_c, .int .i64 x.f_At, .int .i64 x.f_State, .slice x.f_Backup_a M x.f_Backup_c] wr.heap.size rfl)
   clear S2
   obtain ⟨g1, hg⟩ : ∃ g', g' = wr.heap.size := ⟨_, rfl⟩
   rw [← hg] at S3 ⊢
   clear hg
   generalize wr.alloc (.cells #[.int .i64 x.f_Id, .slice x.f_Ops_a x.f_Ops.length x.f_Ops_c, .int .i64 x.f_At, .int .i64 x.f_State, .slice x.f_Backup_a M x.f_Backup_c] 161) = w1 at S3 ⊢
   have f0 := Bag.cs1 S3.out 0 rfl
   have f1 := Bag.cs1 S3.out 1 rfl
   obtain ⟨f2, f3, f4, f5, f6⟩ := Bag.cs5 S3.out 2 rfl
   obtain ⟨f7, f8, f9, f10, f11⟩ := HKx.out _ S3.out.old
   obtain ⟨f12, f13, f14, f15, f16⟩ := HKy.out _ S3.out.old
   go_upto_region 8 with fail
   clear f0 f1 f2 f3 f4 f5 f6 f7 f8 f9 f10 f11 f12 f13 f14 f15 f16
   have S4 := Lib.hid (show Sl.Sep w _ [_, _, _, _] from L4.push_box S3.out 161 #[.int .i64 y.f_Id, .slice y.f_Ops_a y.f_Ops.length y.f_Ops_c, .int .i64 y.f_At, .int .i64 y.f_State, .slice y.f_Backup_a M2 y.f_Backup_c] w1.heap.size rfl)
   clear S3
   obtain ⟨g2, hg⟩ : ∃ g', g' = w1.heap.size := ⟨_, rfl⟩
   rw [← hg] at S4 ⊢
   clear hg
   generalize w1.alloc (.cells #[.int .i64 y.f_Id, .slice y.f_Ops_a y.f_Ops.length y.f_Ops_c, .int .i64 y.f_At, .int .i64 y.f_State, .slice y.f_Backup_a M2 y.f_Backup_c] 161) = w2 at S4 ⊢
   have f0 := Bag.cs1 S4.out 0 rfl
   have f1 := Bag.cs1 S4.out 1 rfl
   obtain ⟨f2, f3, f4, f5, f6⟩ := Bag.cs5 S4.out 2 rfl
   obtain ⟨f7, f8, f9, f10, f11⟩ := Bag.cs5 S4.out 3 rfl
   cases h1 : x.f_Id == y.f_Id with
   | false =>
    have h1n : (x.f_Id != y.f_Id) = true := by rw [bne, h1]; rfl
    have HV := Lib.hid (show be = false from by rw [← HB.out]; exact zip_no k (len_of HCx.out) (len_of HCy.out) (by rw [val_of HCx.out, val_of HCy.out, HET.out, h1]; simp))
    go_wp2_with fail
    go_ret
    exact ⟨by rw [HV.out] <;> rfl, S4.out.old⟩
   | true =>
    have h1n : (x.f_Id != y.f_Id) = false := by rw [bne, h1]; rfl
    cases h2 : x.f_At == y.f_At with
    | false =>
     have h2n : (x.f_At != y.f_At) = true := by rw [bne, h2]; rfl
     have HV := Lib.hid (show be = false from by rw [← HB.out]; exact zip_no k (len_of HCx.out) (len_of HCy.out) (by rw [val_of HCx.out, val_of HCy.out, HET.out, h1, h2]; simp))
     go_wp2_with fail
     go_ret
     exact ⟨by rw [HV.out] <;> rfl, S4.out.old⟩
    | true =>
     have h2n : (x.f_At != y.f_At) = false := by rw [bne, h2]; rfl
     cases h3 : x.f_State == y.f_State with
     | false =>
      have h3n : (x.f_State != y.f_State) = true := by rw [bne, h3]; rfl
      have HV := Lib.hid (show be = false from by rw [← HB.out]; exact zip_no k (len_of HCx.out) (len_of HCy.out) (by rw [val_of HCx.out, val_of HCy.out, HET.out, h1, h2, h3]; simp))
      go_wp2_with fail
      go_ret
      exact ⟨by rw [HV.out] <;> rfl, S4.out.old⟩
     | true =>
      have h3n : (x.f_State != y.f_State) = false := by rw [bne, h3]; rfl
      cases bo with
      | false =>
       go_wp2_with fail
       go_at_call 152
       refine (HEO.out _ S4.out.old).mono ?_
       rintro e w3 ⟨rfl, hb⟩
       clear f0 f1 f2 f3 f4 f5 f6 f7 f8 f9 f10 f11
       have S5 := Lib.hid (S4.out.keep hb)
       clear S4
       clear hb
       have f0 := Bag.cs1 S5.out 0 rfl
       have f1 := Bag.cs1 S5.out 1 rfl
       obtain ⟨f2, f3, f4, f5, f6⟩ := Bag.cs5 S5.out 2 rfl
       obtain ⟨f7, f8, f9, f10, f11⟩ := Bag.cs5 S5.out 3 rfl
       have HV := Lib.hid (show be = false from by rw [← HB.out]; exact zip_no k (len_of HCx.out) (len_of HCy.out) (by rw [val_of HCx.out, val_of HCy.out, HET.out, h1, h2, h3]; simp))
       go_wp2_with fail
       go_ret
       exact ⟨by rw [HV.out] <;> rfl, S5.out.old⟩
      | true =>
       have HETs := Lib.hid (show eqT (co_Tx x) (co_Tx y) = bs from by rw [HET.out, h1, h2, h3]; simp)
       have HSS := Lib.hid (show (coS_Store x.f_Backup).length = M ∧ (coS_Store y.f_Backup).length = M2 from by rw [coS_Store_eq, coS_Store_eq, List.length_map, List.length_map, HM.out, HM2.out]; exact ⟨rfl, rfl⟩)
       by_cases hM : M = M2
       rotate_left
       ·
        have hne : ((M : Int) == (M2 : Int)) = false := by simp; omega
        have hne2 : ¬ (M : Int) = (M2 : Int) := by omega
        have HV2 := Lib.hid (show bs = false from by rw [← HBS.out]; exact zip_len (by rw [HSS.out.1, HSS.out.2]; exact hM))
        go_wp2_with fail
        go_at_call 152
        refine (HEO.out _ S4.out.old).mono ?_
        rintro e w3 ⟨rfl, hb⟩
        clear f0 f1 f2 f3 f4 f5 f6 f7 f8 f9 f10 f11
        have S5 := Lib.hid (S4.out.keep hb)
        clear S4
        clear hb
        have f0 := Bag.cs1 S5.out 0 rfl
        have f1 := Bag.cs1 S5.out 1 rfl
        obtain ⟨f2, f3, f4, f5, f6⟩ := Bag.cs5 S5.out 2 rfl
        obtain ⟨f7, f8, f9, f10, f11⟩ := Bag.cs5 S5.out 3 rfl
        have HV := Lib.hid (show be = false from by rw [← HB.out]; exact zip_no k (len_of HCx.out) (len_of HCy.out) (by rw [val_of HCx.out, val_of HCy.out, HETs.out]; exact HV2.out))
        go_wp2_with fail
        go_ret
        exact ⟨by rw [HV.out] <;> rfl, S5.out.old⟩
       subst hM
       go_wp2_with fail
       go_at_call 152
       refine (HEO.out _ S4.out.old).mono ?_
       rintro e w3 ⟨rfl, hb⟩
       clear f0 f1 f2 f3 f4 f5 f6 f7 f8 f9 f10 f11
       have S5 := Lib.hid (S4.out.keep hb)
       clear S4
       clear hb
       have f0 := Bag.cs1 S5.out 0 rfl
       have f1 := Bag.cs1 S5.out 1 rfl
       obtain ⟨f2, f3, f4, f5, f6⟩ := Bag.cs5 S5.out 2 rfl
       obtain ⟨f7, f8, f9, f10, f11⟩ := Bag.cs5 S5.out 3 rfl
       go_wp2_with fail
       clear f0 f1 f2 f3 f4 f5 f6 f7 f8 f9 f10 f11
       clear h1n h2n h3n h1 h2 h3
       go_loopw [8] (fun i wr2 => ∃ m : Nat, m ≤ M ∧ i = .int .i64 m ∧ Hid ((∀ j (h1 : j < (coS_Store x.f_Backup).length) (h2 : j < (coS_Store y.f_Backup).length), j < m → eqS (coS_Store x.f_Backup)[j] (coS_Store y.f_Backup)[j] = true) ∧ Sl.Sep w wr2 [L4.boxR w.heap.size 98 #[.slice (some tad) N c], L4.boxR (w.heap.size + 1) 98 #[.slice (some tad2) N c2], L4.boxR g1 161 #[.int .i64 x.f_Id, .slice x.f_Ops_a x.f_Ops.length x.f_Ops_c, .int .i64 x.f_At, .int .i64 x.f_State, .slice x.f_Backup_a M x.f_Backup_c], L4.boxR g2 161 #[.int .i64 y.f_Id, .slice y.f_Ops_a y.f_Ops.length y.f_Ops_c, .int .i64 y.f_At, .int .i64 y.f_State, .slice y.f_Backup_a M y.f_Backup_c]])) (fun i _ => M - (intOf i).toNat)
       case atStart => exact ⟨0, Nat.zero_le _, rfl, And.intro (fun j h1 h2 h => absurd h (by omega)) S5.out⟩
       case round =>
        obtain ⟨m, hm, rfl, hrel⟩ := hrel
        have HA2 := Lib.hid hrel.out.1
        have S70 := Lib.hid hrel.out.2
        clear hrel S5
        by_cases hlt2 : (m : Int) < (M : Int)
        ·
         skip
         have hml : m < x.f_Backup.length := by have := HM.out; omega
         have hml2 : m < y.f_Backup.length := by have := HM2.out; omega
         obtain ⟨s, hs⟩ : ∃ z, x.f_Backup[m]? = some z := ⟨_, List.getElem?_eq_getElem hml⟩
         obtain ⟨sad, e', _⟩ : ∃ ad', x.f_Backup_a = some ad' ∧ True := by obtain ⟨ad', e'⟩ := el_some cl_Store_len (by decide) (rdTb (HRx.out _ S70.out.old)) hml; exact ⟨ad', e', trivial⟩
         have HKs := fun w' (h : Below w.heap.size w w') => rdTb (HRx.out _ h)
         rw [e'] at HKs
         replace HKs := Lib.hid (fun w' (h : Below w.heap.size w w') => el3 cl_Store_len (HKs w' h) hs rfl)
         have HRs := Lib.hid (fun w' (h : Below w.heap.size w w') => (rd_el (rw_ := rw_Store) (rdTbx (HRx.out w' h)) hs : RowsRd w' w'.heap.size (LS.rows s)))
         have HCs := Lib.hid (show (coS_Store x.f_Backup)[m]? = some s.con from by rw [coS_Store_eq, List.getElem?_map, hs]; rfl)
         have HFs := Lib.hid (HFx.out.back _ (List.mem_of_getElem? HCs.out))
         have HADs := Lib.hid e'
         clear hs e'
         obtain ⟨r, hr⟩ : ∃ z, y.f_Backup[m]? = some z := ⟨_, List.getElem?_eq_getElem hml2⟩
         obtain ⟨rad, e', _⟩ : ∃ ad', y.f_Backup_a = some ad' ∧ True := by obtain ⟨ad', e'⟩ := el_some cl_Store_len (by decide) (rdTb (HRy.out _ S70.out.old)) hml2; exact ⟨ad', e', trivial⟩
         have HKr := fun w' (h : Below w.heap.size w w') => rdTb (HRy.out _ h)
         rw [e'] at HKr
         replace HKr := Lib.hid (fun w' (h : Below w.heap.size w w') => el3 cl_Store_len (HKr w' h) hr rfl)
         have HRr := Lib.hid (fun w' (h : Below w.heap.size w w') => (rd_el (rw_ := rw_Store) (rdTbx (HRy.out w' h)) hr : RowsRd w' w'.heap.size (LS.rows r)))
         have HCr := Lib.hid (show (coS_Store y.f_Backup)[m]? = some r.con from by rw [coS_Store_eq, List.getElem?_map, hr]; rfl)
         have HFr := Lib.hid (HFy.out.back _ (List.mem_of_getElem? HCr.out))
         have HADr := Lib.hid e'
         clear hr e'
         have HEQ := fun w' (h : Below w.heap.size w w') => specEqualStores_any s r HFs.out HFr.out w' (HRs.out w' h) (HRr.out w' h)
         obtain ⟨b, hb⟩ : ∃ b, eqS s.con r.con = b := ⟨_, rfl⟩
         rw [hb] at HEQ
         dsimp only [LS.v, LS.cells] at HEQ
         replace HEQ := Lib.hid HEQ
         have HBK := Lib.hid hb
         clear hb
         have S71 := Lib.hid (show Sl.Sep w _ [L4.boxR w.heap.size 98 #[.slice (some tad) N c], L4.boxR (w.heap.size + 1) 98 #[.slice (some tad2) N c2], L4.boxR g1 161 #[.int .i64 x.f_Id, .slice x.f_Ops_a x.f_Ops.length x.f_Ops_c, .int .i64 x.f_At, .int .i64 x.f_State, .slice (some sad) M x.f_Backup_c], L4.boxR g2 161 #[.int .i64 y.f_Id, .slice y.f_Ops_a y.f_Ops.length y.f_Ops_c, .int .i64 y.f_At, .int .i64 y.f_State, .slice (some rad) M y.f_Backup_c]] from (by have h := S70.out; rw [HADs.out, HADr.out] at h; exact h))
         clear S70
         have f0 := Bag.cs1 S71.out 0 rfl
         have f1 := Bag.cs1 S71.out 1 rfl
         obtain ⟨f2, f3, f4, f5, f6⟩ := Bag.cs5 S71.out 2 rfl
         obtain ⟨f7, f8, f9, f10, f11⟩ := Bag.cs5 S71.out 3 rfl
         obtain ⟨f12, f13, f14⟩ := HKs.out _ S71.out.old
         obtain ⟨f15, f16, f17⟩ := HKr.out _ S71.out.old
         cases b with
         | false =>
          go_upto_region 13 with fail
          clear f0 f1 f2 f3 f4 f5 f6 f7 f8 f9 f10 f11 f12 f13 f14 f15 f16 f17
          refine wp_region_held_drew (S := (fun w' => (w'.cell? ⟨w.heap.size, 0, none⟩ = some (.slice (some tad) N c)) ∧ (w'.cell? ⟨w.heap.size + 1, 0, none⟩ = some (.slice (some tad2) N c2)) ∧ (w'.cell? ⟨g1, 0, none⟩ = some (.int .i64 x.f_Id) ∧ w'.cell? ⟨g1, 1, none⟩ = some (.slice x.f_Ops_a x.f_Ops.length x.f_Ops_c) ∧ w'.cell? ⟨g1, 2, none⟩ = some (.int .i64 x.f_At) ∧ w'.cell? ⟨g1, 3, none⟩ = some (.int .i64 x.f_State) ∧ w'.cell? ⟨g1, 4, none⟩ = some (.slice (some sad) M x.f_Backup_c)) ∧ (w'.cell? ⟨g2, 0, none⟩ = some (.int .i64 y.f_Id) ∧ w'.cell? ⟨g2, 1, none⟩ = some (.slice y.f_Ops_a y.f_Ops.length y.f_Ops_c) ∧ w'.cell? ⟨g2, 2, none⟩ = some (.int .i64 y.f_At) ∧ w'.cell? ⟨g2, 3, none⟩ = some (.int .i64 y.f_State) ∧ w'.cell? ⟨g2, 4, none⟩ = some (.slice (some rad) M y.f_Backup_c)) ∧ (w'.cell? (sad.add (m * 3)) = some (.string s.name) ∧ w'.cell? (⟨(sad.add (m * 3)).block, (sad.add (m * 3)).off + 1, none⟩) = some (.slice s.a s.xs.length s.c) ∧ w'.cell? (⟨(sad.add (m * 3)).block, (sad.add (m * 3)).off + 2, none⟩) = some (.int .i64 s.auto)) ∧ (w'.cell? (rad.add (m * 3)) = some (.string r.name) ∧ w'.cell? (⟨(rad.add (m * 3)).block, (rad.add (m * 3)).off + 1, none⟩) = some (.slice r.a r.xs.length r.c) ∧ w'.cell? (⟨(rad.add (m * 3)).block, (rad.add (m * 3)).off + 2, none⟩) = some (.int .i64 r.auto)))) (by kernel_rfl) ⟨Bag.cs1 (Bag.drew1 S71.out) 0 rfl, Bag.cs1 (Bag.drew1 S71.out) 1 rfl, Bag.cs5 (Bag.drew1 S71.out) 2 rfl, Bag.cs5 (Bag.drew1 S71.out) 3 rfl, HKs.out _ (Bag.drew1 S71.out).old, HKr.out _ (Bag.drew1 S71.out).old⟩ (fun hS => ?_)
          have S72 := Lib.hid (Bag.drew1 S71.out)
          clear S71
          generalize World.drew _ = w4 at hS S72 ⊢
          refine tk 0 rfl ?_
          try simp only [zp0, zp1, zp2, zp3, zp4]
          refine tk 1 rfl ?_
          try simp only [zp0, zp1, zp2, zp3, zp4]
          refine tk 2 rfl ?_
          try simp only [zp0, zp1, zp2, zp3, zp4]
          refine tk 3 rfl ?_
          try simp only [zp0, zp1, zp2, zp3, zp4]
          refine tk 4 rfl ?_
          try simp only [zp0, zp1, zp2, zp3, zp4]
          refine tk 5 rfl ?_
          try simp only [zp0, zp1, zp2, zp3, zp4]
          refine tk 6 rfl ?_
          try simp only [zp0, zp1, zp2, zp3, zp4]
          refine tk 7 rfl ?_
          try simp only [zp0, zp1, zp2, zp3, zp4]
          refine tk 8 rfl ?_
          try simp only [zp0, zp1, zp2, zp3, zp4]
          refine tk 9 rfl ?_
          try simp only [zp0, zp1, zp2, zp3, zp4]
          refine Reg.one_op (i := 10) rfl (by kernel_rfl) (fun K hK => ?_)
          go_simp
          go_at_call 153
          refine (HEQ.out _ S72.out.old).mono ?_
          rintro e w5 ⟨rfl, hb⟩
          have S73 := Lib.hid (S72.out.keep hb)
          clear S72
          clear hb
          go_wp2_with fail
          refine hK.out _ _ ⟨Bag.cs1 S73.out 0 rfl, Bag.cs1 S73.out 1 rfl, Bag.cs5 S73.out 2 rfl, Bag.cs5 S73.out 3 rfl, HKs.out _ S73.out.old, HKr.out _ S73.out.old⟩ (fun hS => ?_)
          clear hK K
          try simp only [zp0, zp1, zp2, zp3, zp4]
          refine tk 11 rfl ?_
          try simp only [zp0, zp1, zp2, zp3, zp4]
          refine wpAnyH_done (by kernel_rfl) ?_ _
          have f0 := Bag.cs1 S73.out 0 rfl
          have f1 := Bag.cs1 S73.out 1 rfl
          obtain ⟨f2, f3, f4, f5, f6⟩ := Bag.cs5 S73.out 2 rfl
          obtain ⟨f7, f8, f9, f10, f11⟩ := Bag.cs5 S73.out 3 rfl
          obtain ⟨f12, f13, f14⟩ := HKs.out _ S73.out.old
          obtain ⟨f15, f16, f17⟩ := HKr.out _ S73.out.old
          have HV2 := Lib.hid (show bs = false from by rw [← HBS.out]; exact zip_no m (len_of HCs.out) (len_of HCr.out) (by rw [val_of HCs.out, val_of HCr.out]; exact HBK.out))
          have HV := Lib.hid (show be = false from by rw [← HB.out]; exact zip_no k (len_of HCx.out) (len_of HCy.out) (by rw [val_of HCx.out, val_of HCy.out, HETs.out]; exact HV2.out))
          go_wp2_with fail
          go_ret
          exact ⟨by rw [HV.out] <;> rfl, S73.out.old⟩
         | true =>
          go_upto_region 13 with fail
          clear f0 f1 f2 f3 f4 f5 f6 f7 f8 f9 f10 f11 f12 f13 f14 f15 f16 f17
          refine wp_region_held_drew (S := (fun w' => (w'.cell? ⟨w.heap.size, 0, none⟩ = some (.slice (some tad) N c)) ∧ (w'.cell? ⟨w.heap.size + 1, 0, none⟩ = some (.slice (some tad2) N c2)) ∧ (w'.cell? ⟨g1, 0, none⟩ = some (.int .i64 x.f_Id) ∧ w'.cell? ⟨g1, 1, none⟩ = some (.slice x.f_Ops_a x.f_Ops.length x.f_Ops_c) ∧ w'.cell? ⟨g1, 2, none⟩ = some (.int .i64 x.f_At) ∧ w'.cell? ⟨g1, 3, none⟩ = some (.int .i64 x.f_State) ∧ w'.cell? ⟨g1, 4, none⟩ = some (.slice (some sad) M x.f_Backup_c)) ∧ (w'.cell? ⟨g2, 0, none⟩ = some (.int .i64 y.f_Id) ∧ w'.cell? ⟨g2, 1, none⟩ = some (.slice y.f_Ops_a y.f_Ops.length y.f_Ops_c) ∧ w'.cell? ⟨g2, 2, none⟩ = some (.int .i64 y.f_At) ∧ w'.cell? ⟨g2, 3, none⟩ = some (.int .i64 y.f_State) ∧ w'.cell? ⟨g2, 4, none⟩ = some (.slice (some rad) M y.f_Backup_c)) ∧ (w'.cell? (sad.add (m * 3)) = some (.string s.name) ∧ w'.cell? (⟨(sad.add (m * 3)).block, (sad.add (m * 3)).off + 1, none⟩) = some (.slice s.a s.xs.length s.c) ∧ w'.cell? (⟨(sad.add (m * 3)).block, (sad.add (m * 3)).off + 2, none⟩) = some (.int .i64 s.auto)) ∧ (w'.cell? (rad.add (m * 3)) = some (.string r.name) ∧ w'.cell? (⟨(rad.add (m * 3)).block, (rad.add (m * 3)).off + 1, none⟩) = some (.slice r.a r.xs.length r.c) ∧ w'.cell? (⟨(rad.add (m * 3)).block, (rad.add (m * 3)).off + 2, none⟩) = some (.int .i64 r.auto)))) (by kernel_rfl) ⟨Bag.cs1 (Bag.drew1 S71.out) 0 rfl, Bag.cs1 (Bag.drew1 S71.out) 1 rfl, Bag.cs5 (Bag.drew1 S71.out) 2 rfl, Bag.cs5 (Bag.drew1 S71.out) 3 rfl, HKs.out _ (Bag.drew1 S71.out).old, HKr.out _ (Bag.drew1 S71.out).old⟩ (fun hS => ?_)
          have S72 := Lib.hid (Bag.drew1 S71.out)
          clear S71
          generalize World.drew _ = w4 at hS S72 ⊢
          refine tk 0 rfl ?_
          try simp only [zp0, zp1, zp2, zp3, zp4]
          refine tk 1 rfl ?_
          try simp only [zp0, zp1, zp2, zp3, zp4]
          refine tk 2 rfl ?_
          try simp only [zp0, zp1, zp2, zp3, zp4]
          refine tk 3 rfl ?_
          try simp only [zp0, zp1, zp2, zp3, zp4]
          refine tk 4 rfl ?_
          try simp only [zp0, zp1, zp2, zp3, zp4]
          refine tk 5 rfl ?_
          try simp only [zp0, zp1, zp2, zp3, zp4]
          refine tk 6 rfl ?_
          try simp only [zp0, zp1, zp2, zp3, zp4]
          refine tk 7 rfl ?_
          try simp only [zp0, zp1, zp2, zp3, zp4]
          refine tk 8 rfl ?_
          try simp only [zp0, zp1, zp2, zp3, zp4]
          refine tk 9 rfl ?_
          try simp only [zp0, zp1, zp2, zp3, zp4]
          refine Reg.one_op (i := 10) rfl (by kernel_rfl) (fun K hK => ?_)
          go_simp
          go_at_call 153
          refine (HEQ.out _ S72.out.old).mono ?_
          rintro e w5 ⟨rfl, hb⟩
          have S73 := Lib.hid (S72.out.keep hb)
          clear S72
          clear hb
          go_wp2_with fail
          refine hK.out _ _ ⟨Bag.cs1 S73.out 0 rfl, Bag.cs1 S73.out 1 rfl, Bag.cs5 S73.out 2 rfl, Bag.cs5 S73.out 3 rfl, HKs.out _ S73.out.old, HKr.out _ S73.out.old⟩ (fun hS => ?_)
          clear hK K
          try simp only [zp0, zp1, zp2, zp3, zp4]
          refine tk 11 rfl ?_
          try simp only [zp0, zp1, zp2, zp3, zp4]
          refine wpAnyH_done (by kernel_rfl) ?_ _
          have f0 := Bag.cs1 S73.out 0 rfl
          have f1 := Bag.cs1 S73.out 1 rfl
          obtain ⟨f2, f3, f4, f5, f6⟩ := Bag.cs5 S73.out 2 rfl
          obtain ⟨f7, f8, f9, f10, f11⟩ := Bag.cs5 S73.out 3 rfl
          obtain ⟨f12, f13, f14⟩ := HKs.out _ S73.out.old
          obtain ⟨f15, f16, f17⟩ := HKr.out _ S73.out.old
          clear f0 f1 f2 f3 f4 f5 f6 f7 f8 f9 f10 f11 f12 f13 f14 f15 f16 f17
          have S74 := Lib.hid (show Sl.Sep w _ [L4.boxR w.heap.size 98 #[.slice (some tad) N c], L4.boxR (w.heap.size + 1) 98 #[.slice (some tad2) N c2], L4.boxR g1 161 #[.int .i64 x.f_Id, .slice x.f_Ops_a x.f_Ops.length x.f_Ops_c, .int .i64 x.f_At, .int .i64 x.f_State, .slice x.f_Backup_a M x.f_Backup_c], L4.boxR g2 161 #[.int .i64 y.f_Id, .slice y.f_Ops_a y.f_Ops.length y.f_Ops_c, .int .i64 y.f_At, .int .i64 y.f_State, .slice y.f_Backup_a M y.f_Backup_c]] from (by rw [HADs.out, HADr.out]; exact S73.out))
          clear S73
          go_wp2_with fail
          go_roundw
          case rel => exact ⟨m + 1, by omega, by go_num, And.intro (fun j h1 h2 h => by
           by_cases e : j < m
           ·
            exact HA2.out j h1 h2 e
           ·
            obtain rfl : j = m := by omega
            rw [val_of HCs.out, val_of HCr.out]; exact HBK.out) S74.out⟩
          case measure => simp [intOf]; omega
        ·
         skip
         have f0 := Bag.cs1 S70.out 0 rfl
         have f1 := Bag.cs1 S70.out 1 rfl
         obtain ⟨f2, f3, f4, f5, f6⟩ := Bag.cs5 S70.out 2 rfl
         obtain ⟨f7, f8, f9, f10, f11⟩ := Bag.cs5 S70.out 3 rfl
         have HV2 := Lib.hid (show bs = true from by rw [← HBS.out]; exact zip_yes (by rw [HSS.out.1, HSS.out.2]) (fun j h1 h2 => HA2.out j h1 h2 (by rw [HSS.out.1] at h1; omega)))
         go_wp2_with fail
         clear f0 f1 f2 f3 f4 f5 f6 f7 f8 f9 f10 f11
         have S71 := Lib.hid (show Sl.Sep w _ [L4.boxR w.heap.size 98 #[.slice (some tad) N c], L4.boxR (w.heap.size + 1) 98 #[.slice (some tad2) N c2]] from Bag.take S70.out [0, 1] (by rfl) (by decide))
         clear S70
         go_roundw
         case rel => exact ⟨k + 1, by omega, by go_num, And.intro (fun j h1 h2 h => by
          by_cases e : j < k
          ·
           exact HA.out j h1 h2 e
          ·
           obtain rfl : j = k := by omega
           rw [val_of HCx.out, val_of HCy.out, HETs.out]; exact HV2.out) S71.out⟩
         case measure => simp [intOf]; omega
  ·
   skip
   have f0 := Bag.cs1 S2.out 0 rfl
   have f1 := Bag.cs1 S2.out 1 rfl
   have HV := Lib.hid (show be = true from by rw [← HB.out]; exact zip_yes (by rw [HSL.out.1, HSL.out.2]) (fun j h1 h2 => HA.out j h1 h2 (by rw [HSL.out.1] at h1; omega)))
   go_wp2_with fail
   go_ret
   exact ⟨by rw [HV.out] <;> rfl, S2.out.old⟩
end Go.Proofs.Ytojcdmgcbgpdmaa.L10

namespace Go.Proofs.Ytojcdmgcbgpdmaa.L5
open L4 (boxR push_box box_at)
open Go.ChangeShapes Go.WideShapes Go.ChangeAt Go.RowKit Mem Sl Ex L2 Sv

set_option maxHeartbeats 4000000 in
theorem slicesEqualF_any (a b : Option Addr) (c d : Nat) (l m : List F) (hl : l.length ≤ 1099511627776) (hm : m.length ≤ 1099511627776) (w : World) (hr : Reads w w.heap.size a (cellsF l)) (hs : Reads w w.heap.size b (cellsF m)) :
  Calls Try.prog 96 #[.slice a l.length c, .slice b m.length d] w fun e w' => e = .returned (.bool (eqR l m)) ∧ Below w.heap.size w w' := by
 have HR := Lib.hid (fun w' (h : Drew w w') => hr.below (h.below w.heap.size))
 have HS := Lib.hid (fun w' (h : Drew w w') => hs.below (h.below w.heap.size))
 obtain ⟨n, hn⟩ : ∃ n, n = l.length := ⟨_, rfl⟩
 obtain ⟨q, hq⟩ : ∃ q, q = m.length := ⟨_, rfl⟩
 rw [← hn, ← hq]
 rw [← hn] at hl
 rw [← hq] at hm
 have HN := Lib.hid hn
 have HQ := Lib.hid hq
 have hl' : (n : Int) ≤ 1099511627776 := by omega
 have hm' : (q : Int) ≤ 1099511627776 := by omega
 clear hn hq hr hs
 by_cases hlen : (n : Int) = (q : Int)
 ·
  obtain rfl : n = q := by omega
  clear hlen
  go_enter Try.func96, Try.ntmps96
  go_wp2_with fail
  go_loopw [13] (fun i wr => ∃ k : Nat, k ≤ n ∧ i = .int .i64 k ∧ Hid (Drew w wr ∧ ∀ j (h1 : j < l.length) (h2 : j < m.length), j < k → eqF l[j] m[j] = true)) (fun i _ => n - (intOf i).toNat)
  case atStart => exact ⟨0, Nat.zero_le _, rfl, Drew.refl _, fun j _ _ h => by omega⟩
  case round =>
   obtain ⟨k, hk, rfl, hrel⟩ := hrel
   by_cases hlt : (k : Int) < (n : Int)
   ·
    have hkl : k < l.length := by have := HN.out; omega
    have hkm : k < m.length := by have := HQ.out; omega
    obtain ⟨ad, rfl, had, h1, h2⟩ := readsF (HR.out _ hrel.out.1) k hkl
    obtain ⟨bd, rfl, hbd, h3, h4⟩ := readsF (HS.out _ hrel.out.1) k hkm
    obtain ⟨t, ht⟩ : ∃ t, t = l[k].name := ⟨_, rfl⟩
    obtain ⟨x, hx⟩ : ∃ m, m = l[k].n := ⟨_, rfl⟩
    obtain ⟨u, hu⟩ : ∃ t, t = m[k].name := ⟨_, rfl⟩
    obtain ⟨y, hy⟩ : ∃ v, v = m[k].n := ⟨_, rfl⟩
    obtain ⟨bo, hbo⟩ : ∃ b, eqF l[k] m[k] = b := ⟨_, rfl⟩
    have HB := Lib.hid hbo
    have HE := Lib.hid (show (t.toList == u.toList && x == y) = bo by
     rw [← hbo]
     unfold eqF F.t
     rw [← ht, ← hx, ← hu, ← hy, ByteArray.toList_eq, ByteArray.toList_eq])
    rw [← ht] at h1
    rw [← hx] at h2
    rw [← hu] at h3
    rw [← hy] at h4
    clear ht hx hu hy hbo
    have heq := HE.out
    cases bo with
    | true =>
     simp only [Bool.and_eq_true] at heq
     obtain ⟨he1, he2⟩ := heq
     go_wp2_with go_region
     go_roundw
     case rel => exact ⟨k + 1, by omega, by go_num, hrel.out.1.more 1, fun j h1 h2 h => by
      by_cases e : j < k
      ·
       exact hrel.out.2 j h1 h2 e
      ·
       obtain rfl : j = k := by omega
       exact HB.out⟩
     case measure => simp [intOf]; omega
    | false =>
     have HC := Lib.hid (show (t.toList == u.toList) = false ∨ ((t.toList == u.toList) = true ∧ (x == y) = false) by
      cases h : (t.toList == u.toList) with
      | false => exact .inl rfl
      | true => rw [h] at heq; exact .inr ⟨rfl, by simpa using heq⟩)
     clear heq
     rcases HC.out with he1 | ⟨he1, he2⟩
     ·
      go_wp2_with go_region
      go_ret
      exact ⟨by rw [eqR_no k hkl hkm HB.out]; rfl, (hrel.out.1.more 1).below _⟩
     ·
      go_wp2_with go_region
      go_ret
      exact ⟨by rw [eqR_no k hkl hkm HB.out]; rfl, (hrel.out.1.more 1).below _⟩
   ·
    go_wp2_with fail
    go_ret
    exact ⟨by rw [eqR_all (by rw [← HN.out, ← HQ.out]) (fun j h1 h2 => hrel.out.2 j h1 h2 (by have := HN.out; omega))]; rfl, hrel.out.1.below _⟩
 ·
  have hlen' : ((n : Int) == (q : Int)) = false := by rw [beq_eq_false_iff_ne]; exact hlen
  go_enter Try.func96, Try.ntmps96
  go_wp2_with fail
  go_ret
  exact ⟨by rw [eqR_len (by rw [← HN.out, ← HQ.out]; omega)]; rfl, Below.refl _ _⟩
set_option maxHeartbeats 2000000 in
theorem equalRecords_any (a b : Option Addr) (c d : Nat) (l m : List F) (hl : l.length ≤ 1099511627776) (hm : m.length ≤ 1099511627776) (w : World) (hr : Reads w w.heap.size a (cellsF l)) (hs : Reads w w.heap.size b (cellsF m)) :
  Calls Try.prog 22 #[.agg #[.slice a l.length c], .agg #[.slice b m.length d]] w fun e w' => e = .returned (.bool (eqR l m)) ∧ Below w.heap.size w w' := by
 have HE := Lib.hid (fun w' (h : Below w.heap.size w w') => slicesEqualF_any a b c d l m hl hm w' ((hr.below h).more h.size) ((hs.below h).more h.size))
 obtain ⟨n, hn⟩ : ∃ n, n = l.length := ⟨_, rfl⟩
 obtain ⟨q, hq⟩ : ∃ q, q = m.length := ⟨_, rfl⟩
 rw [← hn, ← hq]
 rw [← hn, ← hq] at HE
 obtain ⟨r, hr'⟩ : ∃ r, r = eqR l m := ⟨_, rfl⟩
 rw [← hr'] at HE ⊢
 clear hn hq hr hs hr'
 have S0 := Sep.start w
 have S1 := push_box S0 31 #[.slice a n c] w.heap.size rfl
 have S2 := Lib.hid (push_box S1 31 #[.slice b q d] (w.heap.size + 1) (by simp))
 clear S0 S1
 obtain ⟨W1, hW1⟩ : ∃ u, u = (w.alloc (.cells #[.slice a n c] 31)).alloc (.cells #[.slice b q d] 31) := ⟨_, rfl⟩
 rw [← hW1] at S2
 go_enter Try.func22, Try.ntmps22
 go_upto_region 1 with fail
 rw [← hW1]
 clear hW1
 obtain ⟨r0, r1⟩ := Row.one (box_at S2.out 0 rfl)
 obtain ⟨o0, o1⟩ := Row.one (box_at S2.out 1 rfl)
 go_wp2_with fail
 go_at_call 96
 refine (HE.out _ S2.out.old).mono ?_
 rintro e w3 ⟨rfl, h3⟩
 have S3 := Lib.hid (S2.out.keep h3)
 clear h3 r0 r1 o0 o1
 go_wp2_with fail
 go_ret
 exact ⟨rfl, S3.out.old⟩
end Go.Proofs.Ytojcdmgcbgpdmaa.L5

namespace Go.Proofs.Ytojcdmgcbgpdmaa.L9
open V L6
open L4 (K isK cmpK)
open L5 (F isR isN string_geq)
open Go.Op (bytesLess)
open Go.ChangeShapes Go.WideShapes Go.ChangeAt Go.RowKit Mem Sl Ex L2 Sv Bag

set_option maxHeartbeats 8000000 in
theorem equalOp_any (o o2 : Y_Op) (hf : FitO (co_Op o)) (hf2 : FitO (co_Op o2)) (w : World) (hr : RowsRd w w.heap.size (rw_Op o)) (hr2 : RowsRd w w.heap.size (rw_Op o2)) :
  Calls Try.prog 231 #[vv_Op o, vv_Op o2] w fun e w' => e = .returned (.bool (eqO (co_Op o) (co_Op o2))) ∧ Below w.heap.size w w' := by
 have HRR := Lib.hid (fun w' (h : Below w.heap.size w w') => (((rdO hr).below h).more h.size : Reads w' w'.heap.size o.f_Record.a (L5.cellsF o.f_Record.l)))
 have HFO := Lib.hid (show FitO ⟨o.f_Kind, o.f_Store, o.f_Key, o.f_Record.l, o.f_Field⟩ from hf)
 clear hf hr
 obtain ⟨kd, st, ⟨kk, kn, kt⟩, ⟨ra, rc, rl⟩, fd⟩ := o
 try unfold vv_Op
 dsimp only at HRR HFO ⊢
 have HRR2 := Lib.hid (fun w' (h : Below w.heap.size w w') => (((rdO hr2).below h).more h.size : Reads w' w'.heap.size o2.f_Record.a (L5.cellsF o2.f_Record.l)))
 have HFO2 := Lib.hid (show FitO ⟨o2.f_Kind, o2.f_Store, o2.f_Key, o2.f_Record.l, o2.f_Field⟩ from hf2)
 clear hf2 hr2
 obtain ⟨kd2, st2, ⟨kk2, kn2, kt2⟩, ⟨ra2, rc2, rl2⟩, fd2⟩ := o2
 try unfold vv_Op
 dsimp only at HRR2 HFO2 ⊢
 obtain ⟨b, hb⟩ : ∃ b, L5.eqR rl rl2 = b := ⟨_, rfl⟩
 have HER := fun w' (h : Below w.heap.size w w') => L5.equalRecords_any ra ra2 rc rc2 rl rl2 (by have h : rl.length ≤ 1048576 := HFO.out.len; omega) (by have h : rl2.length ≤ 1048576 := HFO2.out.len; omega) w' (HRR.out w' h) (HRR2.out w' h)
 rw [hb] at HER
 replace HER := Lib.hid HER
 obtain ⟨bk, hbk⟩ : ∃ b, eqK (⟨kk, kn, kt⟩ : K) (⟨kk2, kn2, kt2⟩ : K) = b := ⟨_, rfl⟩
 have HKE := fun w => keyO_eq (⟨kk, kn, kt⟩ : K) (⟨kk2, kn2, kt2⟩ : K) w
 rw [hbk] at HKE
 dsimp only at HKE
 have HEO := Lib.hid (show eqO (⟨kd, st, ⟨kk, kn, kt⟩, rl, fd⟩ : X_Op) (⟨kd2, st2, ⟨kk2, kn2, kt2⟩, rl2, fd2⟩ : X_Op) = ((kd == kd2) && ((st.toList == st2.toList) && (bk && (b && (fd.toList == fd2.toList))))) from by rw [← hb, ← hbk]; rfl)
 clear hb hbk
 show Calls _ _ _ _ fun e w' => e = .returned (.bool (eqO (⟨kd, st, ⟨kk, kn, kt⟩, rl, fd⟩ : X_Op) (⟨kd2, st2, ⟨kk2, kn2, kt2⟩, rl2, fd2⟩ : X_Op))) ∧ _
 obtain ⟨B, hB⟩ : ∃ b, eqO (⟨kd, st, ⟨kk, kn, kt⟩, rl, fd⟩ : X_Op) (⟨kd2, st2, ⟨kk2, kn2, kt2⟩, rl2, fd2⟩ : X_Op) = b := ⟨_, rfl⟩
 rw [hB] at HEO ⊢
 clear hB
 have S1 := Lib.hid (show Sl.Sep w _ [_, _] from L4.push_box (L4.push_box (Sl.Sep.start w) 148 #[.int .i64 kd, .string st, .int .i64 kk, .int .i64 kn, .string kt, .slice ra rl.length rc, .string fd] (w.heap.size) (by simp)) 148 #[.int .i64 kd2, .string st2, .int .i64 kk2, .int .i64 kn2, .string kt2, .slice ra2 rl2.length rc2, .string fd2] (w.heap.size + 1) (by simp))
 obtain ⟨wa, hwa⟩ : ∃ w_, w_ = ((w.alloc (.cells #[.int .i64 kd, .string st, .int .i64 kk, .int .i64 kn, .string kt, .slice ra rl.length rc, .string fd] 148)).alloc (.cells #[.int .i64 kd2, .string st2, .int .i64 kk2, .int .i64 kn2, .string kt2, .slice ra2 rl2.length rc2, .string fd2] 148)) := ⟨_, rfl⟩
 rw [← hwa] at S1
 go_enter Try.func231, Try.ntmps231
 go_upto_region 1 with fail
 rw [← hwa]
 clear hwa
 obtain ⟨f0, f1, f2, f3, f4, f5, f6⟩ := Bag.cs7 S1.out 0 rfl
 obtain ⟨f7, f8, f9, f10, f11, f12, f13⟩ := Bag.cs7 S1.out 1 rfl
 cases hk1 : kd == kd2 with
 | false =>
  go_wp2_with fail
  go_ret
  exact ⟨by rw [HEO.out, hk1]; simp, S1.out.old⟩
 | true =>
  cases hs1 : st.toList == st2.toList with
  | false =>
   go_wp2_with fail
   go_ret
   exact ⟨by rw [HEO.out, hk1, hs1]; simp, S1.out.old⟩
  | true =>
   cases bk with
   | false =>
    go_wp2_with fail
    go_ret
    exact ⟨by rw [HEO.out, hk1, hs1]; simp, S1.out.old⟩
   | true =>
    cases b with
    | false =>
     go_wp2_with fail
     go_at_call 22
     refine (HER.out _ S1.out.old).mono ?_
     rintro e w1 ⟨rfl, hb⟩
     clear f0 f1 f2 f3 f4 f5 f6 f7 f8 f9 f10 f11 f12 f13
     have S2 := Lib.hid (S1.out.keep hb)
     clear S1
     clear hb
     obtain ⟨f0, f1, f2, f3, f4, f5, f6⟩ := Bag.cs7 S2.out 0 rfl
     obtain ⟨f7, f8, f9, f10, f11, f12, f13⟩ := Bag.cs7 S2.out 1 rfl
     go_wp2_with fail
     go_ret
     exact ⟨by rw [HEO.out, hk1, hs1]; simp, S2.out.old⟩
    | true =>
     go_wp2_with fail
     go_at_call 22
     refine (HER.out _ S1.out.old).mono ?_
     rintro e w1 ⟨rfl, hb⟩
     clear f0 f1 f2 f3 f4 f5 f6 f7 f8 f9 f10 f11 f12 f13
     have S2 := Lib.hid (S1.out.keep hb)
     clear S1
     clear hb
     obtain ⟨f0, f1, f2, f3, f4, f5, f6⟩ := Bag.cs7 S2.out 0 rfl
     obtain ⟨f7, f8, f9, f10, f11, f12, f13⟩ := Bag.cs7 S2.out 1 rfl
     cases hf1 : fd.toList == fd2.toList with
     | false =>
      go_wp2_with fail
      go_ret
      exact ⟨by rw [HEO.out, hk1, hs1, hf1]; simp, S2.out.old⟩
     | true =>
      go_wp2_with fail
      go_ret
      exact ⟨by rw [HEO.out, hk1, hs1, hf1]; simp, S2.out.old⟩
set_option maxHeartbeats 8000000 in
theorem equalFuncO_any (a : Option Addr) (c : Nat) (os : List Y_Op) (hl : os.length ≤ 1048576) (hf : ∀ o ∈ coS_Op os, FitO o) (a2 : Option Addr) (c2 : Nat) (os2 : List Y_Op) (hl2 : os2.length ≤ 1048576) (hf2 : ∀ o ∈ coS_Op os2, FitO o) (w : World) (hr : Reads w w.heap.size a (os.flatMap cl_Op)) (hx : RowsRd w w.heap.size (rws_Op os)) (hr2 : Reads w w.heap.size a2 (os2.flatMap cl_Op)) (hx2 : RowsRd w w.heap.size (rws_Op os2)) :
  Calls Try.prog 230 #[.slice a os.length c, .slice a2 os2.length c2, .func (.func 231) #[] #[]] w fun e w' => e = .returned (.bool (eqOs (coS_Op os) (coS_Op os2))) ∧ Below w.heap.size w w' := by
 have HR := Lib.hid (fun w' (h : Below w.heap.size w w') => hr.below h)
 have HX := Lib.hid (fun w' (h : Below w.heap.size w w') => (hx.below h).more h.size)
 have HF := Lib.hid hf
 obtain ⟨N, hN⟩ : ∃ n, n = os.length := ⟨_, rfl⟩
 rw [← hN] at hl ⊢
 have hl' : (N : Int) ≤ 1048576 := by omega
 have HN := Lib.hid hN
 clear hN hr hx hf
 have HR2 := Lib.hid (fun w' (h : Below w.heap.size w w') => hr2.below h)
 have HX2 := Lib.hid (fun w' (h : Below w.heap.size w w') => (hx2.below h).more h.size)
 have HF2 := Lib.hid hf2
 obtain ⟨N2, hN2⟩ : ∃ n, n = os2.length := ⟨_, rfl⟩
 rw [← hN2] at hl2 ⊢
 have hl2' : (N2 : Int) ≤ 1048576 := by omega
 have HN2 := Lib.hid hN2
 clear hN2 hr2 hx2 hf2
 have HSL := Lib.hid (show (coS_Op os).length = N ∧ (coS_Op os2).length = N2 from by rw [coS_len, coS_len, HN.out, HN2.out]; exact ⟨rfl, rfl⟩)
 obtain ⟨be, hbe⟩ : ∃ b, eqOs (coS_Op os) (coS_Op os2) = b := ⟨_, rfl⟩
 rw [hbe]
 have HB := Lib.hid hbe
 clear hbe
 have S1 := Lib.hid (show Sl.Sep w w [] from Sl.Sep.start w)
 by_cases hN : N = N2
 ·
  subst hN
  go_enter Try.func230, Try.ntmps230
  go_wp2_with fail
  go_loopw [17] (fun i wr => ∃ k : Nat, k ≤ N ∧ i = .int .i64 k ∧ Hid ((∀ j (h1 : j < (coS_Op os).length) (h2 : j < (coS_Op os2).length), j < k → eqO (coS_Op os)[j] (coS_Op os2)[j] = true) ∧ Sl.Sep w wr [])) (fun i _ => N - (intOf i).toNat)
  case atStart => exact ⟨0, Nat.zero_le _, rfl, And.intro (fun j h1 h2 h => absurd h (by omega)) S1.out⟩
  case round =>
   obtain ⟨k, hk, rfl, hrel⟩ := hrel
   have HA := Lib.hid hrel.out.1
   have S2 := Lib.hid hrel.out.2
   clear hrel S1
   by_cases hlt : (k : Int) < (N : Int)
   ·
    skip
    have hkl : k < os.length := by have := HN.out; omega
    have hkl2 : k < os2.length := by have := HN2.out; omega
    obtain ⟨x, hx⟩ : ∃ x, os[k]? = some x := ⟨_, List.getElem?_eq_getElem hkl⟩
    obtain ⟨oad, e'⟩ := el_some cl_Op_len (by decide) (HR.out _ S2.out.old) hkl
    subst e'
    have hro := fun w' (h : Below w.heap.size w w') => rdOs (HX.out w' h) hx
    have hrr := fun w' (h : Below w.heap.size w w') => rdO (rdOs (HX.out w' h) hx)
    obtain ⟨kd, st, ⟨kk, kn, kt⟩, ⟨ra, rc, rl⟩, fd⟩ := x
    have HK := Lib.hid (fun w' (h : Below w.heap.size w w') => el7 cl_Op_len (HR.out _ h) hx rfl)
    dsimp only at HK hrr
    have HRO := Lib.hid hro
    have HRR := Lib.hid hrr
    have HC := Lib.hid (show (coS_Op os)[k]? = some (⟨kd, st, ⟨kk, kn, kt⟩, rl, fd⟩ : X_Op) from coS_at hx)
    have HFO := Lib.hid (HF.out _ (List.mem_of_getElem? HC.out))
    clear hx hrr hro
    obtain ⟨x, hx⟩ : ∃ x, os2[k]? = some x := ⟨_, List.getElem?_eq_getElem hkl2⟩
    obtain ⟨oad2, e'⟩ := el_some cl_Op_len (by decide) (HR2.out _ S2.out.old) hkl2
    subst e'
    have hro := fun w' (h : Below w.heap.size w w') => rdOs (HX2.out w' h) hx
    have hrr := fun w' (h : Below w.heap.size w w') => rdO (rdOs (HX2.out w' h) hx)
    obtain ⟨kd2, st2, ⟨kk2, kn2, kt2⟩, ⟨ra2, rc2, rl2⟩, fd2⟩ := x
    have HK2 := Lib.hid (fun w' (h : Below w.heap.size w w') => el7 cl_Op_len (HR2.out _ h) hx rfl)
    dsimp only at HK2 hrr
    have HRO2 := Lib.hid hro
    have HRR2 := Lib.hid hrr
    have HC2 := Lib.hid (show (coS_Op os2)[k]? = some (⟨kd2, st2, ⟨kk2, kn2, kt2⟩, rl2, fd2⟩ : X_Op) from coS_at hx)
    have HFO2 := Lib.hid (HF2.out _ (List.mem_of_getElem? HC2.out))
    clear hx hrr hro
    obtain ⟨b, hb⟩ : ∃ b, eqO (⟨kd, st, ⟨kk, kn, kt⟩, rl, fd⟩ : X_Op) (⟨kd2, st2, ⟨kk2, kn2, kt2⟩, rl2, fd2⟩ : X_Op) = b := ⟨_, rfl⟩
    have HEQ := fun w' (h : Below w.heap.size w w') => equalOp_any ⟨kd, st, ⟨kk, kn, kt⟩, ⟨ra, rc, rl⟩, fd⟩ ⟨kd2, st2, ⟨kk2, kn2, kt2⟩, ⟨ra2, rc2, rl2⟩, fd2⟩ HFO.out HFO2.out w' (HRO.out w' h) (HRO2.out w' h)
    replace HEQ := fun w' h => (HEQ w' h).mono (R' := fun e w2 => e = .returned (.bool b) ∧ Below w'.heap.size w' w2) (fun e w2 hh => ⟨by rw [← hb]; exact hh.1, hh.2⟩)
    unfold vv_Op at HEQ
    dsimp only at HEQ
    replace HEQ := Lib.hid HEQ
    have HBK := Lib.hid hb
    clear hb
    obtain ⟨f0, f1, f2, f3, f4, f5, f6⟩ := HK.out _ S2.out.old
    obtain ⟨f7, f8, f9, f10, f11, f12, f13⟩ := HK2.out _ S2.out.old
    go_upto_region 6 with fail
    clear f0 f1 f2 f3 f4 f5 f6 f7 f8 f9 f10 f11 f12 f13
    have S3 := Lib.hid (show Sl.Sep w _ [_] from L4.push_box S2.out 148 #[.int .i64 kd, .string st, .int .i64 kk, .int .i64 kn, .string kt, .slice ra rl.length rc, .string fd] wr.heap.size rfl)
    clear S2
    obtain ⟨g1, hg⟩ : ∃ g', g' = wr.heap.size := ⟨_, rfl⟩
    rw [← hg] at S3 ⊢
    clear hg
    generalize wr.alloc (.cells #[.int .i64 kd, .string st, .int .i64 kk, .int .i64 kn, .string kt, .slice ra rl.length rc, .string fd] 148) = w1 at S3 ⊢
    obtain ⟨f0, f1, f2, f3, f4, f5, f6⟩ := Bag.cs7 S3.out 0 rfl
    obtain ⟨f7, f8, f9, f10, f11, f12, f13⟩ := HK.out _ S3.out.old
    obtain ⟨f14, f15, f16, f17, f18, f19, f20⟩ := HK2.out _ S3.out.old
    go_upto_region 7 with fail
    clear f0 f1 f2 f3 f4 f5 f6 f7 f8 f9 f10 f11 f12 f13 f14 f15 f16 f17 f18 f19 f20
    have S4 := Lib.hid (show Sl.Sep w _ [_, _] from L4.push_box S3.out 148 #[.int .i64 kd2, .string st2, .int .i64 kk2, .int .i64 kn2, .string kt2, .slice ra2 rl2.length rc2, .string fd2] w1.heap.size rfl)
    clear S3
    obtain ⟨g2, hg⟩ : ∃ g', g' = w1.heap.size := ⟨_, rfl⟩
    rw [← hg] at S4 ⊢
    clear hg
    generalize w1.alloc (.cells #[.int .i64 kd2, .string st2, .int .i64 kk2, .int .i64 kn2, .string kt2, .slice ra2 rl2.length rc2, .string fd2] 148) = w2 at S4 ⊢
    obtain ⟨f0, f1, f2, f3, f4, f5, f6⟩ := Bag.cs7 S4.out 0 rfl
    obtain ⟨f7, f8, f9, f10, f11, f12, f13⟩ := Bag.cs7 S4.out 1 rfl
    obtain ⟨f14, f15, f16, f17, f18, f19, f20⟩ := HK.out _ S4.out.old
    obtain ⟨f21, f22, f23, f24, f25, f26, f27⟩ := HK2.out _ S4.out.old
    go_wp2_with fail
    go_at_call 231
    refine (HEQ.out _ S4.out.old).mono ?_
    rintro e w3 ⟨rfl, hb⟩
    clear f0 f1 f2 f3 f4 f5 f6 f7 f8 f9 f10 f11 f12 f13 f14 f15 f16 f17 f18 f19 f20 f21 f22 f23 f24 f25 f26 f27
    have S5 := Lib.hid (S4.out.keep hb)
    clear S4
    clear hb
    obtain ⟨f0, f1, f2, f3, f4, f5, f6⟩ := Bag.cs7 S5.out 0 rfl
    obtain ⟨f7, f8, f9, f10, f11, f12, f13⟩ := Bag.cs7 S5.out 1 rfl
    obtain ⟨f14, f15, f16, f17, f18, f19, f20⟩ := HK.out _ S5.out.old
    obtain ⟨f21, f22, f23, f24, f25, f26, f27⟩ := HK2.out _ S5.out.old
    cases b with
    | false =>
     have HNO := Lib.hid (show eqOs (coS_Op os) (coS_Op os2) = false from zip_no k (len_of HC.out) (len_of HC2.out) (by rw [val_of HC.out, val_of HC2.out]; exact HBK.out))
     go_wp2_with fail
     go_ret
     exact ⟨by rw [← HB.out, HNO.out] <;> rfl, S5.out.old⟩
    | true =>
     clear f0 f1 f2 f3 f4 f5 f6 f7 f8 f9 f10 f11 f12 f13 f14 f15 f16 f17 f18 f19 f20 f21 f22 f23 f24 f25 f26 f27
     have S6 := Lib.hid (show Sl.Sep w _ [] from Bag.take S5.out [] (by rfl) (by decide))
     clear S5
     go_wp2_with fail
     go_roundw
     case rel => exact ⟨k + 1, by omega, by go_num, And.intro (fun j h1 h2 h => by
      by_cases e : j < k
      ·
       exact HA.out j h1 h2 e
      ·
       obtain rfl : j = k := by omega
       rw [val_of HC.out, val_of HC2.out]; exact HBK.out) S6.out⟩
     case measure => simp [intOf]; omega
   ·
    skip
    have HI := Lib.hid (show eqOs (coS_Op os) (coS_Op os2) = true from zip_yes (by rw [HSL.out.1, HSL.out.2]) (fun j h1 h2 => HA.out j h1 h2 (by rw [HSL.out.1] at h1; omega)))
    go_wp2_with fail
    go_ret
    exact ⟨by rw [← HB.out, HI.out] <;> rfl, S2.out.old⟩
 ·
  have hne : ((N : Int) == (N2 : Int)) = false := by simp; omega
  have hne2 : ¬ (N : Int) = (N2 : Int) := by omega
  have HI := Lib.hid (show eqOs (coS_Op os) (coS_Op os2) = false from zip_len (by rw [HSL.out.1, HSL.out.2]; exact hN))
  go_enter Try.func230, Try.ntmps230
  go_wp2_with fail
  go_ret
  exact ⟨by rw [← HB.out, HI.out] <;> rfl, S1.out.old⟩
theorem equalOps_any (a : Option Addr) (c : Nat) (os : List Y_Op) (hl : os.length ≤ 1048576) (hf : ∀ o ∈ coS_Op os, FitO o) (a2 : Option Addr) (c2 : Nat) (os2 : List Y_Op) (hl2 : os2.length ≤ 1048576) (hf2 : ∀ o ∈ coS_Op os2, FitO o) (w : World) (hr : Reads w w.heap.size a (os.flatMap cl_Op)) (hx : RowsRd w w.heap.size (rws_Op os)) (hr2 : Reads w w.heap.size a2 (os2.flatMap cl_Op)) (hx2 : RowsRd w w.heap.size (rws_Op os2)) :
  Calls Try.prog 205 #[.slice a os.length c, .slice a2 os2.length c2] w fun e w' => e = .returned (.bool (eqOs (coS_Op os) (coS_Op os2))) ∧ Below w.heap.size w w' := by
 have HE := Lib.hid (equalFuncO_any a c os hl hf a2 c2 os2 hl2 hf2 w hr hx hr2 hx2)
 clear hr hx hr2 hx2 hf hf2
 go_enter Try.func205, Try.ntmps205
 go_wp2_with fail
 go_at_call 230
 refine HE.out.mono ?_
 rintro e w1 ⟨rfl, hb⟩
 go_wp2_with fail
 go_ret
 exact ⟨rfl, hb⟩
end Go.Proofs.Ytojcdmgcbgpdmaa.L9

namespace Go.Proofs.Ytojcdmgcbgpdmaa.L6
open L4 (K isK cmpK R inR encU)
open L5 (F isR isN cellsF encR eqR Small)
open Go.ChangeShapes Go.WideShapes Go.ChangeAt Go.RowKit Mem Sl Ex L2 Sv Bag

set_option maxHeartbeats 4000000 in
theorem equalItems_any (kd n : Int) (t : ByteArray) (ia : Option Addr) (ic : Nat) (l : List F) (kd2 n2 : Int) (t2 : ByteArray) (ia2 : Option Addr) (ic2 : Nat) (l2 : List F) (hl : l.length ≤ 1048576) (hl2 : l2.length ≤ 1048576) (w : World) (hr : Reads w w.heap.size ia (cellsF l)) (hr2 : Reads w w.heap.size ia2 (cellsF l2)) :
  Calls Try.prog 95 #[.agg #[.int .i64 kd, .int .i64 n, .string t, .slice ia l.length ic], .agg #[.int .i64 kd2, .int .i64 n2, .string t2, .slice ia2 l2.length ic2]] w fun e w' => e = .returned (.bool (eqK ⟨kd, n, t⟩ ⟨kd2, n2, t2⟩ && eqR l l2)) ∧ Below w.heap.size w w' := by
 have HER := Lib.hid (fun w' (h : Below w.heap.size w w') => L5.equalRecords_any ia ia2 ic ic2 l l2 (by omega) (by omega) w' ((hr.below h).more h.size) ((hr2.below h).more h.size))
 obtain ⟨N, hN⟩ : ∃ n, n = l.length := ⟨_, rfl⟩
 obtain ⟨N2, hN2⟩ : ∃ n, n = l2.length := ⟨_, rfl⟩
 rw [← hN, ← hN2] at HER ⊢
 clear hN hN2 hr hr2 hl hl2
 obtain ⟨b, hb⟩ : ∃ b, eqK ⟨kd, n, t⟩ ⟨kd2, n2, t2⟩ = b := ⟨_, rfl⟩
 have HE := fun w => key_eq kd n t kd2 n2 t2 w
 rw [hb] at HE ⊢
 clear hb
 obtain ⟨br, hbr⟩ : ∃ b, eqR l l2 = b := ⟨_, rfl⟩
 rw [hbr] at HER ⊢
 clear hbr
 have S1 := Lib.hid (show Sl.Sep w _ [_, _] from L4.push_box (L4.push_box (Sl.Sep.start w) 40 #[.int .i64 kd, .int .i64 n, .string t, .slice ia N ic] (w.heap.size) (by simp)) 40 #[.int .i64 kd2, .int .i64 n2, .string t2, .slice ia2 N2 ic2] (w.heap.size + 1) (by simp))
 obtain ⟨wa, hwa⟩ : ∃ u, u = ((w.alloc (.cells #[.int .i64 kd, .int .i64 n, .string t, .slice ia N ic] 40)).alloc (.cells #[.int .i64 kd2, .int .i64 n2, .string t2, .slice ia2 N2 ic2] 40)) := ⟨_, rfl⟩
 rw [← hwa] at S1
 go_enter Try.func95, Try.ntmps95
 go_upto_region 1 with fail
 rw [← hwa]
 clear hwa
 obtain ⟨f0, f1, f2, f3⟩ := Bag.cs4 S1.out 0 rfl
 obtain ⟨f4, f5, f6, f7⟩ := Bag.cs4 S1.out 1 rfl
 cases b with
 | false =>
  go_wp2_with fail
  go_ret
  exact ⟨rfl, S1.out.old⟩
 | true =>
  go_wp2_with fail
  go_at_call 22
  refine (HER.out _ S1.out.old).mono ?_
  rintro e w1 ⟨rfl, hb⟩
  clear f0 f1 f2 f3 f4 f5 f6 f7
  have S2 := Lib.hid (S1.out.keep hb)
  clear S1
  clear hb
  obtain ⟨f0, f1, f2, f3⟩ := Bag.cs4 S2.out 0 rfl
  obtain ⟨f4, f5, f6, f7⟩ := Bag.cs4 S2.out 1 rfl
  go_wp2_with fail
  go_ret
  exact ⟨rfl, S2.out.old⟩
set_option maxHeartbeats 8000000 in
theorem equalFuncI_any (a a2 : Option Addr) (c c2 : Nat) (xs xs2 : List LI) (hl : xs.length ≤ 1048576) (hl2 : xs2.length ≤ 1048576) (hf : ∀ x ∈ conI xs, FitI x) (hf2 : ∀ x ∈ conI xs2, FitI x) (w : World)
  (hr : Reads w w.heap.size a (cellsI xs)) (hr2 : Reads w w.heap.size a2 (cellsI xs2)) (hx : RowsRd w w.heap.size (rowsI xs)) (hx2 : RowsRd w w.heap.size (rowsI xs2)) :
  Calls Try.prog 94 #[.slice a xs.length c, .slice a2 xs2.length c2, .func (.func 95) #[] #[]] w fun e w' => e = .returned (.bool (eqI (conI xs) (conI xs2))) ∧ Below w.heap.size w w' := by
 have HR := Lib.hid (fun w' (h : Below w.heap.size w w') => hr.below h)
 have HR2 := Lib.hid (fun w' (h : Below w.heap.size w w') => hr2.below h)
 have HX := Lib.hid (fun w' (h : Below w.heap.size w w') => (hx.below h).more h.size)
 have HX2 := Lib.hid (fun w' (h : Below w.heap.size w w') => (hx2.below h).more h.size)
 have HF := Lib.hid hf
 have HF2 := Lib.hid hf2
 obtain ⟨N, hN⟩ : ∃ n, n = xs.length := ⟨_, rfl⟩
 obtain ⟨N2, hN2⟩ : ∃ n, n = xs2.length := ⟨_, rfl⟩
 rw [← hN] at hl ⊢
 rw [← hN2] at hl2 ⊢
 have hl' : (N : Int) ≤ 1048576 := by omega
 have hl2' : (N2 : Int) ≤ 1048576 := by omega
 have HN := Lib.hid hN
 have HN2 := Lib.hid hN2
 obtain ⟨be, hbe⟩ : ∃ b, eqI (conI xs) (conI xs2) = b := ⟨_, rfl⟩
 rw [hbe]
 have HB := Lib.hid hbe
 clear hN hN2 hr hr2 hx hx2 hf hf2 hbe
 have S1 := Lib.hid (show Sl.Sep w w [] from Sl.Sep.start w)
 by_cases hN : N = N2
 ·
  subst hN
  go_enter Try.func94, Try.ntmps94
  go_wp2_with fail
  go_loopw [17] (fun i wr => ∃ k : Nat, k ≤ N ∧ i = .int .i64 k ∧ Hid ((∀ j (h1 : j < (conI xs).length) (h2 : j < (conI xs2).length), j < k → (eqK (conI xs)[j].k (conI xs2)[j].k && eqR (conI xs)[j].l (conI xs2)[j].l) = true) ∧ Sl.Sep w wr [])) (fun i _ => N - (intOf i).toNat)
  case atStart => exact ⟨0, Nat.zero_le _, rfl, And.intro (fun j h1 h2 h => absurd h (by omega)) S1.out⟩
  case round =>
   obtain ⟨k, hk, rfl, hrel⟩ := hrel
   have HA := Lib.hid hrel.out.1
   have S2 := Lib.hid hrel.out.2
   clear hrel S1
   by_cases hlt : (k : Int) < (N : Int)
   ·
    skip
    have hkl : k < xs.length := by have := HN.out; omega
    have hkl2 : k < xs2.length := by have := HN2.out; omega
    obtain ⟨ad, x, rfl, hx⟩ := readsI_some (HR.out _ S2.out.old) k hkl
    obtain ⟨⟨kd, n, t⟩, ia, ic, l⟩ := x
    have HK := Lib.hid (fun w' (h : Below w.heap.size w w') => readsI_at (HR.out _ h) k _ hx)
    try dsimp only at HK
    have HFI := Lib.hid (fit_at HF.out hx)
    try dsimp only [LI.con] at HFI
    obtain ⟨ad2, x, rfl, hx2⟩ := readsI_some (HR2.out _ S2.out.old) k hkl2
    obtain ⟨⟨kd2, n2, t2⟩, ia2, ic2, l2⟩ := x
    have HK2 := Lib.hid (fun w' (h : Below w.heap.size w w') => readsI_at (HR2.out _ h) k _ hx2)
    try dsimp only at HK2
    have HFI2 := Lib.hid (fit_at HF2.out hx2)
    try dsimp only [LI.con] at HFI2
    have HC := Lib.hid (show (conI xs)[k]? = some (⟨⟨kd, n, t⟩, l⟩ : It) from con_of hx)
    have HC2 := Lib.hid (show (conI xs2)[k]? = some (⟨⟨kd2, n2, t2⟩, l2⟩ : It) from con_of hx2)
    have HEQ := fun w' (h : Below w.heap.size w w') => equalItems_any kd n t ia ic l kd2 n2 t2 ia2 ic2 l2 HFI.out.len HFI2.out.len w' (((HX.out _ h).at_ (rowsI_mem hx)).reads) (((HX2.out _ h).at_ (rowsI_mem hx2)).reads)
    obtain ⟨b, hb⟩ : ∃ b, (eqK ⟨kd, n, t⟩ ⟨kd2, n2, t2⟩ && eqR l l2) = b := ⟨_, rfl⟩
    rw [hb] at HEQ
    replace HEQ := Lib.hid HEQ
    have HBK := Lib.hid hb
    clear hb hx hx2
    obtain ⟨f0, f1, f2, f3⟩ := HK.out _ S2.out.old
    obtain ⟨f4, f5, f6, f7⟩ := HK2.out _ S2.out.old
    go_upto_region 6 with fail
    clear f0 f1 f2 f3 f4 f5 f6 f7
    have S3 := Lib.hid (show Sl.Sep w _ [_] from L4.push_box S2.out 40 #[.int .i64 kd, .int .i64 n, .string t, .slice ia l.length ic] wr.heap.size rfl)
    clear S2
    obtain ⟨g1, hg⟩ : ∃ g', g' = wr.heap.size := ⟨_, rfl⟩
    rw [← hg] at S3 ⊢
    clear hg
    generalize wr.alloc (.cells #[.int .i64 kd, .int .i64 n, .string t, .slice ia l.length ic] 40) = w1 at S3 ⊢
    obtain ⟨f0, f1, f2, f3⟩ := Bag.cs4 S3.out 0 rfl
    obtain ⟨f4, f5, f6, f7⟩ := HK.out _ S3.out.old
    obtain ⟨f8, f9, f10, f11⟩ := HK2.out _ S3.out.old
    go_upto_region 7 with fail
    clear f0 f1 f2 f3 f4 f5 f6 f7 f8 f9 f10 f11
    have S4 := Lib.hid (show Sl.Sep w _ [_, _] from L4.push_box S3.out 40 #[.int .i64 kd2, .int .i64 n2, .string t2, .slice ia2 l2.length ic2] w1.heap.size rfl)
    clear S3
    obtain ⟨g2, hg⟩ : ∃ g', g' = w1.heap.size := ⟨_, rfl⟩
    rw [← hg] at S4 ⊢
    clear hg
    generalize w1.alloc (.cells #[.int .i64 kd2, .int .i64 n2, .string t2, .slice ia2 l2.length ic2] 40) = w2 at S4 ⊢
    obtain ⟨f0, f1, f2, f3⟩ := Bag.cs4 S4.out 0 rfl
    obtain ⟨f4, f5, f6, f7⟩ := Bag.cs4 S4.out 1 rfl
    obtain ⟨f8, f9, f10, f11⟩ := HK.out _ S4.out.old
    obtain ⟨f12, f13, f14, f15⟩ := HK2.out _ S4.out.old
    go_wp2_with fail
    go_at_call 95
    refine (HEQ.out _ S4.out.old).mono ?_
    rintro e w3 ⟨rfl, hb⟩
    clear f0 f1 f2 f3 f4 f5 f6 f7 f8 f9 f10 f11 f12 f13 f14 f15
    have S5 := Lib.hid (S4.out.keep hb)
    clear S4
    clear hb
    obtain ⟨f0, f1, f2, f3⟩ := Bag.cs4 S5.out 0 rfl
    obtain ⟨f4, f5, f6, f7⟩ := Bag.cs4 S5.out 1 rfl
    obtain ⟨f8, f9, f10, f11⟩ := HK.out _ S5.out.old
    obtain ⟨f12, f13, f14, f15⟩ := HK2.out _ S5.out.old
    cases b with
    | false =>
     have HNO := Lib.hid (show eqI (conI xs) (conI xs2) = false from eqI_no k (List.getElem?_eq_some_iff.1 HC.out).1 (List.getElem?_eq_some_iff.1 HC2.out).1 (by rw [(List.getElem?_eq_some_iff.1 HC.out).2, (List.getElem?_eq_some_iff.1 HC2.out).2]; dsimp only; exact HBK.out))
     go_wp2_with fail
     go_ret
     exact ⟨by rw [← HB.out, HNO.out]; rfl, S5.out.old⟩
    | true =>
     clear f0 f1 f2 f3 f4 f5 f6 f7 f8 f9 f10 f11 f12 f13 f14 f15
     have S6 := Lib.hid (show Sl.Sep w _ [] from Bag.take S5.out [] (by rfl) (by decide))
     clear S5
     go_wp2_with fail
     go_roundw
     case rel => exact ⟨k + 1, by omega, by go_num, And.intro (fun j h1 h2 h => by
      by_cases e : j < k
      ·
       exact HA.out j h1 h2 e
      ·
       obtain rfl : j = k := by omega
       rw [(List.getElem?_eq_some_iff.1 HC.out).2, (List.getElem?_eq_some_iff.1 HC2.out).2]; exact HBK.out) S6.out⟩
     case measure => simp [intOf]; omega
   ·
    skip
    have HI := Lib.hid (eqI_all (xs := conI xs) (ys := conI xs2) (by rw [conI_length, conI_length, ← HN.out, ← HN2.out]) (fun j h1 h2 => HA.out j h1 h2 (by rw [conI_length] at h1; have := HN.out; omega)))
    go_wp2_with fail
    go_ret
    exact ⟨by rw [← HB.out, HI.out]; rfl, S2.out.old⟩
 ·
  have hne : ((N : Int) == (N2 : Int)) = false := by simp; omega
  have hne2 : ¬ (N : Int) = (N2 : Int) := by omega
  have HI := Lib.hid (eqI_len (xs := conI xs) (ys := conI xs2) (by rw [conI_length, conI_length, ← HN.out, ← HN2.out]; exact hN))
  go_enter Try.func94, Try.ntmps94
  go_wp2_with fail
  go_ret
  exact ⟨by rw [← HB.out, HI.out]; rfl, S1.out.old⟩
set_option maxHeartbeats 8000000 in
theorem equalStores_any (y y2 : LS) (hf : FitS y.con) (hf2 : FitS y2.con) (w : World) (hr : RowsRd w w.heap.size y.rows) (hr2 : RowsRd w w.heap.size y2.rows) :
  Calls Try.prog 21 #[y.v, y2.v] w fun e w' => e = .returned (.bool (eqS y.con y2.con)) ∧ Below w.heap.size w w' := by
 have HEF := Lib.hid (fun w' (h : Below w.heap.size w w') => equalFuncI_any y.a y2.a y.c y2.c y.xs y2.xs (by have h1 := hf.len; simpa [LS.con] using h1) (by have h1 := hf2.len; simpa [LS.con] using h1) hf.items hf2.items w' (((LS.outer hr).below h).more h.size) (((LS.outer hr2).below h).more h.size) (((LS.inner hr).below h).more h.size) (((LS.inner hr2).below h).more h.size))
 obtain ⟨name, a, c, xs, auto⟩ := y
 have HR := Lib.hid (fun w' (h : Below w.heap.size w w') => LS.outer (hr.below h))
 have HX := Lib.hid (fun w' (h : Below w.heap.size w w') => (LS.inner (hr.below h)).more h.size)
 have HF := Lib.hid hf.items
 have HNM := Lib.hid hf.name
 have hl := hf.len
 simp only [LS.con, conI_length] at hl
 dsimp only [LS.con] at HR HX HF HNM
 try unfold LS.v LS.cells LS.con
 try dsimp only
 obtain ⟨N, hN⟩ : ∃ n, n = xs.length := ⟨_, rfl⟩
 rw [← hN] at hl ⊢
 have hl' : (N : Int) ≤ 1048576 := by omega
 have HN := Lib.hid hN
 clear hN hr hf
 obtain ⟨name2, a2, c2, xs2, auto2⟩ := y2
 have HR2 := Lib.hid (fun w' (h : Below w.heap.size w w') => LS.outer (hr2.below h))
 have HX2 := Lib.hid (fun w' (h : Below w.heap.size w w') => (LS.inner (hr2.below h)).more h.size)
 have HF2 := Lib.hid hf2.items
 have HNM2 := Lib.hid hf2.name
 have hl2 := hf2.len
 simp only [LS.con, conI_length] at hl2
 dsimp only [LS.con] at HR2 HX2 HF2 HNM2
 try unfold LS.v LS.cells LS.con
 try dsimp only
 obtain ⟨N2, hN2⟩ : ∃ n, n = xs2.length := ⟨_, rfl⟩
 rw [← hN2] at hl2 ⊢
 have hl2' : (N2 : Int) ≤ 1048576 := by omega
 have HN2 := Lib.hid hN2
 clear hN2 hr2 hf2
 dsimp only at HEF
 rw [← HN.out, ← HN2.out] at HEF
 obtain ⟨bi, hbi⟩ : ∃ b, eqI (conI xs) (conI xs2) = b := ⟨_, rfl⟩
 rw [hbi] at HEF
 obtain ⟨be, hbe⟩ : ∃ b, eqS ⟨name, conI xs, auto⟩ ⟨name2, conI xs2, auto2⟩ = b := ⟨_, rfl⟩
 rw [hbe]
 have HE := Lib.hid (show be = ((name.toList == name2.toList) && ((auto == auto2) && bi)) from by rw [← hbe, ← hbi]; unfold eqS; rw [ByteArray.toList_eq, ByteArray.toList_eq])
 clear hbe hbi
 have S1 := Lib.hid (show Sl.Sep w _ [_, _] from L4.push_box (L4.push_box (Sl.Sep.start w) 26 #[.string name, .slice a N c, .int .i64 auto] (w.heap.size) (by simp)) 26 #[.string name2, .slice a2 N2 c2, .int .i64 auto2] (w.heap.size + 1) (by simp))
 obtain ⟨wa, hwa⟩ : ∃ u, u = ((w.alloc (.cells #[.string name, .slice a N c, .int .i64 auto] 26)).alloc (.cells #[.string name2, .slice a2 N2 c2, .int .i64 auto2] 26)) := ⟨_, rfl⟩
 rw [← hwa] at S1
 go_enter Try.func21, Try.ntmps21
 go_upto_region 1 with fail
 rw [← hwa]
 clear hwa
 obtain ⟨f0, f1, f2⟩ := Bag.cs3 S1.out 0 rfl
 obtain ⟨f3, f4, f5⟩ := Bag.cs3 S1.out 1 rfl
 cases hn : name.toList == name2.toList with
 | false =>
  have HB := Lib.hid (show be = false from by rw [HE.out, hn]; rfl)
  go_wp2_with fail
  go_ret
  exact ⟨by rw [HB.out]; rfl, S1.out.old⟩
 | true =>
  cases hu : auto == auto2 with
  | false =>
   have HB := Lib.hid (show be = false from by rw [HE.out, hn, hu]; rfl)
   go_wp2_with fail
   go_ret
   exact ⟨by rw [HB.out]; rfl, S1.out.old⟩
  | true =>
   have HB := Lib.hid (show be = bi from by rw [HE.out, hn, hu]; rfl)
   go_wp2_with fail
   go_at_call 94
   refine (HEF.out _ S1.out.old).mono ?_
   rintro e w1 ⟨rfl, hb⟩
   clear f0 f1 f2 f3 f4 f5
   have S2 := Lib.hid (S1.out.keep hb)
   clear S1
   clear hb
   obtain ⟨f0, f1, f2⟩ := Bag.cs3 S2.out 0 rfl
   obtain ⟨f3, f4, f5⟩ := Bag.cs3 S2.out 1 rfl
   go_wp2_with fail
   go_ret
   exact ⟨by rw [HB.out]; rfl, S2.out.old⟩
end Go.Proofs.Ytojcdmgcbgpdmaa.L6

namespace Go.Proofs.Ytojcdmgcbgpdmaa.L10
open V L6 L9
open L4 (K isK cmpK)
open L5 (F isR isN string_geq)
open Go.Op (bytesLess)
open Go.ChangeShapes Go.WideShapes Go.ChangeAt Go.RowKit Mem Sl Ex L2 Sv Bag

set_option maxHeartbeats 8000000 in
theorem equalFunc_st (f : L6.LS → L6.LS → Bool) (a : Option Addr) (c : Nat) (xs : List L6.LS) (hl : xs.length ≤ 1048576) (a2 : Option Addr) (c2 : Nat) (ys : List L6.LS) (hl2 : ys.length ≤ 1048576) (w : World) (hr : Reads w w.heap.size a (xs.flatMap cl_Store)) (hr2 : Reads w w.heap.size a2 (ys.flatMap cl_Store))
  (hp : ∀ x ∈ xs, ∀ y ∈ ys, ∀ w', Below w.heap.size w w' → Calls Try.prog 21 #[vv_Store x, vv_Store y] w' fun e w'' => e = .returned (.bool (f x y)) ∧ Below w'.heap.size w' w'') :
  Calls Try.prog 206 #[.slice a xs.length c, .slice a2 ys.length c2, .func (.func 21) #[] #[]] w fun e w' => e = .returned (.bool (xs.length == ys.length && (xs.zip ys).all fun p => f p.1 p.2)) ∧ Below w.heap.size w w' := by
 have HR := Lib.hid (fun w' (h : Below w.heap.size w w') => hr.below h)
 obtain ⟨N, hN⟩ : ∃ n, n = xs.length := ⟨_, rfl⟩
 rw [← hN] at hl ⊢
 have hl' : (N : Int) ≤ 1048576 := by omega
 have HN := Lib.hid hN
 clear hN hr
 have HR2 := Lib.hid (fun w' (h : Below w.heap.size w w') => hr2.below h)
 obtain ⟨N2, hN2⟩ : ∃ n, n = ys.length := ⟨_, rfl⟩
 rw [← hN2] at hl2 ⊢
 have hl2' : (N2 : Int) ≤ 1048576 := by omega
 have HN2 := Lib.hid hN2
 clear hN2 hr2
 have HP := Lib.hid hp
 clear hp
 obtain ⟨be, hbe⟩ : ∃ b, (N == N2 && (xs.zip ys).all fun p => f p.1 p.2) = b := ⟨_, rfl⟩
 rw [hbe]
 have HB := Lib.hid (show (xs.length == ys.length && (xs.zip ys).all fun p => f p.1 p.2) = be from by rw [← hbe, HN.out, HN2.out])
 clear hbe
 have S1 := Lib.hid (show Sl.Sep w w [] from Sl.Sep.start w)
 by_cases hN : N = N2
 ·
  subst hN
  go_enter Try.func206, Try.ntmps206
  go_wp2_with fail
  go_loopw [17] (fun i wr => ∃ k : Nat, k ≤ N ∧ i = .int .i64 k ∧ Hid ((∀ j (h1 : j < xs.length) (h2 : j < ys.length), j < k → f xs[j] ys[j] = true) ∧ Sl.Sep w wr [])) (fun i _ => N - (intOf i).toNat)
  case atStart => exact ⟨0, Nat.zero_le _, rfl, And.intro (fun j h1 h2 h => absurd h (by omega)) S1.out⟩
  case round =>
   obtain ⟨k, hk, rfl, hrel⟩ := hrel
   have HA := Lib.hid hrel.out.1
   have S2 := Lib.hid hrel.out.2
   clear hrel S1
   by_cases hlt : (k : Int) < (N : Int)
   ·
    skip
    have hkl : k < xs.length := by have := HN.out; omega
    have hkl2 : k < ys.length := by have := HN2.out; omega
    obtain ⟨x, hx⟩ : ∃ x, xs[k]? = some x := ⟨_, List.getElem?_eq_getElem hkl⟩
    obtain ⟨ad, e'⟩ := el_some cl_Store_len (by decide) (HR.out _ S2.out.old) hkl
    subst e'
    have HKx := Lib.hid (fun w' (h : Below w.heap.size w w') => el3 cl_Store_len (HR.out _ h) hx rfl)
    have HCx := Lib.hid hx
    clear hx
    obtain ⟨y, hy⟩ : ∃ x, ys[k]? = some x := ⟨_, List.getElem?_eq_getElem hkl2⟩
    obtain ⟨ad2, e'⟩ := el_some cl_Store_len (by decide) (HR2.out _ S2.out.old) hkl2
    subst e'
    have HKy := Lib.hid (fun w' (h : Below w.heap.size w w') => el3 cl_Store_len (HR2.out _ h) hy rfl)
    have HCy := Lib.hid hy
    clear hy
    obtain ⟨b, hb⟩ : ∃ b, f x y = b := ⟨_, rfl⟩
    have HEQ := fun w' (h : Below w.heap.size w w') => HP.out x (List.mem_of_getElem? HCx.out) y (List.mem_of_getElem? HCy.out) w' h
    rw [hb] at HEQ
    unfold vv_Store at HEQ
    replace HEQ := Lib.hid HEQ
    have HBK := Lib.hid hb
    clear hb
    obtain ⟨f0, f1, f2⟩ := HKx.out _ S2.out.old
    obtain ⟨f3, f4, f5⟩ := HKy.out _ S2.out.old
    go_upto_region 6 with fail
    clear f0 f1 f2 f3 f4 f5
    have S3 := Lib.hid (show Sl.Sep w _ [_] from L4.push_box S2.out 26 #[.string x.name, .slice x.a x.xs.length x.c, .int .i64 x.auto] wr.heap.size rfl)
    clear S2
    obtain ⟨g1, hg⟩ : ∃ g', g' = wr.heap.size := ⟨_, rfl⟩
    rw [← hg] at S3 ⊢
    clear hg
    generalize wr.alloc (.cells #[.string x.name, .slice x.a x.xs.length x.c, .int .i64 x.auto] 26) = w1 at S3 ⊢
    obtain ⟨f0, f1, f2⟩ := Bag.cs3 S3.out 0 rfl
    obtain ⟨f3, f4, f5⟩ := HKx.out _ S3.out.old
    obtain ⟨f6, f7, f8⟩ := HKy.out _ S3.out.old
    go_upto_region 7 with fail
    clear f0 f1 f2 f3 f4 f5 f6 f7 f8
    have S4 := Lib.hid (show Sl.Sep w _ [_, _] from L4.push_box S3.out 26 #[.string y.name, .slice y.a y.xs.length y.c, .int .i64 y.auto] w1.heap.size rfl)
    clear S3
    obtain ⟨g2, hg⟩ : ∃ g', g' = w1.heap.size := ⟨_, rfl⟩
    rw [← hg] at S4 ⊢
    clear hg
    generalize w1.alloc (.cells #[.string y.name, .slice y.a y.xs.length y.c, .int .i64 y.auto] 26) = w2 at S4 ⊢
    obtain ⟨f0, f1, f2⟩ := Bag.cs3 S4.out 0 rfl
    obtain ⟨f3, f4, f5⟩ := Bag.cs3 S4.out 1 rfl
    obtain ⟨f6, f7, f8⟩ := HKx.out _ S4.out.old
    obtain ⟨f9, f10, f11⟩ := HKy.out _ S4.out.old
    go_wp2_with fail
    go_at_call 21
    refine (HEQ.out _ S4.out.old).mono ?_
    rintro e w3 ⟨rfl, hb⟩
    clear f0 f1 f2 f3 f4 f5 f6 f7 f8 f9 f10 f11
    have S5 := Lib.hid (S4.out.keep hb)
    clear S4
    clear hb
    obtain ⟨f0, f1, f2⟩ := Bag.cs3 S5.out 0 rfl
    obtain ⟨f3, f4, f5⟩ := Bag.cs3 S5.out 1 rfl
    obtain ⟨f6, f7, f8⟩ := HKx.out _ S5.out.old
    obtain ⟨f9, f10, f11⟩ := HKy.out _ S5.out.old
    cases b with
    | false =>
     have HV := Lib.hid (show be = false from by rw [← HB.out]; exact zip_no k (len_of HCx.out) (len_of HCy.out) (by rw [val_of HCx.out, val_of HCy.out]; exact HBK.out))
     go_wp2_with fail
     go_ret
     exact ⟨by rw [HV.out] <;> rfl, S5.out.old⟩
    | true =>
     clear f0 f1 f2 f3 f4 f5 f6 f7 f8 f9 f10 f11
     have S6 := Lib.hid (show Sl.Sep w _ [] from Bag.take S5.out [] (by rfl) (by decide))
     clear S5
     go_wp2_with fail
     go_roundw
     case rel => exact ⟨k + 1, by omega, by go_num, And.intro (fun j h1 h2 h => by
      by_cases e : j < k
      ·
       exact HA.out j h1 h2 e
      ·
       obtain rfl : j = k := by omega
       rw [val_of HCx.out, val_of HCy.out]; exact HBK.out) S6.out⟩
     case measure => simp [intOf]; omega
   ·
    skip
    have HV := Lib.hid (show be = true from by rw [← HB.out]; exact zip_yes (by rw [← HN.out, ← HN2.out]) (fun j h1 h2 => HA.out j h1 h2 (by have := HN.out; omega)))
    go_wp2_with fail
    go_ret
    exact ⟨by rw [HV.out] <;> rfl, S2.out.old⟩
 ·
  have hne : ((N : Int) == (N2 : Int)) = false := by simp; omega
  have hne2 : ¬ (N : Int) = (N2 : Int) := by omega
  go_enter Try.func206, Try.ntmps206
  have HV := Lib.hid (show be = false from by rw [← HB.out]; exact zip_len (by rw [← HN.out, ← HN2.out]; exact hN))
  go_wp2_with fail
  go_ret
  exact ⟨by rw [HV.out] <;> rfl, S1.out.old⟩
set_option maxHeartbeats 8000000 in
theorem equalTx_any (x y : Y_Tx) (hf : FitT (co_Tx x)) (hf2 : FitT (co_Tx y)) (w : World) (hr : RowsRd w w.heap.size (rw_Tx x)) (hr2 : RowsRd w w.heap.size (rw_Tx y)) :
  Calls Try.prog 155 #[vv_Tx x, vv_Tx y] w fun e w' => e = .returned (.bool (eqT (co_Tx x) (co_Tx y))) ∧ Below w.heap.size w w' := by
 have HRx := Lib.hid (fun w' (h : Below w.heap.size w w') => ((hr.below h).more h.size : RowsRd w' w'.heap.size (rw_Tx x)))
 have HFx := Lib.hid hf
 clear hr hf
 have HRy := Lib.hid (fun w' (h : Below w.heap.size w w') => ((hr2.below h).more h.size : RowsRd w' w'.heap.size (rw_Tx y)))
 have HFy := Lib.hid hf2
 clear hr2 hf2
 obtain ⟨bo, hbo⟩ : ∃ b, eqOs (coS_Op x.f_Ops) (coS_Op y.f_Ops) = b := ⟨_, rfl⟩
 have HEO := fun w' (h : Below w.heap.size w w') => equalOps_any x.f_Ops_a x.f_Ops_c x.f_Ops (by have h := HFx.out.len; rwa [show (co_Tx x).f_Ops = coS_Op x.f_Ops from rfl, coS_len] at h) HFx.out.ops y.f_Ops_a y.f_Ops_c y.f_Ops (by have h := HFy.out.len; rwa [show (co_Tx y).f_Ops = coS_Op y.f_Ops from rfl, coS_len] at h) HFy.out.ops w' (rdTo (HRx.out w' h)) (rdTox (HRx.out w' h)) (rdTo (HRy.out w' h)) (rdTox (HRy.out w' h))
 rw [hbo] at HEO
 replace HEO := Lib.hid HEO
 have HBO := Lib.hid hbo
 clear hbo
 obtain ⟨bs, hbs⟩ : ∃ b, eqSl (coS_Store x.f_Backup) (coS_Store y.f_Backup) = b := ⟨_, rfl⟩
 have HES := fun w' (h : Below w.heap.size w w') => equalFunc_st (fun s r => eqS s.con r.con) x.f_Backup_a x.f_Backup_c x.f_Backup (by have h := HFx.out.blen; rwa [show (co_Tx x).f_Backup = coS_Store x.f_Backup from rfl, coS_Store_eq, List.length_map] at h) y.f_Backup_a y.f_Backup_c y.f_Backup (by have h := HFy.out.blen; rwa [show (co_Tx y).f_Backup = coS_Store y.f_Backup from rfl, coS_Store_eq, List.length_map] at h) w' (rdTb (HRx.out w' h)) (rdTb (HRy.out w' h)) (fun s hs r hr w2 h2 => by
  obtain ⟨j, hj, rfl⟩ := List.mem_iff_getElem.1 hs
  obtain ⟨k, hk, rfl⟩ := List.mem_iff_getElem.1 hr
  have h3 := h.trans (h2.mono h.size)
  exact equalStores_any _ _ (HFx.out.back _ (by show _ ∈ coS_Store x.f_Backup; rw [coS_Store_eq]; exact List.mem_map.2 ⟨_, hs, rfl⟩)) (HFy.out.back _ (by show _ ∈ coS_Store y.f_Backup; rw [coS_Store_eq]; exact List.mem_map.2 ⟨_, hr, rfl⟩)) w2 (rd_el (rw_ := rw_Store) (rdTbx (HRx.out w2 h3)) (List.getElem?_eq_getElem hj)) (rd_el (rw_ := rw_Store) (rdTbx (HRy.out w2 h3)) (List.getElem?_eq_getElem hk)))
 rw [show (x.f_Backup.length == y.f_Backup.length && (x.f_Backup.zip y.f_Backup).all fun p => eqS p.1.con p.2.con) = bs from by rw [← hbs]; unfold eqSl; rw [coS_Store_eq, coS_Store_eq, List.length_map, List.length_map, List.zip_map, List.all_map]; rfl] at HES
 replace HES := Lib.hid HES
 have HET := Lib.hid (show eqT (co_Tx x) (co_Tx y) = (x.f_Id == y.f_Id && (bo && (x.f_At == y.f_At && (x.f_State == y.f_State && bs)))) from by rw [← hbs, ← HBO.out]; rfl)
 clear hbs
 obtain ⟨B, hB⟩ : ∃ b, eqT (co_Tx x) (co_Tx y) = b := ⟨_, rfl⟩
 rw [hB] at HET ⊢
 clear hB
 unfold vv_Tx
 have S1 := Lib.hid (show Sl.Sep w _ [_, _] from L4.push_box (L4.push_box (Sl.Sep.start w) 161 #[.int .i64 x.f_Id, .slice x.f_Ops_a x.f_Ops.length x.f_Ops_c, .int .i64 x.f_At, .int .i64 x.f_State, .slice x.f_Backup_a x.f_Backup.length x.f_Backup_c] (w.heap.size) (by simp)) 161 #[.int .i64 y.f_Id, .slice y.f_Ops_a y.f_Ops.length y.f_Ops_c, .int .i64 y.f_At, .int .i64 y.f_State, .slice y.f_Backup_a y.f_Backup.length y.f_Backup_c] (w.heap.size + 1) (by simp))
 obtain ⟨wa, hwa⟩ : ∃ w_, w_ = ((w.alloc (.cells #[.int .i64 x.f_Id, .slice x.f_Ops_a x.f_Ops.length x.f_Ops_c, .int .i64 x.f_At, .int .i64 x.f_State, .slice x.f_Backup_a x.f_Backup.length x.f_Backup_c] 161)).alloc (.cells #[.int .i64 y.f_Id, .slice y.f_Ops_a y.f_Ops.length y.f_Ops_c, .int .i64 y.f_At, .int .i64 y.f_State, .slice y.f_Backup_a y.f_Backup.length y.f_Backup_c] 161)) := ⟨_, rfl⟩
 rw [← hwa] at S1
 go_enter Try.func155, Try.ntmps155
 go_upto_region 1 with fail
 rw [← hwa]
 clear hwa
 obtain ⟨f0, f1, f2, f3, f4⟩ := Bag.cs5 S1.out 0 rfl
 obtain ⟨f5, f6, f7, f8, f9⟩ := Bag.cs5 S1.out 1 rfl
 cases h1 : x.f_Id == y.f_Id with
 | false =>
  have HV := Lib.hid (show B = false from by rw [HET.out, h1]; simp)
  go_wp2_with fail
  go_ret
  exact ⟨by rw [HV.out] <;> rfl, S1.out.old⟩
 | true =>
  cases bo with
  | false =>
   go_wp2_with fail
   go_at_call 205
   refine (HEO.out _ S1.out.old).mono ?_
   rintro e w1 ⟨rfl, hb⟩
   clear f0 f1 f2 f3 f4 f5 f6 f7 f8 f9
   have S2 := Lib.hid (S1.out.keep hb)
   clear S1
   clear hb
   obtain ⟨f0, f1, f2, f3, f4⟩ := Bag.cs5 S2.out 0 rfl
   obtain ⟨f5, f6, f7, f8, f9⟩ := Bag.cs5 S2.out 1 rfl
   have HV := Lib.hid (show B = false from by rw [HET.out, h1]; simp)
   go_wp2_with fail
   go_ret
   exact ⟨by rw [HV.out] <;> rfl, S2.out.old⟩
  | true =>
   go_wp2_with fail
   go_at_call 205
   refine (HEO.out _ S1.out.old).mono ?_
   rintro e w1 ⟨rfl, hb⟩
   clear f0 f1 f2 f3 f4 f5 f6 f7 f8 f9
   have S2 := Lib.hid (S1.out.keep hb)
   clear S1
   clear hb
   obtain ⟨f0, f1, f2, f3, f4⟩ := Bag.cs5 S2.out 0 rfl
   obtain ⟨f5, f6, f7, f8, f9⟩ := Bag.cs5 S2.out 1 rfl
   cases h2 : x.f_At == y.f_At with
   | false =>
    have HV := Lib.hid (show B = false from by rw [HET.out, h1, h2]; simp)
    go_wp2_with fail
    go_ret
    exact ⟨by rw [HV.out] <;> rfl, S2.out.old⟩
   | true =>
    cases h3 : x.f_State == y.f_State with
    | false =>
     have HV := Lib.hid (show B = false from by rw [HET.out, h1, h2, h3]; simp)
     go_wp2_with fail
     go_ret
     exact ⟨by rw [HV.out] <;> rfl, S2.out.old⟩
    | true =>
     cases bs with
     | false =>
      go_wp2_with fail
      go_at_call 206
      refine (HES.out _ S2.out.old).mono ?_
      rintro e w2 ⟨rfl, hb⟩
      clear f0 f1 f2 f3 f4 f5 f6 f7 f8 f9
      have S3 := Lib.hid (S2.out.keep hb)
      clear S2
      clear hb
      obtain ⟨f0, f1, f2, f3, f4⟩ := Bag.cs5 S3.out 0 rfl
      obtain ⟨f5, f6, f7, f8, f9⟩ := Bag.cs5 S3.out 1 rfl
      have HV := Lib.hid (show B = false from by rw [HET.out, h1, h2, h3]; simp)
      go_wp2_with fail
      go_ret
      exact ⟨by rw [HV.out] <;> rfl, S3.out.old⟩
     | true =>
      go_wp2_with fail
      go_at_call 206
      refine (HES.out _ S2.out.old).mono ?_
      rintro e w2 ⟨rfl, hb⟩
      clear f0 f1 f2 f3 f4 f5 f6 f7 f8 f9
      have S3 := Lib.hid (S2.out.keep hb)
      clear S2
      clear hb
      obtain ⟨f0, f1, f2, f3, f4⟩ := Bag.cs5 S3.out 0 rfl
      obtain ⟨f5, f6, f7, f8, f9⟩ := Bag.cs5 S3.out 1 rfl
      have HV := Lib.hid (show B = true from by rw [HET.out, h1, h2, h3]; simp)
      go_wp2_with fail
      go_ret
      exact ⟨by rw [HV.out] <;> rfl, S3.out.old⟩
set_option maxHeartbeats 8000000 in
theorem equalFunc_tx (f : Y_Tx → Y_Tx → Bool) (a : Option Addr) (c : Nat) (xs : List Y_Tx) (hl : xs.length ≤ 1048576) (a2 : Option Addr) (c2 : Nat) (ys : List Y_Tx) (hl2 : ys.length ≤ 1048576) (w : World) (hr : Reads w w.heap.size a (xs.flatMap cl_Tx)) (hr2 : Reads w w.heap.size a2 (ys.flatMap cl_Tx))
  (hp : ∀ x ∈ xs, ∀ y ∈ ys, ∀ w', Below w.heap.size w w' → Calls Try.prog 155 #[vv_Tx x, vv_Tx y] w' fun e w'' => e = .returned (.bool (f x y)) ∧ Below w'.heap.size w' w'') :
  Calls Try.prog 154 #[.slice a xs.length c, .slice a2 ys.length c2, .func (.func 155) #[] #[]] w fun e w' => e = .returned (.bool (xs.length == ys.length && (xs.zip ys).all fun p => f p.1 p.2)) ∧ Below w.heap.size w w' := by
 have HR := Lib.hid (fun w' (h : Below w.heap.size w w') => hr.below h)
 obtain ⟨N, hN⟩ : ∃ n, n = xs.length := ⟨_, rfl⟩
 rw [← hN] at hl ⊢
 have hl' : (N : Int) ≤ 1048576 := by omega
 have HN := Lib.hid hN
 clear hN hr
 have HR2 := Lib.hid (fun w' (h : Below w.heap.size w w') => hr2.below h)
 obtain ⟨N2, hN2⟩ : ∃ n, n = ys.length := ⟨_, rfl⟩
 rw [← hN2] at hl2 ⊢
 have hl2' : (N2 : Int) ≤ 1048576 := by omega
 have HN2 := Lib.hid hN2
 clear hN2 hr2
 have HP := Lib.hid hp
 clear hp
 obtain ⟨be, hbe⟩ : ∃ b, (N == N2 && (xs.zip ys).all fun p => f p.1 p.2) = b := ⟨_, rfl⟩
 rw [hbe]
 have HB := Lib.hid (show (xs.length == ys.length && (xs.zip ys).all fun p => f p.1 p.2) = be from by rw [← hbe, HN.out, HN2.out])
 clear hbe
 have S1 := Lib.hid (show Sl.Sep w w [] from Sl.Sep.start w)
 by_cases hN : N = N2
 ·
  subst hN
  go_enter Try.func154, Try.ntmps154
  go_wp2_with fail
  go_loopw [17] (fun i wr => ∃ k : Nat, k ≤ N ∧ i = .int .i64 k ∧ Hid ((∀ j (h1 : j < xs.length) (h2 : j < ys.length), j < k → f xs[j] ys[j] = true) ∧ Sl.Sep w wr [])) (fun i _ => N - (intOf i).toNat)
  case atStart => exact ⟨0, Nat.zero_le _, rfl, And.intro (fun j h1 h2 h => absurd h (by omega)) S1.out⟩
  case round =>
   obtain ⟨k, hk, rfl, hrel⟩ := hrel
   have HA := Lib.hid hrel.out.1
   have S2 := Lib.hid hrel.out.2
   clear hrel S1
   by_cases hlt : (k : Int) < (N : Int)
   ·
    skip
    have hkl : k < xs.length := by have := HN.out; omega
    have hkl2 : k < ys.length := by have := HN2.out; omega
    obtain ⟨x, hx⟩ : ∃ x, xs[k]? = some x := ⟨_, List.getElem?_eq_getElem hkl⟩
    obtain ⟨ad, e'⟩ := el_some cl_Tx_len (by decide) (HR.out _ S2.out.old) hkl
    subst e'
    have HKx := Lib.hid (fun w' (h : Below w.heap.size w w') => el5 cl_Tx_len (HR.out _ h) hx rfl)
    have HCx := Lib.hid hx
    clear hx
    obtain ⟨y, hy⟩ : ∃ x, ys[k]? = some x := ⟨_, List.getElem?_eq_getElem hkl2⟩
    obtain ⟨ad2, e'⟩ := el_some cl_Tx_len (by decide) (HR2.out _ S2.out.old) hkl2
    subst e'
    have HKy := Lib.hid (fun w' (h : Below w.heap.size w w') => el5 cl_Tx_len (HR2.out _ h) hy rfl)
    have HCy := Lib.hid hy
    clear hy
    obtain ⟨b, hb⟩ : ∃ b, f x y = b := ⟨_, rfl⟩
    have HEQ := fun w' (h : Below w.heap.size w w') => HP.out x (List.mem_of_getElem? HCx.out) y (List.mem_of_getElem? HCy.out) w' h
    rw [hb] at HEQ
    unfold vv_Tx at HEQ
    replace HEQ := Lib.hid HEQ
    have HBK := Lib.hid hb
    clear hb
    obtain ⟨f0, f1, f2, f3, f4⟩ := HKx.out _ S2.out.old
    obtain ⟨f5, f6, f7, f8, f9⟩ := HKy.out _ S2.out.old
    go_upto_region 6 with fail
    clear f0 f1 f2 f3 f4 f5 f6 f7 f8 f9
    have S3 := Lib.hid (show Sl.Sep w _ [_] from L4.push_box S2.out 161 #[.int .i64 x.f_Id, .slice x.f_Ops_a x.f_Ops.length x.f_Ops_c, .int .i64 x.f_At, .int .i64 x.f_State, .slice x.f_Backup_a x.f_Backup.length x.f_Backup_c] wr.heap.size rfl)
    clear S2
    obtain ⟨g1, hg⟩ : ∃ g', g' = wr.heap.size := ⟨_, rfl⟩
    rw [← hg] at S3 ⊢
    clear hg
    generalize wr.alloc (.cells #[.int .i64 x.f_Id, .slice x.f_Ops_a x.f_Ops.length x.f_Ops_c, .int .i64 x.f_At, .int .i64 x.f_State, .slice x.f_Backup_a x.f_Backup.length x.f_Backup_c] 161) = w1 at S3 ⊢
    obtain ⟨f0, f1, f2, f3, f4⟩ := Bag.cs5 S3.out 0 rfl
    obtain ⟨f5, f6, f7, f8, f9⟩ := HKx.out _ S3.out.old
    obtain ⟨f10, f11, f12, f13, f14⟩ := HKy.out _ S3.out.old
    go_upto_region 7 with fail
    clear f0 f1 f2 f3 f4 f5 f6 f7 f8 f9 f10 f11 f12 f13 f14
    have S4 := Lib.hid (show Sl.Sep w _ [_, _] from L4.push_box S3.out 161 #[.int .i64 y.f_Id, .slice y.f_Ops_a y.f_Ops.length y.f_Ops_c, .int .i64 y.f_At, .int .i64 y.f_State, .slice y.f_Backup_a y.f_Backup.length y.f_Backup_c] w1.heap.size rfl)
    clear S3
    obtain ⟨g2, hg⟩ : ∃ g', g' = w1.heap.size := ⟨_, rfl⟩
    rw [← hg] at S4 ⊢
    clear hg
    generalize w1.alloc (.cells #[.int .i64 y.f_Id, .slice y.f_Ops_a y.f_Ops.length y.f_Ops_c, .int .i64 y.f_At, .int .i64 y.f_State, .slice y.f_Backup_a y.f_Backup.length y.f_Backup_c] 161) = w2 at S4 ⊢
    obtain ⟨f0, f1, f2, f3, f4⟩ := Bag.cs5 S4.out 0 rfl
    obtain ⟨f5, f6, f7, f8, f9⟩ := Bag.cs5 S4.out 1 rfl
    obtain ⟨f10, f11, f12, f13, f14⟩ := HKx.out _ S4.out.old
    obtain ⟨f15, f16, f17, f18, f19⟩ := HKy.out _ S4.out.old
    go_wp2_with fail
    go_at_call 155
    refine (HEQ.out _ S4.out.old).mono ?_
    rintro e w3 ⟨rfl, hb⟩
    clear f0 f1 f2 f3 f4 f5 f6 f7 f8 f9 f10 f11 f12 f13 f14 f15 f16 f17 f18 f19
    have S5 := Lib.hid (S4.out.keep hb)
    clear S4
    clear hb
    obtain ⟨f0, f1, f2, f3, f4⟩ := Bag.cs5 S5.out 0 rfl
    obtain ⟨f5, f6, f7, f8, f9⟩ := Bag.cs5 S5.out 1 rfl
    obtain ⟨f10, f11, f12, f13, f14⟩ := HKx.out _ S5.out.old
    obtain ⟨f15, f16, f17, f18, f19⟩ := HKy.out _ S5.out.old
    cases b with
    | false =>
     have HV := Lib.hid (show be = false from by rw [← HB.out]; exact zip_no k (len_of HCx.out) (len_of HCy.out) (by rw [val_of HCx.out, val_of HCy.out]; exact HBK.out))
     go_wp2_with fail
     go_ret
     exact ⟨by rw [HV.out] <;> rfl, S5.out.old⟩
    | true =>
     clear f0 f1 f2 f3 f4 f5 f6 f7 f8 f9 f10 f11 f12 f13 f14 f15 f16 f17 f18 f19
     have S6 := Lib.hid (show Sl.Sep w _ [] from Bag.take S5.out [] (by rfl) (by decide))
     clear S5
     go_wp2_with fail
     go_roundw
     case rel => exact ⟨k + 1, by omega, by go_num, And.intro (fun j h1 h2 h => by
      by_cases e : j < k
      ·
       exact HA.out j h1 h2 e
      ·
       obtain rfl : j = k := by omega
       rw [val_of HCx.out, val_of HCy.out]; exact HBK.out) S6.out⟩
     case measure => simp [intOf]; omega
   ·
    skip
    have HV := Lib.hid (show be = true from by rw [← HB.out]; exact zip_yes (by rw [← HN.out, ← HN2.out]) (fun j h1 h2 => HA.out j h1 h2 (by have := HN.out; omega)))
    go_wp2_with fail
    go_ret
    exact ⟨by rw [HV.out] <;> rfl, S2.out.old⟩
 ·
  have hne : ((N : Int) == (N2 : Int)) = false := by simp; omega
  have hne2 : ¬ (N : Int) = (N2 : Int) := by omega
  go_enter Try.func154, Try.ntmps154
  have HV := Lib.hid (show be = false from by rw [← HB.out]; exact zip_len (by rw [← HN.out, ← HN2.out]; exact hN))
  go_wp2_with fail
  go_ret
  exact ⟨by rw [HV.out] <;> rfl, S1.out.old⟩
set_option maxHeartbeats 4000000 in
theorem equalQueues_any (a : Option Addr) (c : Nat) (ts : List Y_Tx) (hl : ts.length ≤ 1048576) (hf : ∀ t ∈ coS_Tx ts, FitT t) (a2 : Option Addr) (c2 : Nat) (ts2 : List Y_Tx) (hl2 : ts2.length ≤ 1048576) (hf2 : ∀ t ∈ coS_Tx ts2, FitT t) (w : World) (hr : Reads w w.heap.size a (ts.flatMap cl_Tx)) (hx : RowsRd w w.heap.size (rws_Tx ts)) (hr2 : Reads w w.heap.size a2 (ts2.flatMap cl_Tx)) (hx2 : RowsRd w w.heap.size (rws_Tx ts2)) :
  Calls Try.prog 76 #[.agg #[.slice a ts.length c], .agg #[.slice a2 ts2.length c2]] w fun e w' => e = .returned (.bool (eqTs (coS_Tx ts) (coS_Tx ts2))) ∧ Below w.heap.size w w' := by
 have HET := Lib.hid (fun w' (h : Below w.heap.size w w') => equalFunc_tx (fun x y => eqT (co_Tx x) (co_Tx y)) a c ts hl a2 c2 ts2 hl2 w' ((hr.below h).more h.size) ((hr2.below h).more h.size) (fun x hx' y hy' w2 h2 => by
  obtain ⟨j, hj, rfl⟩ := List.mem_iff_getElem.1 hx'
  obtain ⟨k, hk, rfl⟩ := List.mem_iff_getElem.1 hy'
  have h3 := h.trans (h2.mono h.size)
  exact equalTx_any _ _ (hf _ (List.mem_of_getElem? (coT_at (List.getElem?_eq_getElem hj)))) (hf2 _ (List.mem_of_getElem? (coT_at (List.getElem?_eq_getElem hk)))) w2 (rdTs ((hx.below h3).more h3.size) (List.getElem?_eq_getElem hj)) (rdTs ((hx2.below h3).more h3.size) (List.getElem?_eq_getElem hk))))
 obtain ⟨B, hB⟩ : ∃ b, eqTs (coS_Tx ts) (coS_Tx ts2) = b := ⟨_, rfl⟩
 replace HET := HET.out
 rw [show (ts.length == ts2.length && (ts.zip ts2).all fun p => eqT (co_Tx p.1) (co_Tx p.2)) = B from by rw [← hB]; unfold eqTs; rw [coS_Tx_eq, coS_Tx_eq, List.length_map, List.length_map, List.zip_map, List.all_map]; rfl] at HET
 rw [hB]
 replace HET := Lib.hid HET
 clear hB hr hr2 hx hx2 hf hf2
 have S1 := Lib.hid (show Sl.Sep w _ [_, _] from L4.push_box (L4.push_box (Sl.Sep.start w) 98 #[.slice a ts.length c] (w.heap.size) (by simp)) 98 #[.slice a2 ts2.length c2] (w.heap.size + 1) (by simp))
 obtain ⟨wa, hwa⟩ : ∃ w_, w_ = ((w.alloc (.cells #[.slice a ts.length c] 98)).alloc (.cells #[.slice a2 ts2.length c2] 98)) := ⟨_, rfl⟩
 rw [← hwa] at S1
 go_enter Try.func76, Try.ntmps76
 go_upto_region 1 with fail
 rw [← hwa]
 clear hwa
 have f0 := Bag.cs1 S1.out 0 rfl
 have f1 := Bag.cs1 S1.out 1 rfl
 go_wp2_with fail
 go_at_call 154
 refine (HET.out _ S1.out.old).mono ?_
 rintro e w1 ⟨rfl, hb⟩
 clear f0 f1
 have S2 := Lib.hid (S1.out.keep hb)
 clear S1
 clear hb
 have f0 := Bag.cs1 S2.out 0 rfl
 have f1 := Bag.cs1 S2.out 1 rfl
 go_wp2_with fail
 go_ret
 exact ⟨rfl, S2.out.old⟩
end Go.Proofs.Ytojcdmgcbgpdmaa.L10

