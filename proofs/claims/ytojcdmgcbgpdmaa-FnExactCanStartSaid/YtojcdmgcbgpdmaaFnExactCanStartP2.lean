/-
  What the law FnExactCanStart needs, laid by my program lawpack.py, part 2: the texts VTx, VTxQueue, Any, L10Num, VzOp, L9Fw, L10Fw, L9Sa, L10Sa, L9Ia, Vlg, L10Ia, one behind the other; each begins with its own words.
-/
import Derived.Test.YtojcdmgcbgpdmaaFnExactCanStartP1
set_option linter.unusedSimpArgs false
set_option linter.unusedVariables false
set_option maxRecDepth 100000
set_option linter.unusedSimpArgs false
namespace Go.Proofs.Ytojcdmgcbgpdmaa.V
open Go.ChangeShapes Go.WideShapes Go.ChangeAt Go.RowKit Mem Sl Sv Bag
open L5 (markT)
structure X_Tx where
 f_Id : Int
 f_Ops : List X_Op
 f_At : Int
 f_State : Int
 f_Backup : List L6.S6
structure Y_Tx where
 f_Id : Int
 f_Ops_a : Option Addr
 f_Ops_c : Nat
 f_Ops : List Y_Op
 f_At : Int
 f_State : Int
 f_Backup_a : Option Addr
 f_Backup_c : Nat
 f_Backup : List L6.LS
def co_Tx (z : Y_Tx) : X_Tx := ⟨z.f_Id, coS_Op z.f_Ops, z.f_At, z.f_State, coS_Store z.f_Backup⟩
def coS_Tx (xs : List Y_Tx) : List X_Tx := xs.map co_Tx
theorem coS_Tx_eq (xs : List Y_Tx) : coS_Tx xs = xs.map co_Tx := rfl
def cl_Tx (z : Y_Tx) : List Value := [.int .i64 z.f_Id, .slice z.f_Ops_a z.f_Ops.length z.f_Ops_c, .int .i64 z.f_At, .int .i64 z.f_State, .slice z.f_Backup_a z.f_Backup.length z.f_Backup_c]
def vv_Tx (z : Y_Tx) : Value := .agg #[.int .i64 z.f_Id, .slice z.f_Ops_a z.f_Ops.length z.f_Ops_c, .int .i64 z.f_At, .int .i64 z.f_State, .slice z.f_Backup_a z.f_Backup.length z.f_Backup_c]
def rw_Tx (z : Y_Tx) : List RowS := rs_Op z.f_Ops_a z.f_Ops_c z.f_Ops ++ (rs_Store z.f_Backup_a z.f_Backup_c z.f_Backup)
def wt_Tx (c : X_Tx) : Nat := wsum wt_Op c.f_Ops + (wsum wt_Store c.f_Backup)
theorem wt_Tx_parts (z : Y_Tx) : wt_Tx (co_Tx z) = wsum wt_Op (coS_Op z.f_Ops) + (wsum wt_Store (coS_Store z.f_Backup)) := rfl
theorem cl_Tx_len (z : Y_Tx) : (cl_Tx z).length = 5 := rfl
def row_Tx (a : Option Addr) (c : Nat) (xs : List Y_Tx) : RowS := ⟨161, 5, a, c, xs.length, xs.flatMap cl_Tx⟩
def rws_Tx (xs : List Y_Tx) : List RowS := xs.flatMap rw_Tx
theorem rws_Tx_eq (xs : List Y_Tx) : rws_Tx xs = xs.flatMap rw_Tx := rfl
def rs_Tx (a : Option Addr) (c : Nat) (xs : List Y_Tx) : List RowS := row_Tx a c xs :: rws_Tx xs
theorem rws_Tx_app (xs ys : List Y_Tx) : rws_Tx (xs ++ ys) = rws_Tx xs ++ rws_Tx ys := by rw [rws_Tx_eq, rws_Tx_eq, rws_Tx_eq, List.flatMap_append]
def Wide_Tx (z : Y_Tx) : Prop := (-9223372036854775808 ≤ z.f_Id ∧ z.f_Id ≤ 9223372036854775807) ∧ (z.f_Ops.length ≤ maxLen ∧ ∀ x ∈ z.f_Ops, Wide_Op x) ∧ (-9223372036854775808 ≤ z.f_At ∧ z.f_At ≤ 9223372036854775807) ∧ (-9223372036854775808 ≤ z.f_State ∧ z.f_State ≤ 9223372036854775807) ∧ (z.f_Backup.length ≤ maxLen ∧ ∀ x ∈ z.f_Backup, Wide_Store x)
section
variable {H : Type} {enc : TypeId × Value → H} {W : World} {b : Nat} {sp : Nat → Bool} {hd : Bool}
theorem trod_Tx {fuel : Nat} {cs : List Value} {x : DataW H × List MemPlace} (h : DataW.trod enc Try.prog W b sp hd fuel 211 cs = some x) (hlt : ∀ p ∈ x.2, p.block < W.heap.size) : ∃ z : Y_Tx, cs = cl_Tx z ∧ RowsRd W W.heap.size (rw_Tx z) ∧ Wide_Tx z := by
 obtain ⟨xs, n, _, hx, hl, hlen, hf⟩ := DataW.trod_struct Try.underlying211 h
 have hlN : cs.length = 5 := hl.trans (by kernel_rfl)
 match cs, hlN with
 | [c0, c1, c2, c3, c4], _ =>
  have h0 : DataW.trod enc Try.prog W b sp hd n 3 (List.take (Try.prog.cellsOf 3) (List.drop 0 [c0, c1, c2, c3, c4])) = xs[0]? := hf 0 _ rfl
  rw [show Try.prog.cellsOf 3 = 1 by kernel_rfl, List.getElem?_eq_getElem (by rw [hlen]; decide)] at h0
  obtain ⟨x0, e0, _, w0⟩ := DataW.trod_int Try.underlying3 h0
  have h1 : DataW.trod enc Try.prog W b sp hd n 78 (List.take (Try.prog.cellsOf 78) (List.drop 1 [c0, c1, c2, c3, c4])) = xs[1]? := hf 1 _ rfl
  rw [show Try.prog.cellsOf 78 = 1 by kernel_rfl, List.getElem?_eq_getElem (by rw [hlen]; decide)] at h1
  obtain ⟨a1, x1, c1', e1, r1, v1, l1, w1⟩ := trods_Op h1 (fun p hp => hlt p (by rw [hx]; exact List.mem_flatMap.2 ⟨_, List.getElem_mem (show 1 < xs.length by rw [hlen]; decide), hp⟩))
  have h2 : DataW.trod enc Try.prog W b sp hd n 3 (List.take (Try.prog.cellsOf 3) (List.drop 2 [c0, c1, c2, c3, c4])) = xs[2]? := hf 2 _ rfl
  rw [show Try.prog.cellsOf 3 = 1 by kernel_rfl, List.getElem?_eq_getElem (by rw [hlen]; decide)] at h2
  obtain ⟨x2, e2, _, w2⟩ := DataW.trod_int Try.underlying3 h2
  have h3 : DataW.trod enc Try.prog W b sp hd n 3 (List.take (Try.prog.cellsOf 3) (List.drop 3 [c0, c1, c2, c3, c4])) = xs[3]? := hf 3 _ rfl
  rw [show Try.prog.cellsOf 3 = 1 by kernel_rfl, List.getElem?_eq_getElem (by rw [hlen]; decide)] at h3
  obtain ⟨x3, e3, _, w3⟩ := DataW.trod_int Try.underlying3 h3
  have h4 : DataW.trod enc Try.prog W b sp hd n 209 (List.take (Try.prog.cellsOf 209) (List.drop 4 [c0, c1, c2, c3, c4])) = xs[4]? := hf 4 _ rfl
  rw [show Try.prog.cellsOf 209 = 1 by kernel_rfl, List.getElem?_eq_getElem (by rw [hlen]; decide)] at h4
  obtain ⟨a4, x4, c4', e4, r4, v4, l4, w4⟩ := trods_Store h4 (fun p hp => hlt p (by rw [hx]; exact List.mem_flatMap.2 ⟨_, List.getElem_mem (show 4 < xs.length by rw [hlen]; decide), hp⟩))
  simp only [List.drop_succ_cons, List.drop_zero, List.take_succ_cons, List.take_zero, List.cons.injEq, and_true] at e0
  subst e0
  simp only [List.drop_succ_cons, List.drop_zero, List.take_succ_cons, List.take_zero, List.cons.injEq, and_true] at e1
  subst e1
  simp only [List.drop_succ_cons, List.drop_zero, List.take_succ_cons, List.take_zero, List.cons.injEq, and_true] at e2
  subst e2
  simp only [List.drop_succ_cons, List.drop_zero, List.take_succ_cons, List.take_zero, List.cons.injEq, and_true] at e3
  subst e3
  simp only [List.drop_succ_cons, List.drop_zero, List.take_succ_cons, List.take_zero, List.cons.injEq, and_true] at e4
  subst e4
  exact ⟨⟨x0, a1, c1', x1, x2, x3, a4, c4', x4⟩, rfl, rd_app (rd_cons ⟨r1.1, r1.2.1, r1.2.2⟩ (by rw [rws_Op_eq]; exact v1)) (rd_cons ⟨r4.1, r4.2.1, r4.2.2⟩ (by rw [rws_Store_eq]; exact v4)), ⟨Law.wf_i64 w0, ⟨l1, w1⟩, Law.wf_i64 w2, Law.wf_i64 w3, ⟨l4, w4⟩⟩⟩
theorem trods_Tx {fuel : Nat} {cs : List Value} {x : DataW H × List MemPlace} (h : DataW.trod enc Try.prog W b sp hd fuel 92 cs = some x) (hlt : ∀ p ∈ x.2, p.block < W.heap.size) :
  ∃ (a : Option Addr) (xs : List Y_Tx) (c : Nat), cs = [.slice a xs.length c] ∧ (Reads W W.heap.size a (xs.flatMap cl_Tx) ∧ xs.length ≤ c ∧ (a = none → c = 0)) ∧ RowsRd W W.heap.size (xs.flatMap rw_Tx) ∧ xs.length ≤ maxLen ∧ ∀ z ∈ xs, Wide_Tx z :=
 trods cl_Tx 5 cl_Tx_len (by decide) rw_Tx Wide_Tx 92 211 Try.underlying92 (by kernel_rfl) (fun h hl => trod_Tx h hl) h hlt
end
set_option maxHeartbeats 4000000 in
theorem to_Tx (z : Y_Tx) (hf : wt_Tx (co_Tx z) ≤ 1048576) (w : World) (hr : RowsRd w w.heap.size (rw_Tx z)) : Calls Try.prog 194 #[vv_Tx z] w fun e w' => ∃ y : Y_Tx, e = .returned (vv_Tx y) ∧ co_Tx y = co_Tx z ∧ BagOwn w' w.heap.size (rw_Tx y) ∧ Below w.heap.size w w' := by
 have hfp := hf
 rw [wt_Tx_parts] at hfp
 have HC1 := Lib.hid (fun w' (h : Below w.heap.size w w') => to_OpS z.f_Ops_a z.f_Ops_c z.f_Ops (by omega) w' (((rd_head (rd_left hr)).reads.below h).more h.size) (((rd_tail (rd_left hr)).below h).more h.size))
 have HC4 := Lib.hid (fun w' (h : Below w.heap.size w w') => to_StoreS z.f_Backup_a z.f_Backup_c z.f_Backup (by omega) w' (((rd_head (rd_right hr)).reads.below h).more h.size) (((rd_tail (rd_right hr)).below h).more h.size))
 clear hfp hf hr
 unfold vv_Tx
 have S1 := Lib.hid (show Sl.Sep w _ [_, _] from L4.push_box (L4.push_box (Sl.Sep.start w) 211 #[.int .i64 z.f_Id, .slice z.f_Ops_a z.f_Ops.length z.f_Ops_c, .int .i64 z.f_At, .int .i64 z.f_State, .slice z.f_Backup_a z.f_Backup.length z.f_Backup_c] (w.heap.size) (by simp)) 161 #[.int .i64 0, .slice none 0 0, .int .i64 0, .int .i64 0, .slice none 0 0] (w.heap.size + 1) (by simp))
 obtain ⟨wa, hwa⟩ : ∃ w_, w_ = ((w.alloc (.cells #[.int .i64 z.f_Id, .slice z.f_Ops_a z.f_Ops.length z.f_Ops_c, .int .i64 z.f_At, .int .i64 z.f_State, .slice z.f_Backup_a z.f_Backup.length z.f_Backup_c] 211)).alloc (.cells #[.int .i64 0, .slice none 0 0, .int .i64 0, .int .i64 0, .slice none 0 0] 161)) := ⟨_, rfl⟩
 rw [← hwa] at S1
 go_enter Try.func194, Try.ntmps194
 go_upto_region 1 with fail
 rw [← hwa]
 clear hwa
 go_upto_region 2 with fail
 have S2 := Lib.hid (show Sl.Sep w _ [_, _, _] from L4.push_box S1.out 161 #[.int .i64 0, .slice none 0 0, .int .i64 0, .int .i64 0, .slice none 0 0] wa.heap.size rfl)
 clear S1
 obtain ⟨g1, hg⟩ : ∃ g', g' = wa.heap.size := ⟨_, rfl⟩
 rw [← hg] at S2 ⊢
 clear hg
 generalize wa.alloc (.cells #[.int .i64 0, .slice none 0 0, .int .i64 0, .int .i64 0, .slice none 0 0] 161) = w1 at S2 ⊢
 obtain ⟨f0, f1, f2, f3, f4⟩ := Bag.cs5 S2.out 0 rfl
 obtain ⟨f5, f6, f7, f8, f9⟩ := Bag.cs5 S2.out 2 rfl
 have z0 := Bag.free_at S2.out 2 rfl 0
 go_upto_region 3 with fail
 clear f0 f1 f2 f3 f4 f5 f6 f7 f8 f9 z0
 have S3 := Lib.hid (show Sl.Sep w _ [_, _, L4.boxR g1 161 #[.int .i64 z.f_Id, .slice none 0 0, .int .i64 0, .int .i64 0, .slice none 0 0]] from L5.put_box5 (S2.out) 2 rfl 0 (.int .i64 z.f_Id))
 clear S2
 obtain ⟨f0, f1, f2, f3, f4⟩ := Bag.cs5 S3.out 0 rfl
 go_wp2_with fail
 go_at_call 52
 refine (HC1.out _ S3.out.old).mono ?_
 rintro e w2 ⟨a1', c1', y1, rfl, hc1, ho, hb⟩
 clear f0 f1 f2 f3 f4
 have S4 := Lib.hid (show Sl.Sep w _ [_, _, _, Bag.bag (rs_Op a1' c1' y1)] from Bag.push_bag S3.out hb ho)
 clear S3
 clear hb ho
 have HQ1 := Lib.hid hc1
 clear hc1
 obtain ⟨f0, f1, f2, f3, f4⟩ := Bag.cs5 S4.out 0 rfl
 obtain ⟨f5, f6, f7, f8, f9⟩ := Bag.cs5 S4.out 2 rfl
 have z1 := Bag.free_at S4.out 2 rfl 1
 go_upto_region 4 with fail
 clear f0 f1 f2 f3 f4 f5 f6 f7 f8 f9 z1
 have S5 := Lib.hid (show Sl.Sep w _ [_, _, L4.boxR g1 161 #[.int .i64 z.f_Id, .slice a1' y1.length c1', .int .i64 0, .int .i64 0, .slice none 0 0], _] from L5.put_box5 (S4.out) 2 rfl 1 (.slice a1' y1.length c1'))
 clear S4
 obtain ⟨f0, f1, f2, f3, f4⟩ := Bag.cs5 S5.out 0 rfl
 obtain ⟨f5, f6, f7, f8, f9⟩ := Bag.cs5 S5.out 2 rfl
 have z2 := Bag.free_at S5.out 2 rfl 2
 go_upto_region 5 with fail
 clear f0 f1 f2 f3 f4 f5 f6 f7 f8 f9 z2
 have S6 := Lib.hid (show Sl.Sep w _ [_, _, L4.boxR g1 161 #[.int .i64 z.f_Id, .slice a1' y1.length c1', .int .i64 z.f_At, .int .i64 0, .slice none 0 0], _] from L5.put_box5 (S5.out) 2 rfl 2 (.int .i64 z.f_At))
 clear S5
 obtain ⟨f0, f1, f2, f3, f4⟩ := Bag.cs5 S6.out 0 rfl
 obtain ⟨f5, f6, f7, f8, f9⟩ := Bag.cs5 S6.out 2 rfl
 have z3 := Bag.free_at S6.out 2 rfl 3
 go_upto_region 6 with fail
 clear f0 f1 f2 f3 f4 f5 f6 f7 f8 f9 z3
 have S7 := Lib.hid (show Sl.Sep w _ [_, _, L4.boxR g1 161 #[.int .i64 z.f_Id, .slice a1' y1.length c1', .int .i64 z.f_At, .int .i64 z.f_State, .slice none 0 0], _] from L5.put_box5 (S6.out) 2 rfl 3 (.int .i64 z.f_State))
 clear S6
 obtain ⟨f0, f1, f2, f3, f4⟩ := Bag.cs5 S7.out 0 rfl
 go_wp2_with fail
 go_at_call 227
 refine (HC4.out _ S7.out.old).mono ?_
 rintro e w3 ⟨a4', c4', y4, rfl, hc4, ho, hb⟩
 clear f0 f1 f2 f3 f4
 have S8 := Lib.hid (show Sl.Sep w _ [_, _, _, _, Bag.bag (rs_Store a4' c4' y4)] from Bag.push_bag S7.out hb ho)
 clear S7
 clear hb ho
 have HQ4 := Lib.hid hc4
 clear hc4
 obtain ⟨f0, f1, f2, f3, f4⟩ := Bag.cs5 S8.out 0 rfl
 obtain ⟨f5, f6, f7, f8, f9⟩ := Bag.cs5 S8.out 2 rfl
 have z4 := Bag.free_at S8.out 2 rfl 4
 go_upto_region 7 with fail
 clear f0 f1 f2 f3 f4 f5 f6 f7 f8 f9 z4
 have S9 := Lib.hid (show Sl.Sep w _ [_, _, L4.boxR g1 161 #[.int .i64 z.f_Id, .slice a1' y1.length c1', .int .i64 z.f_At, .int .i64 z.f_State, .slice a4' y4.length c4'], _, _] from L5.put_box5 (S8.out) 2 rfl 4 (.slice a4' y4.length c4'))
 clear S8
 obtain ⟨f0, f1, f2, f3, f4⟩ := Bag.cs5 S9.out 1 rfl
 obtain ⟨f5, f6, f7, f8, f9⟩ := Bag.cs5 S9.out 2 rfl
 obtain ⟨z0, z1, z2, z3, z4⟩ := Bag.fs5 S9.out 1 rfl
 go_wp2_with fail
 clear f0 f1 f2 f3 f4 f5 f6 f7 f8 f9 z0 z1 z2 z3 z4
 have S10 := Lib.hid (show Sl.Sep w _ [_, L4.boxR (w.heap.size + 1) 161 #[.int .i64 z.f_Id, .slice a1' y1.length c1', .int .i64 z.f_At, .int .i64 z.f_State, .slice none 0 0], _, _, _] from L5.put_box5 (L5.put_box5 (L5.put_box5 (L5.put_box5 (S9.out) 1 rfl 0 (.int .i64 z.f_Id)) 1 rfl 1 (.slice a1' y1.length c1')) 1 rfl 2 (.int .i64 z.f_At)) 1 rfl 3 (.int .i64 z.f_State))
 clear S9
 have S11 := Lib.hid (show Sl.Sep w _ [_, L4.boxR (w.heap.size + 1) 161 #[.int .i64 z.f_Id, .slice a1' y1.length c1', .int .i64 z.f_At, .int .i64 z.f_State, .slice a4' y4.length c4'], _, _, _] from L5.put_box5 (S10.out) 1 rfl 4 (.slice a4' y4.length c4'))
 clear S10
 obtain ⟨f0, f1, f2, f3, f4⟩ := Bag.cs5 S11.out 1 rfl
 refine bodyPost_ret (v := .agg #[.int .i64 z.f_Id, .slice a1' y1.length c1', .int .i64 z.f_At, .int .i64 z.f_State, .slice a4' y4.length c4']) (by simp [results, Try.results194, go_sem, *]) rfl ?_
 clear f0 f1 f2 f3 f4
 have S12 := Lib.hid (show Sl.Sep w _ [_, _, _, Bag.bag ((rs_Op a1' c1' y1) ++ (rs_Store a4' c4' y4)), Bag.bag ([])] from Bag.bag_join S11.out 3 4 (by decide) rfl rfl)
 clear S11
 refine ⟨⟨z.f_Id, a1', c1', y1, z.f_At, z.f_State, a4', c4', y4⟩, rfl, ?_, Bag.bag_from S12.out 3 rfl, S12.out.old⟩
 show (⟨z.f_Id, coS_Op y1, z.f_At, z.f_State, coS_Store y4⟩ : X_Tx) = (⟨z.f_Id, coS_Op z.f_Ops, z.f_At, z.f_State, coS_Store z.f_Backup⟩ : X_Tx)
 rw [HQ1.out, HQ4.out]
theorem info_Tx : ∃ i, Try.prog.info? 161 = some i ∧ i.zero = some (.agg #[.int .i64 0, .slice none 0 0, .int .i64 0, .int .i64 0, .slice none 0 0]) ∧ i.size = 5 ∧ i.bytes = 72 := Ex.infoOf _ _ _ _ (by kernel_rfl)
set_option maxHeartbeats 4000000 in
theorem to_TxS (a : Option Addr) (c : Nat) (xs : List Y_Tx) (hf : wsum wt_Tx (coS_Tx xs) ≤ 1048576) (w : World) (hr : Reads w w.heap.size a (xs.flatMap cl_Tx)) (hx : RowsRd w w.heap.size (rws_Tx xs)) :
  Calls Try.prog 137 #[.slice a xs.length c] w fun e w' => ∃ a' c' ys, e = .returned (.slice a' ys.length c') ∧ coS_Tx ys = coS_Tx xs ∧ BagOwn w' w.heap.size (rs_Tx a' c' ys) ∧ Below w.heap.size w w' := by
 obtain ⟨i0, hi1, hi2, hi3, hi4⟩ := info_Tx
 have HI := Lib.hid (And.intro hi1 (And.intro hi2 (And.intro hi3 hi4)))
 clear hi1 hi2 hi3 hi4
 rw [coS_Tx_eq] at hf
 have HR := Lib.hid (fun w' (h : Below w.heap.size w w') => hr.below h)
 have HX := Lib.hid (fun w' (h : Below w.heap.size w w') => (hx.below h).more h.size)
 have HF := Lib.hid hf
 have hl : xs.length ≤ 1048576 := by have := wsum_len wt_Tx (xs.map co_Tx); rw [List.length_map] at this; omega
 obtain ⟨N, hN⟩ : ∃ n, n = xs.length := ⟨_, rfl⟩
 rw [← hN] at hl ⊢
 have hl' : (N : Int) ≤ 1048576 := by omega
 have HN := Lib.hid hN
 clear hN hr hx hf
 obtain ⟨Z, hZ⟩ : ∃ Z, Z = (madeCells (Value.agg #[.int .i64 0, .slice none 0 0, .int .i64 0, .int .i64 0, .slice none 0 0]).cells (N * 5)).toList := ⟨_, rfl⟩
 have HZ := Lib.hid (show Z.length = N * 5 by rw [hZ]; simp [madeCells])
 have HZD := Lib.hid hZ
 clear hZ
 have S1 := Lib.hid (show Sl.Sep w w [] from Sl.Sep.start w)
 go_enter Try.func137, Try.ntmps137
 go_upto_region 2 with (at_make; refine Run.wpList_make_s S1.out rfl _ _ 96 rfl 161 i0 (.agg #[.int .i64 0, .slice none 0 0, .int .i64 0, .int .i64 0, .slice none 0 0]) 5 Try.underlying96 HI.out.1 HI.out.2.1 HI.out.2.2.1 _ _ N rfl rfl (by rw [HI.out.2.2.2]; omega) (by unfold maxLen; omega) ?_; intro w1 S')
 obtain ⟨g1, hg⟩ : ∃ g', g' = w.heap.size := ⟨_, rfl⟩
 rw [← hg] at S' ⊢
 clear hg
 have S2 := Lib.hid (show Sl.Sep w _ [Sv.ownV 161 5 (some ⟨g1, 0, none⟩) N N (([] : List Y_Tx).flatMap cl_Tx ++ Z)] from (by have h := S'; rw [← HZD.out] at h; exact h))
 clear S1
 clear S'
 have S3 := Lib.hid (show Sl.Sep w _ [_, Bag.bag (rws_Tx [])] from Bag.push_bag S2.out (Below.refl _ _) (by rw [rws_Tx_eq]; exact Bag.BagOwn.nil _ _))
 clear S2
 go_wp2_with fail
 go_loopw [4] (fun i wr => ∃ (k : Nat) (ys : List Y_Tx) (Zs : List Value), k ≤ N ∧ i = .int .i64 k ∧ Hid ((ys.map co_Tx = (xs.take k).map co_Tx ∧ ys.length = k ∧ Zs.length = (N - k) * 5) ∧ Sl.Sep w wr [Sv.ownV 161 5 (some ⟨g1, 0, none⟩) N N (ys.flatMap cl_Tx ++ Zs), Bag.bag (rws_Tx ys)])) (fun i _ => N - (intOf i).toNat)
 case atStart => exact ⟨0, [], Z, Nat.zero_le _, rfl, And.intro ⟨rfl, rfl, HZ.out⟩ S3.out⟩
 case round =>
  obtain ⟨k, ys, Zs, hk, rfl, hrel⟩ := hrel
  have HC := Lib.hid hrel.out.1
  have S4 := Lib.hid hrel.out.2
  clear hrel S3
  by_cases hlt : (k : Int) < (N : Int)
  ·
   skip
   have hkl : k < xs.length := by have := HN.out; omega
   obtain ⟨x, hx⟩ : ∃ x, xs[k]? = some x := ⟨_, List.getElem?_eq_getElem hkl⟩
   obtain ⟨ad, e'⟩ := el_some cl_Tx_len (by decide) (HR.out _ S4.out.old) hkl
   subst e'
   have HK := Lib.hid (fun w' (h : Below w.heap.size w w') => el5 cl_Tx_len (HR.out _ h) hx rfl)
   have HTX := Lib.hid (take_next hx)
   have HL := Lib.hid (show (ys.flatMap cl_Tx).length = k * 5 ∧ k * 5 + 5 ≤ (ys.flatMap cl_Tx ++ Zs).length ∧ 5 ≤ Zs.length from by have h1 := HC.out.2.1; have h2 := HC.out.2.2; rw [List.length_append, flat_len cl_Tx_len, h1, h2]; omega)
   have HCI := Lib.hid (fun w' (h : Below w.heap.size w w') => to_Tx x (by have h1 := wsum_mem (f := wt_Tx) (List.mem_map.2 ⟨x, List.mem_of_getElem? hx, rfl⟩ : co_Tx x ∈ xs.map co_Tx); have h2 := HF.out; omega) w' (rd_el (rw_ := rw_Tx) (by rw [← rws_Tx_eq]; exact HX.out w' h) hx))
   dsimp only [vv_Tx] at HCI
   clear hx
   obtain ⟨f0, f1, f2, f3, f4⟩ := HK.out _ S4.out.old
   go_wp2_with fail
   go_at_call 194
   refine (HCI.out _ S4.out.old).mono ?_
   rintro e w2 ⟨y, rfl, hcy, ho, hb⟩
   clear f0 f1 f2 f3 f4
   have S5 := Lib.hid (show Sl.Sep w _ [Sv.ownV 161 5 (some ⟨g1, 0, none⟩) N N (ys.flatMap cl_Tx ++ Zs), Bag.bag (rws_Tx ys), Bag.bag (rw_Tx y)] from Bag.push_bag S4.out hb ho)
   clear S4
   clear hb ho
   have HCY := Lib.hid hcy
   clear hcy
   try dsimp only [vv_Tx]
   have q0 := (Sv.own_at S5.out 0 rfl).cell (k * 5) (by have := HL.out.2.1; omega)
   have z0 := (Sv.own_at S5.out 0 rfl).free (k * 5)
   have q1 := (Sv.own_at S5.out 0 rfl).cell (k * 5 + 1) (by have := HL.out.2.1; omega)
   have z1 := (Sv.own_at S5.out 0 rfl).free (k * 5 + 1)
   have q2 := (Sv.own_at S5.out 0 rfl).cell (k * 5 + 2) (by have := HL.out.2.1; omega)
   have z2 := (Sv.own_at S5.out 0 rfl).free (k * 5 + 2)
   have q3 := (Sv.own_at S5.out 0 rfl).cell (k * 5 + 3) (by have := HL.out.2.1; omega)
   have z3 := (Sv.own_at S5.out 0 rfl).free (k * 5 + 3)
   have q4 := (Sv.own_at S5.out 0 rfl).cell (k * 5 + 4) (by have := HL.out.2.1; omega)
   have z4 := (Sv.own_at S5.out 0 rfl).free (k * 5 + 4)
   go_wp2_with fail
   clear q0 z0 q1 z1 q2 z2 q3 z3 q4 z4
   have S6 := Lib.hid (show Sl.Sep w (World.setCells w2 g1 (k * 5) [.int .i64 y.f_Id, .slice y.f_Ops_a y.f_Ops.length y.f_Ops_c, .int .i64 y.f_At, .int .i64 y.f_State, .slice y.f_Backup_a y.f_Backup.length y.f_Backup_c]) [Sv.ownV 161 5 (some ⟨g1, 0, none⟩) N N ((ys ++ [y]).flatMap cl_Tx ++ Zs.drop 5), Bag.bag (rws_Tx ys), Bag.bag (rw_Tx y)] from (by have h := Run.put_run S5.out 0 rfl (k * 5) [.int .i64 y.f_Id, .slice y.f_Ops_a y.f_Ops.length y.f_Ops_c, .int .i64 y.f_At, .int .i64 y.f_State, .slice y.f_Backup_a y.f_Backup.length y.f_Backup_c] (by have := HL.out.2.1; simpa using this); rw [Run.over_at _ _ _ _ HL.out.1 (by have := HL.out.2.2; simpa using this)] at h; rw [List.flatMap_append, List.append_assoc]; exact h))
   clear S5
   have S7 := Lib.hid (show Sl.Sep w _ [Sv.ownV 161 5 (some ⟨g1, 0, none⟩) N N ((ys ++ [y]).flatMap cl_Tx ++ Zs.drop 5), Bag.bag (rws_Tx ys ++ (rw_Tx y)), Bag.bag ([])] from Bag.bag_join S6.out 1 2 (by decide) rfl rfl)
   clear S6
   have S8 := Lib.hid (show Sl.Sep w _ [_, _] from Bag.take S7.out [0, 1] (by rfl) (by decide))
   clear S7
   go_roundw
   case rel =>
    refine ⟨k + 1, ys ++ [y], Zs.drop 5, by omega, by go_num, And.intro ⟨?_, ?_, ?_⟩ ?_⟩
    ·
     rw [HTX.out, List.map_append, List.map_append, HC.out.1]; rw [show [y].map co_Tx = [x].map co_Tx from congrArg (fun u => [u]) HCY.out]
    ·
     rw [List.length_append, HC.out.2.1]; rfl
    ·
     rw [List.length_drop, HC.out.2.2]; omega
    ·
     rw [rws_Tx_app]; rw [show rws_Tx [y] = rw_Tx y from by rw [rws_Tx_eq]; simp]; exact S8.out
   case measure => simp [intOf]; omega
  ·
   skip
   obtain rfl : k = N := by omega
   go_wp2_with fail
   go_ret
   obtain ⟨hc1, hc2, hc3⟩ := HC.out
   have hZs : Zs = [] := List.eq_nil_of_length_eq_zero (by rw [hc3]; omega)
   have hcon : ys.map co_Tx = xs.map co_Tx := by rw [hc1, List.take_of_length_le (by have := HN.out; omega)]
   have S90 := Lib.hid (Bag.bag_of_one S4.out 0 (r := row_Tx (some ⟨g1, 0, none⟩) k ys) (by unfold RowS.res row_Tx; dsimp only; rw [hZs, List.append_nil, hc2]; rfl))
   have S91 := Lib.hid (Bag.bag_join S90.out 0 1 (by decide) rfl rfl)
   have hb := Bag.bag_from S91.out 0 rfl
   subst hc2
   exact ⟨_, _, ys, rfl, by rw [coS_Tx_eq, coS_Tx_eq]; exact hcon, hb, S91.out.old⟩
set_option maxHeartbeats 4000000 in
theorem sz_Tx (z : Y_Tx) (q : Int) (hw : Wide_Tx z) (hq0 : -1 ≤ q) (hq1 : q ≤ 1048576) (w : World) (hr : RowsRd w w.heap.size (rw_Tx z)) : Calls Try.prog 192 #[vv_Tx z, .int .i64 q] w fun e w' => e = .returned (.int .i64 (lft q (wt_Tx (co_Tx z)))) ∧ Below w.heap.size w w' := by
 have HS1 := Lib.hid (fun (m : Int) (h0 : -1 ≤ m) (h1 : m ≤ 1048576) w' (h : Below w.heap.size w w') => sz_OpS z.f_Ops_a z.f_Ops_c z.f_Ops m hw.2.1.2 hw.2.1.1 h0 h1 w' (((rd_head (rd_left hr)).reads.below h).more h.size) (((rd_tail (rd_left hr)).below h).more h.size))
 have HS4 := Lib.hid (fun (m : Int) (h0 : -1 ≤ m) (h1 : m ≤ 1048576) w' (h : Below w.heap.size w w') => sz_StoreS z.f_Backup_a z.f_Backup_c z.f_Backup m hw.2.2.2.2.2 hw.2.2.2.2.1 h0 h1 w' (((rd_head (rd_right hr)).reads.below h).more h.size) (((rd_tail (rd_right hr)).below h).more h.size))
 have HW := Lib.hid (wt_Tx_parts z)
 clear hw hr
 unfold vv_Tx
 have S1 := Lib.hid (show Sl.Sep w _ [_] from L4.push_box (Sl.Sep.start w) 211 #[.int .i64 z.f_Id, .slice z.f_Ops_a z.f_Ops.length z.f_Ops_c, .int .i64 z.f_At, .int .i64 z.f_State, .slice z.f_Backup_a z.f_Backup.length z.f_Backup_c] (w.heap.size) (by simp))
 obtain ⟨wa, hwa⟩ : ∃ w_, w_ = (w.alloc (.cells #[.int .i64 z.f_Id, .slice z.f_Ops_a z.f_Ops.length z.f_Ops_c, .int .i64 z.f_At, .int .i64 z.f_State, .slice z.f_Backup_a z.f_Backup.length z.f_Backup_c] 211)) := ⟨_, rfl⟩
 rw [← hwa] at S1
 go_enter Try.func192, Try.ntmps192
 go_upto_region 1 with fail
 rw [← hwa]
 clear hwa
 obtain ⟨f0, f1, f2, f3, f4⟩ := Bag.cs5 S1.out 0 rfl
 obtain ⟨u1, hu⟩ : ∃ u, lft q (wsum wt_Op (coS_Op z.f_Ops)) = u := ⟨_, rfl⟩
 have hc1 := lft_cases hu
 have hr1 := lft_range (q := q) (wsum wt_Op (coS_Op z.f_Ops)) (by omega)
 rw [hu] at hr1
 have HCU := HS1.out q (by omega) (by omega)
 simp only [hu] at HCU
 replace HCU := Lib.hid HCU
 clear hu
 go_wp2_with fail
 go_at_call 50
 refine (HCU.out _ S1.out.old).mono ?_
 rintro e w1 ⟨rfl, hb⟩
 clear f0 f1 f2 f3 f4
 have S2 := Lib.hid (S1.out.keep hb)
 clear S1
 clear hb
 obtain ⟨f0, f1, f2, f3, f4⟩ := Bag.cs5 S2.out 0 rfl
 clear HCU
 by_cases hn1 : u1 < 0
 ·
  have hm1 : u1 = -1 := by omega
  subst hm1
  go_wp2_with fail
  go_ret
  exact ⟨by rw [HW.out, lft_neg (by omega)] <;> rfl, S2.out.old⟩
 ·
  skip
  obtain ⟨u4, hu⟩ : ∃ u, lft u1 (wsum wt_Store (coS_Store z.f_Backup)) = u := ⟨_, rfl⟩
  have hc4 := lft_cases hu
  have hr4 := lft_range (q := u1) (wsum wt_Store (coS_Store z.f_Backup)) (by omega)
  rw [hu] at hr4
  have HCU := HS4.out u1 (by omega) (by omega)
  simp only [hu] at HCU
  replace HCU := Lib.hid HCU
  clear hu
  go_wp2_with fail
  go_at_call 226
  refine (HCU.out _ S2.out.old).mono ?_
  rintro e w2 ⟨rfl, hb⟩
  clear f0 f1 f2 f3 f4
  have S3 := Lib.hid (S2.out.keep hb)
  clear S2
  clear hb
  obtain ⟨f0, f1, f2, f3, f4⟩ := Bag.cs5 S3.out 0 rfl
  clear HCU
  by_cases hn4 : u4 < 0
  ·
   have hm1 : u4 = -1 := by omega
   subst hm1
   go_wp2_with fail
   go_ret
   exact ⟨by rw [HW.out, lft_neg (by omega)] <;> rfl, S3.out.old⟩
  ·
   skip
   go_wp2_with fail
   go_ret
   exact ⟨by rw [HW.out, lft_pos (by omega)] <;> first | rfl | (refine congrArg (fun i => Ending.returned (.int .i64 i)) ?_; omega), S3.out.old⟩
set_option maxHeartbeats 4000000 in
theorem sz_TxS (a : Option Addr) (c : Nat) (xs : List Y_Tx) (q : Int) (hw : ∀ x ∈ xs, Wide_Tx x) (hm : xs.length ≤ maxLen) (hq0 : -1 ≤ q) (hq1 : q ≤ 1048576) (w : World) (hr : Reads w w.heap.size a (xs.flatMap cl_Tx)) (hx : RowsRd w w.heap.size (rws_Tx xs)) :
  Calls Try.prog 134 #[.slice a xs.length c, .int .i64 q] w fun e w' => e = .returned (.int .i64 (lft q (wsum wt_Tx (coS_Tx xs)))) ∧ Below w.heap.size w w' := by
 have HR := Lib.hid (fun w' (h : Below w.heap.size w w') => hr.below h)
 have HX := Lib.hid (fun w' (h : Below w.heap.size w w') => (hx.below h).more h.size)
 have HWD := Lib.hid hw
 have HW := Lib.hid (show wsum wt_Tx (coS_Tx xs) = xs.length + fsum (fun x => wt_Tx (co_Tx x)) xs from by rw [coS_Tx_eq, wsum_map])
 obtain ⟨N, hN⟩ : ∃ n, n = xs.length := ⟨_, rfl⟩
 rw [← hN] at hm HW ⊢
 have HN := Lib.hid hN
 have hm' : (N : Int) ≤ 9223372036854775807 := by unfold maxLen at hm; omega
 clear hN hr hx hw hm
 have S1 := Lib.hid (show Sl.Sep w w [] from Sl.Sep.start w)
 by_cases hneg : q - (N : Int) < 0
 ·
  skip
  go_enter Try.func134, Try.ntmps134
  go_wp2_with fail
  go_ret
  exact ⟨by rw [HW.out, lft_neg (by omega)] <;> rfl, Below.refl _ _⟩
 ·
  skip
  go_enter Try.func134, Try.ntmps134
  go_wp2_with fail
  go_loopw [1, 5] (fun lv i wr => ∃ (k : Nat) (m : Int), k ≤ N ∧ i = .int .i64 k ∧ lv = .int .i64 m ∧ 0 ≤ m ∧ m ≤ 1048576 ∧ Hid (m = q - N - (fsum (fun x => wt_Tx (co_Tx x)) (xs.take k) : Int) ∧ Sl.Sep w wr [])) (fun _ i _ => N - (intOf i).toNat)
  case atStart => exact ⟨0, q - N, Nat.zero_le _, rfl, rfl, by omega, by omega, And.intro (by rw [List.take_zero, fsum_nil]; omega) S1.out⟩
  case round =>
   obtain ⟨k, m, hk, rfl, rfl, hm0, hm1, hrel⟩ := hrel
   have HA := Lib.hid hrel.out.1
   have S2 := Lib.hid hrel.out.2
   clear hrel S1
   by_cases hlt : (k : Int) < (N : Int)
   ·
    skip
    have hkl : k < xs.length := by have := HN.out; omega
    obtain ⟨x, hx⟩ : ∃ x, xs[k]? = some x := ⟨_, List.getElem?_eq_getElem hkl⟩
    obtain ⟨ad, e'⟩ := el_some cl_Tx_len (by decide) (HR.out _ S2.out.old) (List.getElem?_eq_some_iff.1 hx).1
    subst e'
    have HK := Lib.hid (fun w' (h : Below w.heap.size w w') => el5 cl_Tx_len (HR.out _ h) hx rfl)
    have HAT := Lib.hid (fsum_at (f := (fun x => wt_Tx (co_Tx x))) hx)
    have HTK := Lib.hid (fsum_take (f := (fun x => wt_Tx (co_Tx x))) hx)
    try dsimp only at HAT HTK
    obtain ⟨fx, hfx⟩ : ∃ u, wt_Tx (co_Tx x) = u := ⟨_, rfl⟩
    rw [hfx] at HAT HTK
    obtain ⟨u, hu⟩ : ∃ u, lft m fx = u := ⟨_, rfl⟩
    have hcu := lft_cases hu
    have hru := lft_range (q := m) fx (by omega)
    rw [hu] at hru
    have HSI := fun w' (h : Below w.heap.size w w') => sz_Tx x m (HWD.out x (List.mem_of_getElem? hx)) (by omega) hm1 w' (rd_el (rw_ := rw_Tx) (by rw [← rws_Tx_eq]; exact HX.out w' h) hx)
    rw [hfx, hu] at HSI
    dsimp only [vv_Tx] at HSI
    replace HSI := Lib.hid HSI
    clear hfx hu hx
    obtain ⟨f0, f1, f2, f3, f4⟩ := HK.out _ S2.out.old
    go_wp2_with fail
    go_at_call 192
    refine (HSI.out _ S2.out.old).mono ?_
    rintro e w1 ⟨rfl, hb⟩
    clear f0 f1 f2 f3 f4
    have S3 := Lib.hid (S2.out.keep hb)
    clear S2
    clear hb
    by_cases h0 : u < 0
    ·
     have hm1' : u = -1 := by omega
     subst hm1'
     go_wp2_with fail
     go_ret
     exact ⟨by rw [HW.out, lft_neg (by have := HA.out; have := HAT.out; omega)] <;> rfl, S3.out.old⟩
    ·
     skip
     go_wp2_with fail
     go_roundw
     case rel => exact ⟨k + 1, u, by omega, by go_num, rfl, by omega, by omega, And.intro (by rw [HTK.out]; have := HA.out; omega) S3.out⟩
     case measure => simp [intOf]; omega
   ·
    skip
    obtain rfl : k = N := by omega
    have HT := HA.out
    rw [List.take_of_length_le (Nat.le_of_eq HN.out.symm)] at HT
    go_wp2_with fail
    go_ret
    exact ⟨by rw [HW.out, lft_pos (by omega)] <;> first | rfl | (refine congrArg (fun i => Ending.returned (.int .i64 i)) ?_; omega), S2.out.old⟩
set_option maxHeartbeats 4000000 in
theorem eq_Tx (y z : Y_Tx) (hc : co_Tx y = co_Tx z) (hf : wt_Tx (co_Tx y) ≤ 1125899906842624) (w : World) (hr : RowsRd w w.heap.size (rw_Tx y)) (hr2 : RowsRd w w.heap.size (rw_Tx z)) : Calls Try.prog 197 #[vv_Tx y, vv_Tx z] w fun e w' => e = .returned (.bool true) ∧ Below w.heap.size w w' := by
 have hfp := hf
 rw [wt_Tx_parts] at hfp
 have ee0 : z.f_Id = y.f_Id := (show y.f_Id = z.f_Id from congrArg X_Tx.f_Id (hc)).symm
 have ee1 : z.f_Ops.length = y.f_Ops.length := (by have h := congrArg List.length (show coS_Op y.f_Ops = coS_Op z.f_Ops from congrArg X_Tx.f_Ops (hc)); rw [coS_Op_eq, coS_Op_eq, List.length_map, List.length_map] at h; exact h.symm)
 have ee2 : z.f_At = y.f_At := (show y.f_At = z.f_At from congrArg X_Tx.f_At (hc)).symm
 have ee3 : z.f_State = y.f_State := (show y.f_State = z.f_State from congrArg X_Tx.f_State (hc)).symm
 have ee4 : z.f_Backup.length = y.f_Backup.length := (by have h := congrArg List.length (show coS_Store y.f_Backup = coS_Store z.f_Backup from congrArg X_Tx.f_Backup (hc)); rw [coS_Store_eq, coS_Store_eq, List.length_map, List.length_map] at h; exact h.symm)
 have HE1 := Lib.hid (fun w' (h : Below w.heap.size w w') => eq_OpS y.f_Ops_a z.f_Ops_a y.f_Ops_c z.f_Ops_c y.f_Ops z.f_Ops (congrArg X_Tx.f_Ops hc) (by omega) w' (((rd_head (rd_left hr)).reads.below h).more h.size) (((rd_tail (rd_left hr)).below h).more h.size) (((rd_head (rd_left hr2)).reads.below h).more h.size) (((rd_tail (rd_left hr2)).below h).more h.size))
 simp only [ee0, ee1, ee2, ee3, ee4] at HE1
 have HE4 := Lib.hid (fun w' (h : Below w.heap.size w w') => eq_StoreS y.f_Backup_a z.f_Backup_a y.f_Backup_c z.f_Backup_c y.f_Backup z.f_Backup (congrArg X_Tx.f_Backup hc) (by omega) w' (((rd_head (rd_right hr)).reads.below h).more h.size) (((rd_tail (rd_right hr)).below h).more h.size) (((rd_head (rd_right hr2)).reads.below h).more h.size) (((rd_tail (rd_right hr2)).below h).more h.size))
 simp only [ee0, ee1, ee2, ee3, ee4] at HE4
 have hv : vv_Tx z = .agg #[.int .i64 y.f_Id, .slice z.f_Ops_a y.f_Ops.length z.f_Ops_c, .int .i64 y.f_At, .int .i64 y.f_State, .slice z.f_Backup_a y.f_Backup.length z.f_Backup_c] := by unfold vv_Tx; simp only [ee0, ee1, ee2, ee3, ee4]
 rw [hv]
 clear hv hfp hf hc hr hr2 ee0 ee1 ee2 ee3 ee4
 unfold vv_Tx
 have S1 := Lib.hid (show Sl.Sep w _ [_, _] from L4.push_box (L4.push_box (Sl.Sep.start w) 161 #[.int .i64 y.f_Id, .slice y.f_Ops_a y.f_Ops.length y.f_Ops_c, .int .i64 y.f_At, .int .i64 y.f_State, .slice y.f_Backup_a y.f_Backup.length y.f_Backup_c] (w.heap.size) (by simp)) 161 #[.int .i64 y.f_Id, .slice z.f_Ops_a y.f_Ops.length z.f_Ops_c, .int .i64 y.f_At, .int .i64 y.f_State, .slice z.f_Backup_a y.f_Backup.length z.f_Backup_c] (w.heap.size + 1) (by simp))
 obtain ⟨wa, hwa⟩ : ∃ w_, w_ = ((w.alloc (.cells #[.int .i64 y.f_Id, .slice y.f_Ops_a y.f_Ops.length y.f_Ops_c, .int .i64 y.f_At, .int .i64 y.f_State, .slice y.f_Backup_a y.f_Backup.length y.f_Backup_c] 161)).alloc (.cells #[.int .i64 y.f_Id, .slice z.f_Ops_a y.f_Ops.length z.f_Ops_c, .int .i64 y.f_At, .int .i64 y.f_State, .slice z.f_Backup_a y.f_Backup.length z.f_Backup_c] 161)) := ⟨_, rfl⟩
 rw [← hwa] at S1
 go_enter Try.func197, Try.ntmps197
 go_upto_region 1 with fail
 rw [← hwa]
 clear hwa
 obtain ⟨f0, f1, f2, f3, f4⟩ := Bag.cs5 S1.out 0 rfl
 obtain ⟨f5, f6, f7, f8, f9⟩ := Bag.cs5 S1.out 1 rfl
 go_wp2_with fail
 go_at_call 55
 refine (HE1.out _ S1.out.old).mono ?_
 rintro e w1 ⟨rfl, hb⟩
 clear f0 f1 f2 f3 f4 f5 f6 f7 f8 f9
 have S2 := Lib.hid (S1.out.keep hb)
 clear S1
 clear hb
 obtain ⟨f0, f1, f2, f3, f4⟩ := Bag.cs5 S2.out 0 rfl
 obtain ⟨f5, f6, f7, f8, f9⟩ := Bag.cs5 S2.out 1 rfl
 go_wp2_with fail
 go_at_call 229
 refine (HE4.out _ S2.out.old).mono ?_
 rintro e w2 ⟨rfl, hb⟩
 clear f0 f1 f2 f3 f4 f5 f6 f7 f8 f9
 have S3 := Lib.hid (S2.out.keep hb)
 clear S2
 clear hb
 obtain ⟨f0, f1, f2, f3, f4⟩ := Bag.cs5 S3.out 0 rfl
 obtain ⟨f5, f6, f7, f8, f9⟩ := Bag.cs5 S3.out 1 rfl
 go_wp2_with fail
 go_ret
 exact ⟨rfl, S3.out.old⟩
set_option maxHeartbeats 4000000 in
theorem eq_TxS (a a2 : Option Addr) (c c2 : Nat) (xs xs2 : List Y_Tx) (hc : coS_Tx xs = coS_Tx xs2) (hf : wsum wt_Tx (coS_Tx xs) ≤ 1125899906842624) (w : World) (hr : Reads w w.heap.size a (xs.flatMap cl_Tx)) (hx : RowsRd w w.heap.size (rws_Tx xs)) (hr2 : Reads w w.heap.size a2 (xs2.flatMap cl_Tx)) (hx2 : RowsRd w w.heap.size (rws_Tx xs2)) :
  Calls Try.prog 141 #[.slice a xs.length c, .slice a2 xs2.length c2] w fun e w' => e = .returned (.bool true) ∧ Below w.heap.size w w' := by
 have hlen : xs2.length = xs.length := by have h := congrArg List.length hc; rw [coS_Tx_eq, coS_Tx_eq, List.length_map, List.length_map] at h; exact h.symm
 have hl : xs.length ≤ 1125899906842624 := by have := wsum_len wt_Tx (coS_Tx xs); rw [coS_Tx_eq, List.length_map] at this; rw [coS_Tx_eq] at hf; omega
 have HR := Lib.hid (fun w' (h : Below w.heap.size w w') => hr.below h)
 have HR2 := Lib.hid (fun w' (h : Below w.heap.size w w') => hr2.below h)
 have HX := Lib.hid (fun w' (h : Below w.heap.size w w') => (hx.below h).more h.size)
 have HX2 := Lib.hid (fun w' (h : Below w.heap.size w w') => (hx2.below h).more h.size)
 rw [coS_Tx_eq] at hf
 have HF := Lib.hid hf
 have HS := Lib.hid (show xs.map co_Tx = xs2.map co_Tx from by rw [← coS_Tx_eq, ← coS_Tx_eq]; exact hc)
 obtain ⟨N, hN⟩ : ∃ n, n = xs.length := ⟨_, rfl⟩
 rw [hlen, ← hN]
 rw [← hN] at hl
 have hl' : (N : Int) ≤ 1125899906842624 := by omega
 have HN := Lib.hid hN
 clear hN hr hr2 hx hx2 hf hc hlen
 have S1 := Lib.hid (show Sl.Sep w w [] from Sl.Sep.start w)
 go_enter Try.func141, Try.ntmps141
 go_wp2_with fail
 go_loopw [5] (fun i wr => ∃ k : Nat, k ≤ N ∧ i = .int .i64 k ∧ Hid (Sl.Sep w wr [])) (fun i _ => N - (intOf i).toNat)
 case atStart => exact ⟨0, Nat.zero_le _, rfl, S1.out⟩
 case round =>
  obtain ⟨k, hk, rfl, hrel⟩ := hrel
  have S2 := Lib.hid hrel.out
  clear hrel S1
  by_cases hlt : (k : Int) < (N : Int)
  ·
   skip
   have hkl : k < xs.length := by have := HN.out; omega
   obtain ⟨x, hx⟩ : ∃ x, xs[k]? = some x := ⟨_, List.getElem?_eq_getElem hkl⟩
   obtain ⟨ad, e'⟩ := el_some cl_Tx_len (by decide) (HR.out _ S2.out.old) (List.getElem?_eq_some_iff.1 hx).1
   subst e'
   have HK := Lib.hid (fun w' (h : Below w.heap.size w w') => el5 cl_Tx_len (HR.out _ h) hx rfl)
   obtain ⟨x2, hx2, hcx⟩ := map_same HS.out hx
   obtain ⟨ad2, e'⟩ := el_some cl_Tx_len (by decide) (HR2.out _ S2.out.old) (List.getElem?_eq_some_iff.1 hx2).1
   subst e'
   have HK2 := Lib.hid (fun w' (h : Below w.heap.size w w') => el5 cl_Tx_len (HR2.out _ h) hx2 rfl)
   have ee0 : x2.f_Id = x.f_Id := (show x.f_Id = x2.f_Id from congrArg X_Tx.f_Id (hcx.symm)).symm
   have ee1 : x2.f_Ops.length = x.f_Ops.length := (by have h := congrArg List.length (show coS_Op x.f_Ops = coS_Op x2.f_Ops from congrArg X_Tx.f_Ops (hcx.symm)); rw [coS_Op_eq, coS_Op_eq, List.length_map, List.length_map] at h; exact h.symm)
   have ee2 : x2.f_At = x.f_At := (show x.f_At = x2.f_At from congrArg X_Tx.f_At (hcx.symm)).symm
   have ee3 : x2.f_State = x.f_State := (show x.f_State = x2.f_State from congrArg X_Tx.f_State (hcx.symm)).symm
   have ee4 : x2.f_Backup.length = x.f_Backup.length := (by have h := congrArg List.length (show coS_Store x.f_Backup = coS_Store x2.f_Backup from congrArg X_Tx.f_Backup (hcx.symm)); rw [coS_Store_eq, coS_Store_eq, List.length_map, List.length_map] at h; exact h.symm)
   have HEQ := fun w' (h : Below w.heap.size w w') => eq_Tx x x2 hcx.symm (by have h1 := wsum_mem (f := wt_Tx) (List.mem_map.2 ⟨x, List.mem_of_getElem? hx, rfl⟩ : co_Tx x ∈ xs.map co_Tx); have h2 := HF.out; omega) w' (rd_el (rw_ := rw_Tx) (by rw [← rws_Tx_eq]; exact HX.out w' h) hx) (rd_el (rw_ := rw_Tx) (by rw [← rws_Tx_eq]; exact HX2.out w' h) hx2)
   dsimp only [vv_Tx] at HEQ
   try dsimp only [cl_Tx] at HK2
   simp only [ee0, ee1, ee2, ee3, ee4] at HEQ HK2
   replace HEQ := Lib.hid HEQ
   clear hcx ee0 ee1 ee2 ee3 ee4
   try dsimp only [vv_Tx] at HEQ
   clear hx hx2
   go_upto_region 6 with fail
   refine wp_region_held_drew (S := (fun w' => (w'.cell? (ad.add (k * 5)) = some (.int .i64 x.f_Id) ∧ w'.cell? (⟨(ad.add (k * 5)).block, (ad.add (k * 5)).off + 1, none⟩) = some (.slice x.f_Ops_a x.f_Ops.length x.f_Ops_c) ∧ w'.cell? (⟨(ad.add (k * 5)).block, (ad.add (k * 5)).off + 2, none⟩) = some (.int .i64 x.f_At) ∧ w'.cell? (⟨(ad.add (k * 5)).block, (ad.add (k * 5)).off + 3, none⟩) = some (.int .i64 x.f_State) ∧ w'.cell? (⟨(ad.add (k * 5)).block, (ad.add (k * 5)).off + 4, none⟩) = some (.slice x.f_Backup_a x.f_Backup.length x.f_Backup_c)) ∧ (w'.cell? (ad2.add (k * 5)) = some (.int .i64 x.f_Id) ∧ w'.cell? (⟨(ad2.add (k * 5)).block, (ad2.add (k * 5)).off + 1, none⟩) = some (.slice x2.f_Ops_a x.f_Ops.length x2.f_Ops_c) ∧ w'.cell? (⟨(ad2.add (k * 5)).block, (ad2.add (k * 5)).off + 2, none⟩) = some (.int .i64 x.f_At) ∧ w'.cell? (⟨(ad2.add (k * 5)).block, (ad2.add (k * 5)).off + 3, none⟩) = some (.int .i64 x.f_State) ∧ w'.cell? (⟨(ad2.add (k * 5)).block, (ad2.add (k * 5)).off + 4, none⟩) = some (.slice x2.f_Backup_a x.f_Backup.length x2.f_Backup_c)))) (by kernel_rfl) ⟨HK.out _ (Bag.drew1 S2.out).old, HK2.out _ (Bag.drew1 S2.out).old⟩ (fun hS => ?_)
   have S3 := Lib.hid (Bag.drew1 S2.out)
   clear S2
   generalize World.drew _ = w1 at hS S3 ⊢
   refine tk 0 rfl ?_
   try simp only [zp0, zp1, zp2, zp3, zp4]
   refine tk 1 rfl ?_
   try simp only [zp0, zp1, zp2, zp3, zp4]
   refine tk 2 rfl ?_
   try simp only [zp0, zp1, zp2, zp3, zp4]
   refine tk 3 rfl ?_
   try simp only [zp0, zp1, zp2, zp3, zp4]
   refine tk 4 rfl ?_
   try simp only [zp0, zp1, zp2, zp3, zp4]
   refine tk 5 rfl ?_
   try simp only [zp0, zp1, zp2, zp3, zp4]
   refine tk 6 rfl ?_
   try simp only [zp0, zp1, zp2, zp3, zp4]
   refine tk 7 rfl ?_
   try simp only [zp0, zp1, zp2, zp3, zp4]
   refine Reg.one_op (i := 8) rfl (by kernel_rfl) (fun K hK => ?_)
   go_simp
   go_at_call 197
   refine (HEQ.out _ S3.out.old).mono ?_
   rintro e w2 ⟨rfl, hb⟩
   have S4 := Lib.hid (S3.out.keep hb)
   clear S3
   clear hb
   go_wp2_with fail
   refine hK.out _ _ ⟨HK.out _ S4.out.old, HK2.out _ S4.out.old⟩ (fun hS => ?_)
   clear hK K
   try simp only [zp0, zp1, zp2, zp3, zp4]
   refine tk 9 rfl ?_
   try simp only [zp0, zp1, zp2, zp3, zp4]
   refine wpAnyH_done (by kernel_rfl) ?_ _
   obtain ⟨f0, f1, f2, f3, f4⟩ := HK.out _ S4.out.old
   obtain ⟨f5, f6, f7, f8, f9⟩ := HK2.out _ S4.out.old
   go_wp2_with fail
   go_roundw
   case rel => exact ⟨k + 1, by omega, by go_num, S4.out⟩
   case measure => simp [intOf]; omega
  ·
   skip
   go_wp2_with fail
   go_ret
   exact ⟨rfl, S2.out.old⟩
end Go.Proofs.Ytojcdmgcbgpdmaa.V

namespace Go.Proofs.Ytojcdmgcbgpdmaa.V
open Go.ChangeShapes Go.WideShapes Go.ChangeAt Go.RowKit Mem Sl Sv Bag
open L5 (markT)
structure X_TxQueue where
 f_Txs : List X_Tx
structure Y_TxQueue where
 f_Txs_a : Option Addr
 f_Txs_c : Nat
 f_Txs : List Y_Tx
def co_TxQueue (z : Y_TxQueue) : X_TxQueue := ⟨coS_Tx z.f_Txs⟩
def cl_TxQueue (z : Y_TxQueue) : List Value := [.slice z.f_Txs_a z.f_Txs.length z.f_Txs_c]
def cs_TxQueue (z : Y_TxQueue) : Array Value := #[.slice z.f_Txs_a z.f_Txs.length z.f_Txs_c]
def vv_TxQueue (z : Y_TxQueue) : Value := .agg #[.slice z.f_Txs_a z.f_Txs.length z.f_Txs_c]
def rw_TxQueue (z : Y_TxQueue) : List RowS := rs_Tx z.f_Txs_a z.f_Txs_c z.f_Txs
def wt_TxQueue (c : X_TxQueue) : Nat := wsum wt_Tx c.f_Txs
theorem wt_TxQueue_parts (z : Y_TxQueue) : wt_TxQueue (co_TxQueue z) = wsum wt_Tx (coS_Tx z.f_Txs) := rfl
def Wide_TxQueue (z : Y_TxQueue) : Prop := (z.f_Txs.length ≤ maxLen ∧ ∀ x ∈ z.f_Txs, Wide_Tx x)
section
variable {H : Type} {enc : TypeId × Value → H} {W : World} {b : Nat} {sp : Nat → Bool} {hd : Bool}
theorem trod_TxQueue {fuel : Nat} {cs : List Value} {x : DataW H × List MemPlace} (h : DataW.trod enc Try.prog W b sp hd fuel 94 cs = some x) (hlt : ∀ p ∈ x.2, p.block < W.heap.size) : ∃ z : Y_TxQueue, cs = cl_TxQueue z ∧ RowsRd W W.heap.size (rw_TxQueue z) ∧ Wide_TxQueue z := by
 obtain ⟨xs, n, _, hx, hl, hlen, hf⟩ := DataW.trod_struct Try.underlying94 h
 have hlN : cs.length = 1 := hl.trans (by kernel_rfl)
 match cs, hlN with
 | [c0], _ =>
  have h0 : DataW.trod enc Try.prog W b sp hd n 92 (List.take (Try.prog.cellsOf 92) (List.drop 0 [c0])) = xs[0]? := hf 0 _ rfl
  rw [show Try.prog.cellsOf 92 = 1 by kernel_rfl, List.getElem?_eq_getElem (by rw [hlen]; decide)] at h0
  obtain ⟨a0, x0, c0', e0, r0, v0, l0, w0⟩ := trods_Tx h0 (fun p hp => hlt p (by rw [hx]; exact List.mem_flatMap.2 ⟨_, List.getElem_mem (show 0 < xs.length by rw [hlen]; decide), hp⟩))
  simp only [List.drop_succ_cons, List.drop_zero, List.take_succ_cons, List.take_zero, List.cons.injEq, and_true] at e0
  subst e0
  exact ⟨⟨a0, c0', x0⟩, rfl, rd_cons ⟨r0.1, r0.2.1, r0.2.2⟩ (by rw [rws_Tx_eq]; exact v0), ⟨l0, w0⟩⟩
theorem open_TxQueue {b0 : Nat} {v : Value} {d : DataW H} {ps : List MemPlace} (hval : Value.okWide Try.prog W .any b0 94 v) (h0 : DataW.Trod enc Try.prog W b sp hd 94 v d ps) (hlt : ∀ p ∈ ps, p.block < W.heap.size) : ∃ z : Y_TxQueue, v = vv_TxQueue z ∧ RowsRd W W.heap.size (rw_TxQueue z) ∧ Wide_TxQueue z := by
 obtain ⟨cs, rfl, _⟩ := okWide_struct Try.underlying94 hval
 obtain ⟨fuel, hf0⟩ := h0
 obtain ⟨z, e, h1, h2⟩ := trod_TxQueue hf0 hlt
 obtain ⟨l⟩ := cs
 exact ⟨z, by rw [show l = cl_TxQueue z from e]; rfl, h1, h2⟩
end
set_option maxHeartbeats 4000000 in
theorem to_TxQueue (z : Y_TxQueue) (hf : wt_TxQueue (co_TxQueue z) ≤ 1048576) (w : World) (hr : RowsRd w w.heap.size (rw_TxQueue z)) : Calls Try.prog 66 #[vv_TxQueue z] w fun e w' => ∃ y : Y_TxQueue, e = .returned (vv_TxQueue y) ∧ co_TxQueue y = co_TxQueue z ∧ BagOwn w' w.heap.size (rw_TxQueue y) ∧ Below w.heap.size w w' := by
 have hfp := hf
 rw [wt_TxQueue_parts] at hfp
 have HC0 := Lib.hid (fun w' (h : Below w.heap.size w w') => to_TxS z.f_Txs_a z.f_Txs_c z.f_Txs (by omega) w' (((rd_head hr).reads.below h).more h.size) (((rd_tail hr).below h).more h.size))
 clear hfp hf hr
 unfold vv_TxQueue
 have S1 := Lib.hid (show Sl.Sep w _ [_, _] from L4.push_box (L4.push_box (Sl.Sep.start w) 94 #[.slice z.f_Txs_a z.f_Txs.length z.f_Txs_c] (w.heap.size) (by simp)) 98 #[.slice none 0 0] (w.heap.size + 1) (by simp))
 obtain ⟨wa, hwa⟩ : ∃ w_, w_ = ((w.alloc (.cells #[.slice z.f_Txs_a z.f_Txs.length z.f_Txs_c] 94)).alloc (.cells #[.slice none 0 0] 98)) := ⟨_, rfl⟩
 rw [← hwa] at S1
 go_enter Try.func66, Try.ntmps66
 go_upto_region 1 with fail
 rw [← hwa]
 clear hwa
 go_upto_region 2 with fail
 have S2 := Lib.hid (show Sl.Sep w _ [_, _, _] from L4.push_box S1.out 98 #[.slice none 0 0] wa.heap.size rfl)
 clear S1
 obtain ⟨g1, hg⟩ : ∃ g', g' = wa.heap.size := ⟨_, rfl⟩
 rw [← hg] at S2 ⊢
 clear hg
 generalize wa.alloc (.cells #[.slice none 0 0] 98) = w1 at S2 ⊢
 have f0 := Bag.cs1 S2.out 0 rfl
 go_wp2_with fail
 go_at_call 137
 refine (HC0.out _ S2.out.old).mono ?_
 rintro e w2 ⟨a0', c0', y0, rfl, hc0, ho, hb⟩
 clear f0
 have S3 := Lib.hid (show Sl.Sep w _ [_, _, L4.boxR g1 98 #[.slice none 0 0], Bag.bag (rs_Tx a0' c0' y0)] from Bag.push_bag S2.out hb ho)
 clear S2
 clear hb ho
 have HQ0 := Lib.hid hc0
 clear hc0
 have f0 := Bag.cs1 S3.out 0 rfl
 have f1 := Bag.cs1 S3.out 2 rfl
 have z0 := Bag.free_at S3.out 2 rfl 0
 go_upto_region 3 with fail
 clear f0 f1 z0
 have S4 := Lib.hid (show Sl.Sep w _ [_, _, L4.boxR g1 98 #[.slice a0' y0.length c0'], _] from L5.put_box5 (S3.out) 2 rfl 0 (.slice a0' y0.length c0'))
 clear S3
 have f0 := Bag.cs1 S4.out 1 rfl
 have f1 := Bag.cs1 S4.out 2 rfl
 have z0 := Bag.free_at S4.out 1 rfl 0
 go_wp2_with fail
 clear f0 f1 z0
 have S5 := Lib.hid (show Sl.Sep w _ [_, L4.boxR (w.heap.size + 1) 98 #[.slice a0' y0.length c0'], _, _] from L5.put_box5 (S4.out) 1 rfl 0 (.slice a0' y0.length c0'))
 clear S4
 have f0 := Bag.cs1 S5.out 1 rfl
 refine bodyPost_ret (v := .agg #[.slice a0' y0.length c0']) (by simp [results, Try.results66, go_sem, *]) rfl ?_
 clear f0
 refine ⟨⟨a0', c0', y0⟩, rfl, ?_, Bag.bag_from S5.out 3 rfl, S5.out.old⟩
 show (⟨coS_Tx y0⟩ : X_TxQueue) = (⟨coS_Tx z.f_Txs⟩ : X_TxQueue)
 rw [HQ0.out]
set_option maxHeartbeats 4000000 in
theorem sz_TxQueue (z : Y_TxQueue) (q : Int) (hw : Wide_TxQueue z) (hq0 : -1 ≤ q) (hq1 : q ≤ 1048576) (w : World) (hr : RowsRd w w.heap.size (rw_TxQueue z)) : Calls Try.prog 64 #[vv_TxQueue z, .int .i64 q] w fun e w' => e = .returned (.int .i64 (lft q (wt_TxQueue (co_TxQueue z)))) ∧ Below w.heap.size w w' := by
 have HS0 := Lib.hid (fun (m : Int) (h0 : -1 ≤ m) (h1 : m ≤ 1048576) w' (h : Below w.heap.size w w') => sz_TxS z.f_Txs_a z.f_Txs_c z.f_Txs m hw.2 hw.1 h0 h1 w' (((rd_head hr).reads.below h).more h.size) (((rd_tail hr).below h).more h.size))
 have HW := Lib.hid (wt_TxQueue_parts z)
 clear hw hr
 unfold vv_TxQueue
 have S1 := Lib.hid (show Sl.Sep w _ [_] from L4.push_box (Sl.Sep.start w) 94 #[.slice z.f_Txs_a z.f_Txs.length z.f_Txs_c] (w.heap.size) (by simp))
 obtain ⟨wa, hwa⟩ : ∃ w_, w_ = (w.alloc (.cells #[.slice z.f_Txs_a z.f_Txs.length z.f_Txs_c] 94)) := ⟨_, rfl⟩
 rw [← hwa] at S1
 go_enter Try.func64, Try.ntmps64
 go_upto_region 1 with fail
 rw [← hwa]
 clear hwa
 have f0 := Bag.cs1 S1.out 0 rfl
 obtain ⟨u0, hu⟩ : ∃ u, lft q (wsum wt_Tx (coS_Tx z.f_Txs)) = u := ⟨_, rfl⟩
 have hc0 := lft_cases hu
 have hr0 := lft_range (q := q) (wsum wt_Tx (coS_Tx z.f_Txs)) (by omega)
 rw [hu] at hr0
 have HCU := HS0.out q (by omega) (by omega)
 simp only [hu] at HCU
 replace HCU := Lib.hid HCU
 clear hu
 go_wp2_with fail
 go_at_call 134
 refine (HCU.out _ S1.out.old).mono ?_
 rintro e w1 ⟨rfl, hb⟩
 clear f0
 have S2 := Lib.hid (S1.out.keep hb)
 clear S1
 clear hb
 have f0 := Bag.cs1 S2.out 0 rfl
 clear HCU
 by_cases hn0 : u0 < 0
 ·
  have hm1 : u0 = -1 := by omega
  subst hm1
  go_wp2_with fail
  go_ret
  exact ⟨by rw [HW.out, lft_neg (by omega)] <;> rfl, S2.out.old⟩
 ·
  skip
  go_wp2_with fail
  go_ret
  exact ⟨by rw [HW.out, lft_pos (by omega)] <;> first | rfl | (refine congrArg (fun i => Ending.returned (.int .i64 i)) ?_; omega), S2.out.old⟩
set_option maxHeartbeats 4000000 in
theorem eq_TxQueue (y z : Y_TxQueue) (hc : co_TxQueue y = co_TxQueue z) (hf : wt_TxQueue (co_TxQueue y) ≤ 1125899906842624) (w : World) (hr : RowsRd w w.heap.size (rw_TxQueue y)) (hr2 : RowsRd w w.heap.size (rw_TxQueue z)) : Calls Try.prog 68 #[vv_TxQueue y, vv_TxQueue z] w fun e w' => e = .returned (.bool true) ∧ Below w.heap.size w w' := by
 have hfp := hf
 rw [wt_TxQueue_parts] at hfp
 have ee0 : z.f_Txs.length = y.f_Txs.length := (by have h := congrArg List.length (show coS_Tx y.f_Txs = coS_Tx z.f_Txs from congrArg X_TxQueue.f_Txs (hc)); rw [coS_Tx_eq, coS_Tx_eq, List.length_map, List.length_map] at h; exact h.symm)
 have HE0 := Lib.hid (fun w' (h : Below w.heap.size w w') => eq_TxS y.f_Txs_a z.f_Txs_a y.f_Txs_c z.f_Txs_c y.f_Txs z.f_Txs (congrArg X_TxQueue.f_Txs hc) (by omega) w' (((rd_head hr).reads.below h).more h.size) (((rd_tail hr).below h).more h.size) (((rd_head hr2).reads.below h).more h.size) (((rd_tail hr2).below h).more h.size))
 simp only [ee0] at HE0
 have hv : vv_TxQueue z = .agg #[.slice z.f_Txs_a y.f_Txs.length z.f_Txs_c] := by unfold vv_TxQueue; simp only [ee0]
 rw [hv]
 clear hv hfp hf hc hr hr2 ee0
 unfold vv_TxQueue
 have S1 := Lib.hid (show Sl.Sep w _ [_, _] from L4.push_box (L4.push_box (Sl.Sep.start w) 98 #[.slice y.f_Txs_a y.f_Txs.length y.f_Txs_c] (w.heap.size) (by simp)) 98 #[.slice z.f_Txs_a y.f_Txs.length z.f_Txs_c] (w.heap.size + 1) (by simp))
 obtain ⟨wa, hwa⟩ : ∃ w_, w_ = ((w.alloc (.cells #[.slice y.f_Txs_a y.f_Txs.length y.f_Txs_c] 98)).alloc (.cells #[.slice z.f_Txs_a y.f_Txs.length z.f_Txs_c] 98)) := ⟨_, rfl⟩
 rw [← hwa] at S1
 go_enter Try.func68, Try.ntmps68
 go_upto_region 1 with fail
 rw [← hwa]
 clear hwa
 have f0 := Bag.cs1 S1.out 0 rfl
 have f1 := Bag.cs1 S1.out 1 rfl
 go_wp2_with fail
 go_at_call 141
 refine (HE0.out _ S1.out.old).mono ?_
 rintro e w1 ⟨rfl, hb⟩
 clear f0 f1
 have S2 := Lib.hid (S1.out.keep hb)
 clear S1
 clear hb
 have f0 := Bag.cs1 S2.out 0 rfl
 have f1 := Bag.cs1 S2.out 1 rfl
 go_wp2_with fail
 go_ret
 exact ⟨rfl, S2.out.old⟩
end Go.Proofs.Ytojcdmgcbgpdmaa.V

namespace Go.Proofs.Ytojcdmgcbgpdmaa.L10
theorem any_no {α : Type} {p : α → Bool} {xs : List α} (h : ∀ j (hj : j < xs.length), p xs[j] = false) : xs.any p = false := by
 rw [List.any_eq_false]
 intro x hx
 obtain ⟨j, hj, rfl⟩ := List.mem_iff_getElem.1 hx
 rw [h j hj]; decide
theorem any_yes {α : Type} {p : α → Bool} {xs : List α} {k : Nat} {x : α} (hx : xs[k]? = some x) (h : p x = true) : xs.any p = true :=
 List.any_eq_true.2 ⟨x, List.mem_of_getElem? hx, h⟩
end Go.Proofs.Ytojcdmgcbgpdmaa.L10

namespace Go.Proofs.Ytojcdmgcbgpdmaa.L10
open V L6 L9
open L4 (K isK cmpK R)
open Go.ChangeShapes Go.WideShapes Go.ChangeAt Go.RowKit Mem Sl Sv Bag

def confO (x y : X_Op) : Bool := x.f_Store.toList == y.f_Store.toList && (isW x.f_Kind || isW y.f_Kind)
def conf (a b : List X_Op) : Bool := a.any fun x => b.any fun y => confO x y
def live (s : Int) : Bool := s == 0 || s == 1
theorem live_eq (s : Int) : L1.inB s 0 1 = live s := by
 unfold L1.inB live
 rw [Bool.eq_iff_iff]
 simp only [Bool.and_eq_true, decide_eq_true_eq, Bool.or_eq_true, beq_iff_eq]
 omega
def holdsBack (u t : X_Tx) : Bool := live u.f_State && conf u.f_Ops t.f_Ops
def csQ (l : List X_Tx) (i : Int) : Bool :=
 L1.inB i 0 ((l.length : Int) - 1) && match l[i.toNat]? with
 | none => false
 | some t => t.f_State == 0 && !((l.take i.toNat).any fun u => holdsBack u t)

def inSt (l : List X_Tx) (i s : Int) : Bool :=
 L1.inB i 0 ((l.length : Int) - 1) && match l[i.toNat]? with
 | none => false
 | some t => t.f_State == s

structure FitT (t : X_Tx) : Prop where
 ops : ∀ o ∈ t.f_Ops, FitO o
 len : t.f_Ops.length ≤ 1048576
 back : ∀ s ∈ t.f_Backup, FitS s
 blen : t.f_Backup.length ≤ 1048576
structure FitQ (q : List X_Tx) : Prop where
 txs : ∀ t ∈ q, FitT t
 len : q.length ≤ 1048576

theorem coT_len {ts : List Y_Tx} : (coS_Tx ts).length = ts.length := by rw [coS_Tx_eq, List.length_map]
theorem coT_at {ts : List Y_Tx} {k : Nat} {x : Y_Tx} (h : ts[k]? = some x) : (coS_Tx ts)[k]? = some (co_Tx x) := by rw [coS_Tx_eq, List.getElem?_map, h]; rfl
section
variable {w : World} {B : Nat} {z : Y_Tx}
theorem rdTs {ts : List Y_Tx} {k : Nat} {x : Y_Tx} (h : RowsRd w B (rws_Tx ts)) (hx : ts[k]? = some x) : RowsRd w B (rw_Tx x) := rd_el (rw_ := rw_Tx) h hx
theorem rdTo (h : RowsRd w B (rw_Tx z)) : Reads w B z.f_Ops_a (z.f_Ops.flatMap cl_Op) := (rd_head (rd_left h)).reads
theorem rdTox (h : RowsRd w B (rw_Tx z)) : RowsRd w B (rws_Op z.f_Ops) := rd_tail (rd_left h)
end
section
variable {w : World} {B : Nat} {z : Y_TxQueue}
theorem rdQ (h : RowsRd w B (rw_TxQueue z)) : Reads w B z.f_Txs_a (z.f_Txs.flatMap cl_Tx) := (rd_head h).reads
theorem rdQx (h : RowsRd w B (rw_TxQueue z)) : RowsRd w B (rws_Tx z.f_Txs) := rd_tail h
end

theorem csQ_out {l : List X_Tx} {i : Int} (h : L1.inB i 0 ((l.length : Int) - 1) = false) : csQ l i = false := by unfold csQ; rw [h]; rfl
theorem csQ_state {l : List X_Tx} {k : Nat} {t : X_Tx} (ht : l[k]? = some t) (h : (t.f_State == 0) = false) : csQ l (k : Int) = false := by
 unfold csQ
 rw [Int.toNat_natCast, ht]
 dsimp only
 rw [h, Bool.false_and, Bool.and_false]
theorem csQ_back {l : List X_Tx} {k j : Nat} {t u : X_Tx} (ht : l[k]? = some t) (hj : j < k) (hu : l[j]? = some u) (h : holdsBack u t = true) : csQ l (k : Int) = false := by
 unfold csQ
 rw [Int.toNat_natCast, ht]
 dsimp only
 rw [any_yes (k := j) (x := u) (by rw [List.getElem?_take, if_pos hj]; exact hu) h]
 simp
theorem csQ_yes {l : List X_Tx} {k : Nat} {t : X_Tx} (ht : l[k]? = some t) (h : (t.f_State == 0) = true) (ha : ∀ j (h1 : j < l.length), j < k → holdsBack l[j] t = false) : csQ l (k : Int) = true := by
 have hk := (List.getElem?_eq_some_iff.1 ht).1
 unfold csQ
 rw [Int.toNat_natCast, ht, L1.inB_true.2 (by omega)]
 dsimp only
 rw [h, any_no (fun j hj => by rw [List.getElem_take]; exact ha j (by rw [List.length_take] at hj; omega) (by rw [List.length_take] at hj; omega))]
 rfl
theorem inSt_out {l : List X_Tx} {i s : Int} (h : L1.inB i 0 ((l.length : Int) - 1) = false) : inSt l i s = false := by unfold inSt; rw [h]; rfl
theorem inSt_at {l : List X_Tx} {k : Nat} {s : Int} {t : X_Tx} (ht : l[k]? = some t) : inSt l (k : Int) s = (t.f_State == s) := by
 have hk := (List.getElem?_eq_some_iff.1 ht).1
 unfold inSt
 rw [Int.toNat_natCast, ht, L1.inB_true.2 (by omega)]
 rfl
theorem inSt_yes {l : List X_Tx} {i s : Int} (h : inSt l i s = true) : ∃ (k : Nat) (t : X_Tx), i = (k : Int) ∧ l[k]? = some t ∧ (t.f_State == s) = true := by
 unfold inSt at h
 rw [Bool.and_eq_true, L1.inB_true] at h
 obtain ⟨⟨h1, h2⟩, h3⟩ := h
 obtain ⟨k, rfl⟩ : ∃ k : Nat, i = (k : Int) := ⟨i.toNat, by omega⟩
 rw [Int.toNat_natCast] at h3
 cases ht : l[k]? with
 | none => rw [ht] at h3; cases h3
 | some t => rw [ht] at h3; exact ⟨k, t, rfl, ht, h3⟩
theorem csQ_at {l : List X_Tx} {k : Nat} {t : X_Tx} (ht : l[k]? = some t) (h : (t.f_State == 0) = true) : csQ l (k : Int) = !((l.take k).any fun u => holdsBack u t) := by
 have hk := (List.getElem?_eq_some_iff.1 ht).1
 unfold csQ
 rw [Int.toNat_natCast, ht, L1.inB_true.2 (by omega)]
 dsimp only
 rw [h]
 simp
theorem csQ_not {l : List X_Tx} {i : Int} (h : inSt l i 0 = false) : csQ l i = false := by
 unfold inSt at h
 unfold csQ
 cases hb : L1.inB i 0 ((l.length : Int) - 1) with
 | false => rfl
 | true =>
  rw [hb, Bool.true_and] at h
  rw [Bool.true_and]
  cases ht : l[i.toNat]? with
  | none => rfl
  | some t => rw [ht] at h; dsimp only at h ⊢; rw [h]; rfl
end Go.Proofs.Ytojcdmgcbgpdmaa.L10

namespace Go.Proofs.Ytojcdmgcbgpdmaa.V
open Go.ChangeShapes Go.WideShapes Go.ChangeAt Go.RowKit Mem Sl Sv Bag
structure Y_OpZ where
 a : Option Addr
 c : Nat
 xs : List Y_Op
section
variable {H : Type} {enc : TypeId × Value → H} {W : World} {b : Nat} {sp : Nat → Bool} {hd : Bool}
end
end Go.Proofs.Ytojcdmgcbgpdmaa.V

namespace Go.Proofs.Ytojcdmgcbgpdmaa.L9
open V L6
open L4 (K isK cmpK)
open L5 (F isR isN Small)
open Go.ChangeShapes Go.WideShapes Go.ChangeAt Go.RowKit Mem Sl Ex L2 Sv Bag

theorem fitR_wt {l : List F} (h : wt_Record l ≤ 1048576) : l.length ≤ 1048576 ∧ Small l := by
 have h1 : l.length ≤ wt_Record l := wsum_len wt_Field l
 refine ⟨by omega, fun f hf => ?_⟩
 have h2 : wt_Field f + 1 ≤ wt_Record l := wsum_mem hf
 have h3 : wt_Field f = f.name.size := rfl
 omega
theorem fitO_wt {o : X_Op} (h : wt_Op o ≤ 1048576) : FitO o := by
 have h1 : wt_Op o = o.f_Store.size + (o.f_Key.text.size + (wt_Record o.f_Record + o.f_Field.size)) := rfl
 obtain ⟨h2, h3⟩ := fitR_wt (l := o.f_Record) (by omega)
 exact ⟨by omega, by omega, h2, h3, by omega⟩
theorem fitOs_wt {l : List X_Op} (h : wsum wt_Op l ≤ 1048576) : l.length ≤ 1048576 ∧ ∀ o ∈ l, FitO o := by
 have h1 := wsum_len wt_Op l
 refine ⟨by omega, fun o ho => fitO_wt ?_⟩
 have h2 : wt_Op o + 1 ≤ wsum wt_Op l := wsum_mem ho
 omega
end Go.Proofs.Ytojcdmgcbgpdmaa.L9

namespace Go.Proofs.Ytojcdmgcbgpdmaa.L10
open V L6 L9
open Go.ChangeShapes Go.WideShapes Go.ChangeAt Go.RowKit Mem Sl Sv Bag

theorem fitI_wt {x : It} (h : wt_Item x ≤ 1048576) : FitI x := by
 have h1 : wt_Item x = x.k.text.size + wt_Record x.l := rfl
 obtain ⟨h2, h3⟩ := fitR_wt (l := x.l) (by omega)
 exact ⟨by omega, h2, h3⟩
theorem fitS_wt {s : S6} (h : wt_Store s ≤ 1048576) : FitS s := by
 have h1 : wt_Store s = s.name.size + wsum wt_Item s.items := rfl
 have h2 := wsum_len wt_Item s.items
 refine ⟨by omega, by omega, fun x hx => fitI_wt ?_⟩
 have h3 : wt_Item x + 1 ≤ wsum wt_Item s.items := wsum_mem hx
 omega
theorem fitT_wt {t : X_Tx} (h : wt_Tx t ≤ 1048576) : FitT t := by
 have h1 : wt_Tx t = wsum wt_Op t.f_Ops + wsum wt_Store t.f_Backup := rfl
 have h2 := fitOs_wt (l := t.f_Ops) (by omega)
 have h3 := wsum_len wt_Store t.f_Backup
 refine ⟨h2.2, h2.1, fun s hs => fitS_wt ?_, by omega⟩
 have h4 : wt_Store s + 1 ≤ wsum wt_Store t.f_Backup := wsum_mem hs
 omega
theorem fitQ_wt {z : Y_TxQueue} (h : wt_TxQueue (co_TxQueue z) ≤ 1048576) : z.f_Txs.length ≤ 1048576 ∧ ∀ t ∈ coS_Tx z.f_Txs, FitT t := by
 have h1 : wt_TxQueue (co_TxQueue z) = wsum wt_Tx (coS_Tx z.f_Txs) := rfl
 have h2 := wsum_len wt_Tx (coS_Tx z.f_Txs)
 rw [coT_len] at h2
 refine ⟨by omega, fun t ht => fitT_wt ?_⟩
 have h4 : wt_Tx t + 1 ≤ wsum wt_Tx (coS_Tx z.f_Txs) := wsum_mem ht
 omega
end Go.Proofs.Ytojcdmgcbgpdmaa.L10

namespace Go.Proofs.Ytojcdmgcbgpdmaa.L9
open V L6
open L4 (K isK cmpK)
open L5 (F isR isN string_geq)
open Go.Op (bytesLess)
open Go.ChangeShapes Go.WideShapes Go.ChangeAt Go.RowKit Mem Sl Ex L2 Sv Bag

set_option maxHeartbeats 8000000 in
theorem specIsWrite_any (o : Y_Op) (hf : FitO (co_Op o)) (w : World) (hr : RowsRd w w.heap.size (rw_Op o)) :
  Calls Try.prog 144 #[vv_Op o] w fun e w' => e = .returned (.bool (isW (co_Op o).f_Kind)) ∧ Below w.heap.size w w' := by
 have HRR := Lib.hid (fun w' (h : Below w.heap.size w w') => (((rdO hr).below h).more h.size : Reads w' w'.heap.size o.f_Record.a (L5.cellsF o.f_Record.l)))
 have HFO := Lib.hid (show FitO ⟨o.f_Kind, o.f_Store, o.f_Key, o.f_Record.l, o.f_Field⟩ from hf)
 clear hf hr
 obtain ⟨kd, st, ⟨kk, kn, kt⟩, ⟨ra, rc, rl⟩, fd⟩ := o
 try unfold vv_Op
 dsimp only at HRR HFO ⊢
 show Calls _ _ _ _ fun e w' => e = .returned (.bool (L1.inB kd 1 6 && !(kd == 4))) ∧ _
 obtain ⟨bi, hbi⟩ : ∃ b, L1.inB kd 1 6 = b := ⟨_, rfl⟩
 have HIA := fun w => L1.l1In_any kd 1 6 w
 rw [hbi] at HIA ⊢
 replace HIA := Lib.hid HIA
 clear hbi
 generalize hB : (bi && _) = B
 have HB := Lib.hid hB.symm
 clear hB
 have S1 := Lib.hid (show Sl.Sep w _ [_] from L4.push_box (Sl.Sep.start w) 148 #[.int .i64 kd, .string st, .int .i64 kk, .int .i64 kn, .string kt, .slice ra rl.length rc, .string fd] (w.heap.size) (by simp))
 obtain ⟨wa, hwa⟩ : ∃ w_, w_ = (w.alloc (.cells #[.int .i64 kd, .string st, .int .i64 kk, .int .i64 kn, .string kt, .slice ra rl.length rc, .string fd] 148)) := ⟨_, rfl⟩
 rw [← hwa] at S1
 go_enter Try.func144, Try.ntmps144
 go_upto_region 1 with fail
 rw [← hwa]
 clear hwa
 obtain ⟨f0, f1, f2, f3, f4, f5, f6⟩ := Bag.cs7 S1.out 0 rfl
 cases bi with
 | false =>
  go_wp2_with fail
  go_at_call 91
  refine (HIA.out _).mono ?_
  rintro e w1 ⟨rfl, rfl⟩
  go_wp2_with fail
  go_ret
  exact ⟨by rw [HB.out]; simp [*], S1.out.old⟩
 | true =>
  go_wp2_with fail
  go_at_call 91
  refine (HIA.out _).mono ?_
  rintro e w1 ⟨rfl, rfl⟩
  by_cases h4 : kd = 4
  ·
   have h4' : (kd == 4) = true := by simp [h4]
   go_wp2_with fail
   go_ret
   exact ⟨by rw [HB.out]; simp [*], S1.out.old⟩
  skip
  ·
   have h4' : (kd == 4) = false := by simp [h4]
   go_wp2_with fail
   go_ret
   exact ⟨by rw [HB.out]; simp [*], S1.out.old⟩
end Go.Proofs.Ytojcdmgcbgpdmaa.L9

set_option linter.unusedSimpArgs false
namespace Go.Proofs.Ytojcdmgcbgpdmaa.L10
open V L6 L9
open L4 (K isK cmpK)
open L5 (F isR isN string_geq)
open Go.Op (bytesLess)
open Go.ChangeShapes Go.WideShapes Go.ChangeAt Go.RowKit Mem Sl Ex L2 Sv Bag

set_option maxHeartbeats 8000000 in
theorem specConflicts_any (a : Option Addr) (c : Nat) (os : List Y_Op) (hl : os.length ≤ 1048576) (hf : ∀ o ∈ coS_Op os, FitO o) (a2 : Option Addr) (c2 : Nat) (os2 : List Y_Op) (hl2 : os2.length ≤ 1048576) (hf2 : ∀ o ∈ coS_Op os2, FitO o) (w : World) (hr : Reads w w.heap.size a (os.flatMap cl_Op)) (hx : RowsRd w w.heap.size (rws_Op os)) (hr2 : Reads w w.heap.size a2 (os2.flatMap cl_Op)) (hx2 : RowsRd w w.heap.size (rws_Op os2)) :
  Calls Try.prog 71 #[.slice a os.length c, .slice a2 os2.length c2] w fun e w' => e = .returned (.bool (conf (coS_Op os) (coS_Op os2))) ∧ Below w.heap.size w w' := by
 have HR := Lib.hid (fun w' (h : Below w.heap.size w w') => hr.below h)
 have HX := Lib.hid (fun w' (h : Below w.heap.size w w') => (hx.below h).more h.size)
 have HF := Lib.hid hf
 obtain ⟨N, hN⟩ : ∃ n, n = os.length := ⟨_, rfl⟩
 rw [← hN] at hl ⊢
 have hl' : (N : Int) ≤ 1048576 := by omega
 have HN := Lib.hid hN
 clear hN hr hx hf
 have HR2 := Lib.hid (fun w' (h : Below w.heap.size w w') => hr2.below h)
 have HX2 := Lib.hid (fun w' (h : Below w.heap.size w w') => (hx2.below h).more h.size)
 have HF2 := Lib.hid hf2
 obtain ⟨N2, hN2⟩ : ∃ n, n = os2.length := ⟨_, rfl⟩
 rw [← hN2] at hl2 ⊢
 have hl2' : (N2 : Int) ≤ 1048576 := by omega
 have HN2 := Lib.hid hN2
 clear hN2 hr2 hx2 hf2
 have HSL := Lib.hid (show (coS_Op os).length = N ∧ (coS_Op os2).length = N2 from by rw [coS_len, coS_len, HN.out, HN2.out]; exact ⟨rfl, rfl⟩)
 obtain ⟨be, hbe⟩ : ∃ b, conf (coS_Op os) (coS_Op os2) = b := ⟨_, rfl⟩
 rw [hbe]
 have HB := Lib.hid hbe
 clear hbe
 have S1 := Lib.hid (show Sl.Sep w w [] from Sl.Sep.start w)
 go_enter Try.func71, Try.ntmps71
 go_wp2_with fail
 go_loopw [5] (fun i wr => ∃ k : Nat, k ≤ N ∧ i = .int .i64 k ∧ Hid ((∀ j (h1 : j < (coS_Op os).length), j < k → ((coS_Op os2).any fun y => confO (coS_Op os)[j] y) = false) ∧ Sl.Sep w wr [])) (fun i _ => N - (intOf i).toNat)
 case atStart => exact ⟨0, Nat.zero_le _, rfl, And.intro (fun j h1 h => absurd h (by omega)) S1.out⟩
 case round =>
  obtain ⟨k, hk, rfl, hrel⟩ := hrel
  have HA := Lib.hid hrel.out.1
  have S2 := Lib.hid hrel.out.2
  clear hrel S1
  by_cases hlt : (k : Int) < (N : Int)
  ·
   skip
   have hkl : k < os.length := by have := HN.out; omega
   obtain ⟨x, hx⟩ : ∃ x, os[k]? = some x := ⟨_, List.getElem?_eq_getElem hkl⟩
   obtain ⟨oad, e'⟩ := el_some cl_Op_len (by decide) (HR.out _ S2.out.old) hkl
   subst e'
   have hro := fun w' (h : Below w.heap.size w w') => rdOs (HX.out w' h) hx
   have hrr := fun w' (h : Below w.heap.size w w') => rdO (rdOs (HX.out w' h) hx)
   obtain ⟨kd, st, ⟨kk, kn, kt⟩, ⟨ra, rc, rl⟩, fd⟩ := x
   have HK := Lib.hid (fun w' (h : Below w.heap.size w w') => el7 cl_Op_len (HR.out _ h) hx rfl)
   dsimp only at HK hrr
   have HRO := Lib.hid hro
   have HRR := Lib.hid hrr
   have HC := Lib.hid (show (coS_Op os)[k]? = some (⟨kd, st, ⟨kk, kn, kt⟩, rl, fd⟩ : X_Op) from coS_at hx)
   have HFO := Lib.hid (HF.out _ (List.mem_of_getElem? HC.out))
   clear hx hrr hro
   obtain ⟨bw, hbw⟩ : ∃ b, isW kd = b := ⟨_, rfl⟩
   have HIW := fun w' (h : Below w.heap.size w w') => (specIsWrite_any (⟨kd, st, ⟨kk, kn, kt⟩, ⟨ra, rc, rl⟩, fd⟩ : Y_Op) HFO.out w' (HRO.out w' h)).mono (R' := fun e w2 => e = .returned (.bool bw) ∧ Below w'.heap.size w' w2) (fun e w2 hh => ⟨by rw [← hbw]; exact hh.1, hh.2⟩)
   unfold vv_Op at HIW
   dsimp only at HIW
   replace HIW := Lib.hid HIW
   have HBW := Lib.hid hbw
   clear hbw
   obtain ⟨f0, f1, f2, f3, f4, f5, f6⟩ := HK.out _ S2.out.old
   go_wp2_with fail
   clear f0 f1 f2 f3 f4 f5 f6
   go_loopw [6] (fun i wr2 => ∃ m : Nat, m ≤ N2 ∧ i = .int .i64 m ∧ Hid ((∀ j (h1 : j < (coS_Op os2).length), j < m → confO (⟨kd, st, ⟨kk, kn, kt⟩, rl, fd⟩ : X_Op) (coS_Op os2)[j] = false) ∧ Sl.Sep w wr2 [])) (fun i _ => N2 - (intOf i).toNat)
   case atStart => exact ⟨0, Nat.zero_le _, rfl, And.intro (fun j h1 h => absurd h (by omega)) S2.out⟩
   case round =>
    obtain ⟨m, hm, rfl, hrel⟩ := hrel
    have HA2 := Lib.hid hrel.out.1
    have S3 := Lib.hid hrel.out.2
    clear hrel S2
    by_cases hlt2 : (m : Int) < (N2 : Int)
    ·
     skip
     have hml : m < os2.length := by have := HN2.out; omega
     obtain ⟨x, hx⟩ : ∃ x, os2[m]? = some x := ⟨_, List.getElem?_eq_getElem hml⟩
     obtain ⟨oad2, e'⟩ := el_some cl_Op_len (by decide) (HR2.out _ S3.out.old) hml
     subst e'
     have hro := fun w' (h : Below w.heap.size w w') => rdOs (HX2.out w' h) hx
     have hrr := fun w' (h : Below w.heap.size w w') => rdO (rdOs (HX2.out w' h) hx)
     obtain ⟨kd2, st2, ⟨kk2, kn2, kt2⟩, ⟨ra2, rc2, rl2⟩, fd2⟩ := x
     have HK2 := Lib.hid (fun w' (h : Below w.heap.size w w') => el7 cl_Op_len (HR2.out _ h) hx rfl)
     dsimp only at HK2 hrr
     have HRO2 := Lib.hid hro
     have HRR2 := Lib.hid hrr
     have HC2 := Lib.hid (show (coS_Op os2)[m]? = some (⟨kd2, st2, ⟨kk2, kn2, kt2⟩, rl2, fd2⟩ : X_Op) from coS_at hx)
     have HFO2 := Lib.hid (HF2.out _ (List.mem_of_getElem? HC2.out))
     clear hx hrr hro
     obtain ⟨bw2, hbw⟩ : ∃ b, isW kd2 = b := ⟨_, rfl⟩
     have HIW2 := fun w' (h : Below w.heap.size w w') => (specIsWrite_any (⟨kd2, st2, ⟨kk2, kn2, kt2⟩, ⟨ra2, rc2, rl2⟩, fd2⟩ : Y_Op) HFO2.out w' (HRO2.out w' h)).mono (R' := fun e w2 => e = .returned (.bool bw2) ∧ Below w'.heap.size w' w2) (fun e w2 hh => ⟨by rw [← hbw]; exact hh.1, hh.2⟩)
     unfold vv_Op at HIW2
     dsimp only at HIW2
     replace HIW2 := Lib.hid HIW2
     have HBW2 := Lib.hid hbw
     clear hbw
     have HCO := Lib.hid (show confO (⟨kd, st, ⟨kk, kn, kt⟩, rl, fd⟩ : X_Op) (⟨kd2, st2, ⟨kk2, kn2, kt2⟩, rl2, fd2⟩ : X_Op) = (st.toList == st2.toList && (bw || bw2)) from by rw [← HBW.out, ← HBW2.out]; rfl)
     obtain ⟨f0, f1, f2, f3, f4, f5, f6⟩ := HK.out _ S3.out.old
     obtain ⟨f7, f8, f9, f10, f11, f12, f13⟩ := HK2.out _ S3.out.old
     cases hs : st.toList == st2.toList with
     | false =>
      go_upto_region 7 with fail
      clear f0 f1 f2 f3 f4 f5 f6 f7 f8 f9 f10 f11 f12 f13
      refine wp_region_held_drew (S := (fun w' => (w'.cell? (oad.add (k * 7)) = some (.int .i64 kd) ∧ w'.cell? (⟨(oad.add (k * 7)).block, (oad.add (k * 7)).off + 1, none⟩) = some (.string st) ∧ w'.cell? (⟨(oad.add (k * 7)).block, (oad.add (k * 7)).off + 2, none⟩) = some (.int .i64 kk) ∧ w'.cell? (⟨(oad.add (k * 7)).block, (oad.add (k * 7)).off + 3, none⟩) = some (.int .i64 kn) ∧ w'.cell? (⟨(oad.add (k * 7)).block, (oad.add (k * 7)).off + 4, none⟩) = some (.string kt) ∧ w'.cell? (⟨(oad.add (k * 7)).block, (oad.add (k * 7)).off + 5, none⟩) = some (.slice ra rl.length rc) ∧ w'.cell? (⟨(oad.add (k * 7)).block, (oad.add (k * 7)).off + 6, none⟩) = some (.string fd)) ∧ (w'.cell? (oad2.add (m * 7)) = some (.int .i64 kd2) ∧ w'.cell? (⟨(oad2.add (m * 7)).block, (oad2.add (m * 7)).off + 1, none⟩) = some (.string st2) ∧ w'.cell? (⟨(oad2.add (m * 7)).block, (oad2.add (m * 7)).off + 2, none⟩) = some (.int .i64 kk2) ∧ w'.cell? (⟨(oad2.add (m * 7)).block, (oad2.add (m * 7)).off + 3, none⟩) = some (.int .i64 kn2) ∧ w'.cell? (⟨(oad2.add (m * 7)).block, (oad2.add (m * 7)).off + 4, none⟩) = some (.string kt2) ∧ w'.cell? (⟨(oad2.add (m * 7)).block, (oad2.add (m * 7)).off + 5, none⟩) = some (.slice ra2 rl2.length rc2) ∧ w'.cell? (⟨(oad2.add (m * 7)).block, (oad2.add (m * 7)).off + 6, none⟩) = some (.string fd2)))) (by kernel_rfl) ⟨HK.out _ (Bag.drew1 S3.out).old, HK2.out _ (Bag.drew1 S3.out).old⟩ (fun hS => ?_)
      have S4 := Lib.hid (Bag.drew1 S3.out)
      clear S3
      generalize World.drew _ = w1 at hS S4 ⊢
      refine tk 0 rfl ?_
      try simp only [zp0, zp1, zp2, zp3, zp4]
      refine tk 1 rfl ?_
      try simp only [zp0, zp1, zp2, zp3, zp4]
      refine tk 2 rfl ?_
      try simp only [zp0, zp1, zp2, zp3, zp4]
      refine tk 3 rfl ?_
      try simp only [zp0, zp1, zp2, zp3, zp4]
      refine tk 4 rfl ?_
      try simp only [zp0, zp1, zp2, zp3, zp4]
      refine tk 5 rfl ?_
      try simp only [zp0, zp1, zp2, zp3, zp4]
      refine tk 6 rfl ?_
      try simp only [zp0, zp1, zp2, zp3, zp4]
      refine tk 7 rfl ?_
      try simp only [zp0, zp1, zp2, zp3, zp4]
      refine tk 8 rfl ?_
      try simp only [zp0, zp1, zp2, zp3, zp4]
      refine tk 9 rfl ?_
      try simp only [zp0, zp1, zp2, zp3, zp4]
      refine tk 10 rfl ?_
      try simp only [zp0, zp1, zp2, zp3, zp4]
      refine tk 11 rfl ?_
      try simp only [zp0, zp1, zp2, zp3, zp4]
      refine sk 12 rfl ?_
      try simp only [zp0, zp1, zp2, zp3, zp4]
      refine sk 13 rfl ?_
      try simp only [zp0, zp1, zp2, zp3, zp4]
      refine sk 14 rfl ?_
      try simp only [zp0, zp1, zp2, zp3, zp4]
      refine sk 15 rfl ?_
      try simp only [zp0, zp1, zp2, zp3, zp4]
      refine Reg.skip_one (i := 16) rfl (by kernel_rfl) (by rfl) (by assumption) ?_
      try simp only [zp0, zp1, zp2, zp3, zp4]
      refine sk 17 rfl ?_
      try simp only [zp0, zp1, zp2, zp3, zp4]
      refine sk 18 rfl ?_
      try simp only [zp0, zp1, zp2, zp3, zp4]
      refine sk 19 rfl ?_
      try simp only [zp0, zp1, zp2, zp3, zp4]
      refine sk 20 rfl ?_
      try simp only [zp0, zp1, zp2, zp3, zp4]
      refine sk 21 rfl ?_
      try simp only [zp0, zp1, zp2, zp3, zp4]
      refine Reg.skip_one (i := 22) rfl (by kernel_rfl) (by rfl) (by assumption) ?_
      try simp only [zp0, zp1, zp2, zp3, zp4]
      refine sk 23 rfl ?_
      try simp only [zp0, zp1, zp2, zp3, zp4]
      refine tk 24 rfl ?_
      try simp only [zp0, zp1, zp2, zp3, zp4]
      refine wpAnyH_done (by kernel_rfl) ?_ _
      obtain ⟨f0, f1, f2, f3, f4, f5, f6⟩ := HK.out _ S4.out.old
      obtain ⟨f7, f8, f9, f10, f11, f12, f13⟩ := HK2.out _ S4.out.old
      have HN0 := Lib.hid (show confO (⟨kd, st, ⟨kk, kn, kt⟩, rl, fd⟩ : X_Op) (⟨kd2, st2, ⟨kk2, kn2, kt2⟩, rl2, fd2⟩ : X_Op) = false from by rw [HCO.out, hs]; rfl)
      go_wp2_with fail
      go_roundw
      case rel => exact ⟨m + 1, by omega, by go_num, And.intro (fun j h1 h => by
       by_cases e : j < m
       ·
        exact HA2.out j h1 e
       ·
        obtain rfl : j = m := by omega
        rw [val_of HC2.out]; exact HN0.out) S4.out⟩
      case measure => simp [intOf]; omega
     | true =>
      cases bw with
      | true =>
       go_upto_region 7 with fail
       clear f0 f1 f2 f3 f4 f5 f6 f7 f8 f9 f10 f11 f12 f13
       refine wp_region_held_drew (S := (fun w' => (w'.cell? (oad.add (k * 7)) = some (.int .i64 kd) ∧ w'.cell? (⟨(oad.add (k * 7)).block, (oad.add (k * 7)).off + 1, none⟩) = some (.string st) ∧ w'.cell? (⟨(oad.add (k * 7)).block, (oad.add (k * 7)).off + 2, none⟩) = some (.int .i64 kk) ∧ w'.cell? (⟨(oad.add (k * 7)).block, (oad.add (k * 7)).off + 3, none⟩) = some (.int .i64 kn) ∧ w'.cell? (⟨(oad.add (k * 7)).block, (oad.add (k * 7)).off + 4, none⟩) = some (.string kt) ∧ w'.cell? (⟨(oad.add (k * 7)).block, (oad.add (k * 7)).off + 5, none⟩) = some (.slice ra rl.length rc) ∧ w'.cell? (⟨(oad.add (k * 7)).block, (oad.add (k * 7)).off + 6, none⟩) = some (.string fd)) ∧ (w'.cell? (oad2.add (m * 7)) = some (.int .i64 kd2) ∧ w'.cell? (⟨(oad2.add (m * 7)).block, (oad2.add (m * 7)).off + 1, none⟩) = some (.string st2) ∧ w'.cell? (⟨(oad2.add (m * 7)).block, (oad2.add (m * 7)).off + 2, none⟩) = some (.int .i64 kk2) ∧ w'.cell? (⟨(oad2.add (m * 7)).block, (oad2.add (m * 7)).off + 3, none⟩) = some (.int .i64 kn2) ∧ w'.cell? (⟨(oad2.add (m * 7)).block, (oad2.add (m * 7)).off + 4, none⟩) = some (.string kt2) ∧ w'.cell? (⟨(oad2.add (m * 7)).block, (oad2.add (m * 7)).off + 5, none⟩) = some (.slice ra2 rl2.length rc2) ∧ w'.cell? (⟨(oad2.add (m * 7)).block, (oad2.add (m * 7)).off + 6, none⟩) = some (.string fd2)))) (by kernel_rfl) ⟨HK.out _ (Bag.drew1 S3.out).old, HK2.out _ (Bag.drew1 S3.out).old⟩ (fun hS => ?_)
       have S4 := Lib.hid (Bag.drew1 S3.out)
       clear S3
       generalize World.drew _ = w1 at hS S4 ⊢
       refine tk 0 rfl ?_
       try simp only [zp0, zp1, zp2, zp3, zp4]
       refine tk 1 rfl ?_
       try simp only [zp0, zp1, zp2, zp3, zp4]
       refine tk 2 rfl ?_
       try simp only [zp0, zp1, zp2, zp3, zp4]
       refine tk 3 rfl ?_
       try simp only [zp0, zp1, zp2, zp3, zp4]
       refine tk 4 rfl ?_
       try simp only [zp0, zp1, zp2, zp3, zp4]
       refine tk 5 rfl ?_
       try simp only [zp0, zp1, zp2, zp3, zp4]
       refine tk 6 rfl ?_
       try simp only [zp0, zp1, zp2, zp3, zp4]
       refine tk 7 rfl ?_
       try simp only [zp0, zp1, zp2, zp3, zp4]
       refine tk 8 rfl ?_
       try simp only [zp0, zp1, zp2, zp3, zp4]
       refine tk 9 rfl ?_
       try simp only [zp0, zp1, zp2, zp3, zp4]
       refine tk 10 rfl ?_
       try simp only [zp0, zp1, zp2, zp3, zp4]
       refine tk 11 rfl ?_
       try simp only [zp0, zp1, zp2, zp3, zp4]
       refine tk 12 rfl ?_
       try simp only [zp0, zp1, zp2, zp3, zp4]
       refine tk 13 rfl ?_
       try simp only [zp0, zp1, zp2, zp3, zp4]
       refine tk 14 rfl ?_
       try simp only [zp0, zp1, zp2, zp3, zp4]
       refine tk 15 rfl ?_
       try simp only [zp0, zp1, zp2, zp3, zp4]
       refine Reg.one_op (i := 16) rfl (by kernel_rfl) (fun K hK => ?_)
       go_simp
       go_at_call 144
       refine (HIW.out _ S4.out.old).mono ?_
       rintro e w2 ⟨rfl, hb⟩
       have S5 := Lib.hid (S4.out.keep hb)
       clear S4
       clear hb
       go_wp2_with fail
       refine hK.out _ _ ⟨HK.out _ S5.out.old, HK2.out _ S5.out.old⟩ (fun hS => ?_)
       clear hK K
       try simp only [zp0, zp1, zp2, zp3, zp4]
       refine tk 17 rfl ?_
       try simp only [zp0, zp1, zp2, zp3, zp4]
       refine sk 18 rfl ?_
       try simp only [zp0, zp1, zp2, zp3, zp4]
       refine sk 19 rfl ?_
       try simp only [zp0, zp1, zp2, zp3, zp4]
       refine sk 20 rfl ?_
       try simp only [zp0, zp1, zp2, zp3, zp4]
       refine sk 21 rfl ?_
       try simp only [zp0, zp1, zp2, zp3, zp4]
       refine Reg.skip_one (i := 22) rfl (by kernel_rfl) (by rfl) (by assumption) ?_
       try simp only [zp0, zp1, zp2, zp3, zp4]
       refine tk 23 rfl ?_
       try simp only [zp0, zp1, zp2, zp3, zp4]
       refine tk 24 rfl ?_
       try simp only [zp0, zp1, zp2, zp3, zp4]
       refine wpAnyH_done (by kernel_rfl) ?_ _
       obtain ⟨f0, f1, f2, f3, f4, f5, f6⟩ := HK.out _ S5.out.old
       obtain ⟨f7, f8, f9, f10, f11, f12, f13⟩ := HK2.out _ S5.out.old
       have HY := Lib.hid (show be = true from by rw [← HB.out]; exact any_yes HC.out (any_yes HC2.out (by rw [HCO.out, hs]; rfl)))
       go_wp2_with fail
       go_ret
       exact ⟨by rw [HY.out] <;> rfl, S5.out.old⟩
      | false =>
       cases bw2 with
       | true =>
        go_upto_region 7 with fail
        clear f0 f1 f2 f3 f4 f5 f6 f7 f8 f9 f10 f11 f12 f13
        refine wp_region_held_drew (S := (fun w' => (w'.cell? (oad.add (k * 7)) = some (.int .i64 kd) ∧ w'.cell? (⟨(oad.add (k * 7)).block, (oad.add (k * 7)).off + 1, none⟩) = some (.string st) ∧ w'.cell? (⟨(oad.add (k * 7)).block, (oad.add (k * 7)).off + 2, none⟩) = some (.int .i64 kk) ∧ w'.cell? (⟨(oad.add (k * 7)).block, (oad.add (k * 7)).off + 3, none⟩) = some (.int .i64 kn) ∧ w'.cell? (⟨(oad.add (k * 7)).block, (oad.add (k * 7)).off + 4, none⟩) = some (.string kt) ∧ w'.cell? (⟨(oad.add (k * 7)).block, (oad.add (k * 7)).off + 5, none⟩) = some (.slice ra rl.length rc) ∧ w'.cell? (⟨(oad.add (k * 7)).block, (oad.add (k * 7)).off + 6, none⟩) = some (.string fd)) ∧ (w'.cell? (oad2.add (m * 7)) = some (.int .i64 kd2) ∧ w'.cell? (⟨(oad2.add (m * 7)).block, (oad2.add (m * 7)).off + 1, none⟩) = some (.string st2) ∧ w'.cell? (⟨(oad2.add (m * 7)).block, (oad2.add (m * 7)).off + 2, none⟩) = some (.int .i64 kk2) ∧ w'.cell? (⟨(oad2.add (m * 7)).block, (oad2.add (m * 7)).off + 3, none⟩) = some (.int .i64 kn2) ∧ w'.cell? (⟨(oad2.add (m * 7)).block, (oad2.add (m * 7)).off + 4, none⟩) = some (.string kt2) ∧ w'.cell? (⟨(oad2.add (m * 7)).block, (oad2.add (m * 7)).off + 5, none⟩) = some (.slice ra2 rl2.length rc2) ∧ w'.cell? (⟨(oad2.add (m * 7)).block, (oad2.add (m * 7)).off + 6, none⟩) = some (.string fd2)))) (by kernel_rfl) ⟨HK.out _ (Bag.drew1 S3.out).old, HK2.out _ (Bag.drew1 S3.out).old⟩ (fun hS => ?_)
        have S4 := Lib.hid (Bag.drew1 S3.out)
        clear S3
        generalize World.drew _ = w1 at hS S4 ⊢
        refine tk 0 rfl ?_
        try simp only [zp0, zp1, zp2, zp3, zp4]
        refine tk 1 rfl ?_
        try simp only [zp0, zp1, zp2, zp3, zp4]
        refine tk 2 rfl ?_
        try simp only [zp0, zp1, zp2, zp3, zp4]
        refine tk 3 rfl ?_
        try simp only [zp0, zp1, zp2, zp3, zp4]
        refine tk 4 rfl ?_
        try simp only [zp0, zp1, zp2, zp3, zp4]
        refine tk 5 rfl ?_
        try simp only [zp0, zp1, zp2, zp3, zp4]
        refine tk 6 rfl ?_
        try simp only [zp0, zp1, zp2, zp3, zp4]
        refine tk 7 rfl ?_
        try simp only [zp0, zp1, zp2, zp3, zp4]
        refine tk 8 rfl ?_
        try simp only [zp0, zp1, zp2, zp3, zp4]
        refine tk 9 rfl ?_
        try simp only [zp0, zp1, zp2, zp3, zp4]
        refine tk 10 rfl ?_
        try simp only [zp0, zp1, zp2, zp3, zp4]
        refine tk 11 rfl ?_
        try simp only [zp0, zp1, zp2, zp3, zp4]
        refine tk 12 rfl ?_
        try simp only [zp0, zp1, zp2, zp3, zp4]
        refine tk 13 rfl ?_
        try simp only [zp0, zp1, zp2, zp3, zp4]
        refine tk 14 rfl ?_
        try simp only [zp0, zp1, zp2, zp3, zp4]
        refine tk 15 rfl ?_
        try simp only [zp0, zp1, zp2, zp3, zp4]
        refine Reg.one_op (i := 16) rfl (by kernel_rfl) (fun K hK => ?_)
        go_simp
        go_at_call 144
        refine (HIW.out _ S4.out.old).mono ?_
        rintro e w2 ⟨rfl, hb⟩
        have S5 := Lib.hid (S4.out.keep hb)
        clear S4
        clear hb
        go_wp2_with fail
        refine hK.out _ _ ⟨HK.out _ S5.out.old, HK2.out _ S5.out.old⟩ (fun hS => ?_)
        clear hK K
        try simp only [zp0, zp1, zp2, zp3, zp4]
        refine tk 17 rfl ?_
        try simp only [zp0, zp1, zp2, zp3, zp4]
        refine tk 18 rfl ?_
        try simp only [zp0, zp1, zp2, zp3, zp4]
        refine tk 19 rfl ?_
        try simp only [zp0, zp1, zp2, zp3, zp4]
        refine tk 20 rfl ?_
        try simp only [zp0, zp1, zp2, zp3, zp4]
        refine tk 21 rfl ?_
        try simp only [zp0, zp1, zp2, zp3, zp4]
        refine Reg.one_op (i := 22) rfl (by kernel_rfl) (fun K hK => ?_)
        go_simp
        go_at_call 144
        refine (HIW2.out _ S5.out.old).mono ?_
        rintro e w3 ⟨rfl, hb⟩
        have S6 := Lib.hid (S5.out.keep hb)
        clear S5
        clear hb
        go_wp2_with fail
        refine hK.out _ _ ⟨HK.out _ S6.out.old, HK2.out _ S6.out.old⟩ (fun hS => ?_)
        clear hK K
        try simp only [zp0, zp1, zp2, zp3, zp4]
        refine tk 23 rfl ?_
        try simp only [zp0, zp1, zp2, zp3, zp4]
        refine tk 24 rfl ?_
        try simp only [zp0, zp1, zp2, zp3, zp4]
        refine wpAnyH_done (by kernel_rfl) ?_ _
        obtain ⟨f0, f1, f2, f3, f4, f5, f6⟩ := HK.out _ S6.out.old
        obtain ⟨f7, f8, f9, f10, f11, f12, f13⟩ := HK2.out _ S6.out.old
        have HY := Lib.hid (show be = true from by rw [← HB.out]; exact any_yes HC.out (any_yes HC2.out (by rw [HCO.out, hs]; rfl)))
        go_wp2_with fail
        go_ret
        exact ⟨by rw [HY.out] <;> rfl, S6.out.old⟩
       | false =>
        go_upto_region 7 with fail
        clear f0 f1 f2 f3 f4 f5 f6 f7 f8 f9 f10 f11 f12 f13
        refine wp_region_held_drew (S := (fun w' => (w'.cell? (oad.add (k * 7)) = some (.int .i64 kd) ∧ w'.cell? (⟨(oad.add (k * 7)).block, (oad.add (k * 7)).off + 1, none⟩) = some (.string st) ∧ w'.cell? (⟨(oad.add (k * 7)).block, (oad.add (k * 7)).off + 2, none⟩) = some (.int .i64 kk) ∧ w'.cell? (⟨(oad.add (k * 7)).block, (oad.add (k * 7)).off + 3, none⟩) = some (.int .i64 kn) ∧ w'.cell? (⟨(oad.add (k * 7)).block, (oad.add (k * 7)).off + 4, none⟩) = some (.string kt) ∧ w'.cell? (⟨(oad.add (k * 7)).block, (oad.add (k * 7)).off + 5, none⟩) = some (.slice ra rl.length rc) ∧ w'.cell? (⟨(oad.add (k * 7)).block, (oad.add (k * 7)).off + 6, none⟩) = some (.string fd)) ∧ (w'.cell? (oad2.add (m * 7)) = some (.int .i64 kd2) ∧ w'.cell? (⟨(oad2.add (m * 7)).block, (oad2.add (m * 7)).off + 1, none⟩) = some (.string st2) ∧ w'.cell? (⟨(oad2.add (m * 7)).block, (oad2.add (m * 7)).off + 2, none⟩) = some (.int .i64 kk2) ∧ w'.cell? (⟨(oad2.add (m * 7)).block, (oad2.add (m * 7)).off + 3, none⟩) = some (.int .i64 kn2) ∧ w'.cell? (⟨(oad2.add (m * 7)).block, (oad2.add (m * 7)).off + 4, none⟩) = some (.string kt2) ∧ w'.cell? (⟨(oad2.add (m * 7)).block, (oad2.add (m * 7)).off + 5, none⟩) = some (.slice ra2 rl2.length rc2) ∧ w'.cell? (⟨(oad2.add (m * 7)).block, (oad2.add (m * 7)).off + 6, none⟩) = some (.string fd2)))) (by kernel_rfl) ⟨HK.out _ (Bag.drew1 S3.out).old, HK2.out _ (Bag.drew1 S3.out).old⟩ (fun hS => ?_)
        have S4 := Lib.hid (Bag.drew1 S3.out)
        clear S3
        generalize World.drew _ = w1 at hS S4 ⊢
        refine tk 0 rfl ?_
        try simp only [zp0, zp1, zp2, zp3, zp4]
        refine tk 1 rfl ?_
        try simp only [zp0, zp1, zp2, zp3, zp4]
        refine tk 2 rfl ?_
        try simp only [zp0, zp1, zp2, zp3, zp4]
        refine tk 3 rfl ?_
        try simp only [zp0, zp1, zp2, zp3, zp4]
        refine tk 4 rfl ?_
        try simp only [zp0, zp1, zp2, zp3, zp4]
        refine tk 5 rfl ?_
        try simp only [zp0, zp1, zp2, zp3, zp4]
        refine tk 6 rfl ?_
        try simp only [zp0, zp1, zp2, zp3, zp4]
        refine tk 7 rfl ?_
        try simp only [zp0, zp1, zp2, zp3, zp4]
        refine tk 8 rfl ?_
        try simp only [zp0, zp1, zp2, zp3, zp4]
        refine tk 9 rfl ?_
        try simp only [zp0, zp1, zp2, zp3, zp4]
        refine tk 10 rfl ?_
        try simp only [zp0, zp1, zp2, zp3, zp4]
        refine tk 11 rfl ?_
        try simp only [zp0, zp1, zp2, zp3, zp4]
        refine tk 12 rfl ?_
        try simp only [zp0, zp1, zp2, zp3, zp4]
        refine tk 13 rfl ?_
        try simp only [zp0, zp1, zp2, zp3, zp4]
        refine tk 14 rfl ?_
        try simp only [zp0, zp1, zp2, zp3, zp4]
        refine tk 15 rfl ?_
        try simp only [zp0, zp1, zp2, zp3, zp4]
        refine Reg.one_op (i := 16) rfl (by kernel_rfl) (fun K hK => ?_)
        go_simp
        go_at_call 144
        refine (HIW.out _ S4.out.old).mono ?_
        rintro e w2 ⟨rfl, hb⟩
        have S5 := Lib.hid (S4.out.keep hb)
        clear S4
        clear hb
        go_wp2_with fail
        refine hK.out _ _ ⟨HK.out _ S5.out.old, HK2.out _ S5.out.old⟩ (fun hS => ?_)
        clear hK K
        try simp only [zp0, zp1, zp2, zp3, zp4]
        refine tk 17 rfl ?_
        try simp only [zp0, zp1, zp2, zp3, zp4]
        refine tk 18 rfl ?_
        try simp only [zp0, zp1, zp2, zp3, zp4]
        refine tk 19 rfl ?_
        try simp only [zp0, zp1, zp2, zp3, zp4]
        refine tk 20 rfl ?_
        try simp only [zp0, zp1, zp2, zp3, zp4]
        refine tk 21 rfl ?_
        try simp only [zp0, zp1, zp2, zp3, zp4]
        refine Reg.one_op (i := 22) rfl (by kernel_rfl) (fun K hK => ?_)
        go_simp
        go_at_call 144
        refine (HIW2.out _ S5.out.old).mono ?_
        rintro e w3 ⟨rfl, hb⟩
        have S6 := Lib.hid (S5.out.keep hb)
        clear S5
        clear hb
        go_wp2_with fail
        refine hK.out _ _ ⟨HK.out _ S6.out.old, HK2.out _ S6.out.old⟩ (fun hS => ?_)
        clear hK K
        try simp only [zp0, zp1, zp2, zp3, zp4]
        refine tk 23 rfl ?_
        try simp only [zp0, zp1, zp2, zp3, zp4]
        refine tk 24 rfl ?_
        try simp only [zp0, zp1, zp2, zp3, zp4]
        refine wpAnyH_done (by kernel_rfl) ?_ _
        obtain ⟨f0, f1, f2, f3, f4, f5, f6⟩ := HK.out _ S6.out.old
        obtain ⟨f7, f8, f9, f10, f11, f12, f13⟩ := HK2.out _ S6.out.old
        have HN0 := Lib.hid (show confO (⟨kd, st, ⟨kk, kn, kt⟩, rl, fd⟩ : X_Op) (⟨kd2, st2, ⟨kk2, kn2, kt2⟩, rl2, fd2⟩ : X_Op) = false from by rw [HCO.out, hs]; rfl)
        go_wp2_with fail
        go_roundw
        case rel => exact ⟨m + 1, by omega, by go_num, And.intro (fun j h1 h => by
         by_cases e : j < m
         ·
          exact HA2.out j h1 e
         ·
          obtain rfl : j = m := by omega
          rw [val_of HC2.out]; exact HN0.out) S6.out⟩
        case measure => simp [intOf]; omega
    ·
     skip
     obtain ⟨f0, f1, f2, f3, f4, f5, f6⟩ := HK.out _ S3.out.old
     go_wp2_with fail
     go_roundw
     case rel => exact ⟨k + 1, by omega, by go_num, And.intro (fun j h1 h => by
      by_cases e : j < k
      ·
       exact HA.out j h1 e
      ·
       obtain rfl : j = k := by omega
       rw [val_of HC.out]; exact any_no (fun j2 h2 => HA2.out j2 h2 (by rw [HSL.out.2] at h2; omega))) S3.out⟩
     case measure => simp [intOf]; omega
  ·
   skip
   have HNO := Lib.hid (show be = false from by rw [← HB.out]; exact any_no (fun j h1 => HA.out j h1 (by rw [HSL.out.1] at h1; omega)))
   go_wp2_with fail
   go_ret
   exact ⟨by rw [HNO.out] <;> rfl, S2.out.old⟩
set_option maxHeartbeats 8000000 in
theorem specCanStart_any (a : Option Addr) (c : Nat) (ts : List Y_Tx) (hl : ts.length ≤ 1048576) (hf : ∀ t ∈ coS_Tx ts, FitT t) (i : Int) (w : World) (hr : Reads w w.heap.size a (ts.flatMap cl_Tx)) (hx : RowsRd w w.heap.size (rws_Tx ts)) :
  Calls Try.prog 73 #[.agg #[.slice a ts.length c], .int .i64 i] w fun e w' => e = .returned (.bool (csQ (coS_Tx ts) i)) ∧ Below w.heap.size w w' := by
 have HR := Lib.hid (fun w' (h : Below w.heap.size w w') => hr.below h)
 have HX := Lib.hid (fun w' (h : Below w.heap.size w w') => (hx.below h).more h.size)
 have HF := Lib.hid hf
 obtain ⟨N, hN⟩ : ∃ n, n = ts.length := ⟨_, rfl⟩
 rw [← hN] at hl ⊢
 have hl' : (N : Int) ≤ 1048576 := by omega
 have HN := Lib.hid hN
 clear hN hr hx hf
 obtain ⟨be, hbe⟩ : ∃ b, csQ (coS_Tx ts) i = b := ⟨_, rfl⟩
 rw [hbe]
 have HB := Lib.hid hbe
 clear hbe
 have HSL := Lib.hid (show (coS_Tx ts).length = N from by rw [coT_len, HN.out])
 have hw1 : IntKind.i64.wrap ((N : Int) - 1) = (N : Int) - 1 := IntWalk.i64_in _ ⟨by omega, by omega⟩
 obtain ⟨bi, hbi⟩ : ∃ b, L1.inB i 0 ((N : Int) - 1) = b := ⟨_, rfl⟩
 have HIN := fun w => L1.l1In_any i 0 ((N : Int) - 1) w
 rw [hbi] at HIN
 replace HIN := Lib.hid HIN
 have HBI := Lib.hid hbi
 clear hbi
 have S1 := Lib.hid (show Sl.Sep w _ [_] from L4.push_box (Sl.Sep.start w) 98 #[.slice a N c] (w.heap.size) (by simp))
 obtain ⟨wa, hwa⟩ : ∃ w_, w_ = (w.alloc (.cells #[.slice a N c] 98)) := ⟨_, rfl⟩
 rw [← hwa] at S1
 go_enter Try.func73, Try.ntmps73
 go_upto_region 1 with fail
 rw [← hwa]
 clear hwa
 have f0 := Bag.cs1 S1.out 0 rfl
 cases bi with
 | false =>
  go_wp2_with fail
  go_at_call 91
  refine (HIN.out _).mono ?_
  rintro e w1 ⟨rfl, rfl⟩
  have HV := Lib.hid (show be = false from by rw [← HB.out]; exact csQ_out (by rw [HSL.out]; exact HBI.out))
  go_wp2_with fail
  go_ret
  exact ⟨by rw [HV.out] <;> rfl, S1.out.old⟩
 | true =>
  obtain ⟨k0, hk0⟩ : ∃ n : Nat, i = (n : Int) := ⟨i.toNat, by have h := L1.inB_true.1 HBI.out; omega⟩
  subst hk0
  have hkl : k0 < ts.length := by have h := L1.inB_true.1 HBI.out; have := HN.out; omega
  have hkN : (k0 : Int) < (N : Int) := by have := HN.out; omega
  clear f0
  obtain ⟨t, ht⟩ : ∃ x, ts[k0]? = some x := ⟨_, List.getElem?_eq_getElem hkl⟩
  obtain ⟨tad, e'⟩ := el_some cl_Tx_len (by decide) (HR.out _ S1.out.old) hkl
  subst e'
  have HKt := Lib.hid (fun w' (h : Below w.heap.size w w') => el5 cl_Tx_len (HR.out _ h) ht rfl)
  have HRt := Lib.hid (fun w' (h : Below w.heap.size w w') => rdTs (HX.out w' h) ht)
  have HCt := Lib.hid (coT_at ht)
  have HFt := Lib.hid (HF.out _ (List.mem_of_getElem? HCt.out))
  clear ht
  have f0 := Bag.cs1 S1.out 0 rfl
  obtain ⟨f1, f2, f3, f4, f5⟩ := HKt.out _ S1.out.old
  cases hst : t.f_State == 0 with
  | false =>
   have hst2 : (t.f_State != 0) = true := by rw [bne, hst]; rfl
   go_wp2_with fail
   go_at_call 91
   refine (HIN.out _).mono ?_
   rintro e w1 ⟨rfl, rfl⟩
   have HV := Lib.hid (show be = false from by rw [← HB.out]; exact csQ_state HCt.out hst)
   go_wp2_with fail
   go_ret
   exact ⟨by rw [HV.out] <;> rfl, S1.out.old⟩
  | true =>
   have hst2 : (t.f_State != 0) = false := by rw [bne, hst]; rfl
   have HST := Lib.hid hst
   go_wp2_with fail
   go_at_call 91
   refine (HIN.out _).mono ?_
   rintro e w1 ⟨rfl, rfl⟩
   go_wp2_with fail
   clear f0 f1 f2 f3 f4 f5
   clear hst hst2
   go_loopw [5] (fun v wr => ∃ k : Nat, k ≤ k0 ∧ v = .int .i64 k ∧ Hid ((∀ j (h1 : j < (coS_Tx ts).length), j < k → holdsBack (coS_Tx ts)[j] (co_Tx t) = false) ∧ Sl.Sep w wr [L4.boxR w.heap.size 98 #[.slice (some tad) N c]])) (fun v _ => k0 - (intOf v).toNat)
   case atStart => exact ⟨0, Nat.zero_le _, rfl, And.intro (fun j h1 h => absurd h (by omega)) S1.out⟩
   case round =>
    obtain ⟨k, hk, rfl, hrel⟩ := hrel
    have HA := Lib.hid hrel.out.1
    have S90 := Lib.hid hrel.out.2
    clear hrel S1
    by_cases hlt : (k : Int) < (k0 : Int)
    ·
     skip
     have hkl2 : k < ts.length := by omega
     have hkN2 : (k : Int) < (N : Int) := by omega
     obtain ⟨u, hu⟩ : ∃ x, ts[k]? = some x := ⟨_, List.getElem?_eq_getElem hkl2⟩
     have HKu := Lib.hid (fun w' (h : Below w.heap.size w w') => el5 cl_Tx_len (HR.out _ h) hu rfl)
     have HRu := Lib.hid (fun w' (h : Below w.heap.size w w') => rdTs (HX.out w' h) hu)
     have HCu := Lib.hid (coT_at hu)
     have HFu := Lib.hid (HF.out _ (List.mem_of_getElem? HCu.out))
     clear hu
     obtain ⟨bl, hbl⟩ : ∃ b, live u.f_State = b := ⟨_, rfl⟩
     have HIL := fun w => L1.l1In_any u.f_State 0 1 w
     rw [show L1.inB u.f_State 0 1 = bl from hbl ▸ live_eq _] at HIL
     replace HIL := Lib.hid HIL
     obtain ⟨bc, hbc⟩ : ∃ b, conf (coS_Op u.f_Ops) (coS_Op t.f_Ops) = b := ⟨_, rfl⟩
     have HCF := fun w' (h : Below w.heap.size w w') => specConflicts_any u.f_Ops_a u.f_Ops_c u.f_Ops (by have h := HFu.out.len; rwa [show (co_Tx u).f_Ops = coS_Op u.f_Ops from rfl, coS_len] at h) HFu.out.ops t.f_Ops_a t.f_Ops_c t.f_Ops (by have h := HFt.out.len; rwa [show (co_Tx t).f_Ops = coS_Op t.f_Ops from rfl, coS_len] at h) HFt.out.ops w' (rdTo (HRu.out w' h)) (rdTox (HRu.out w' h)) (rdTo (HRt.out w' h)) (rdTox (HRt.out w' h))
     rw [hbc] at HCF
     replace HCF := Lib.hid HCF
     have HHB := Lib.hid (show holdsBack (co_Tx u) (co_Tx t) = (bl && bc) from by rw [← hbl, ← hbc]; rfl)
     clear hbl hbc
     have f0 := Bag.cs1 S90.out 0 rfl
     obtain ⟨f1, f2, f3, f4, f5⟩ := HKt.out _ S90.out.old
     obtain ⟨f6, f7, f8, f9, f10⟩ := HKu.out _ S90.out.old
     cases bl with
     | false =>
      go_upto_region 6 with fail
      clear f0 f1 f2 f3 f4 f5 f6 f7 f8 f9 f10
      refine wp_region_held_drew (S := (fun w' => (w'.cell? ⟨w.heap.size, 0, none⟩ = some (.slice (some tad) N c)) ∧ (w'.cell? (tad.add (k0 * 5)) = some (.int .i64 t.f_Id) ∧ w'.cell? (⟨(tad.add (k0 * 5)).block, (tad.add (k0 * 5)).off + 1, none⟩) = some (.slice t.f_Ops_a t.f_Ops.length t.f_Ops_c) ∧ w'.cell? (⟨(tad.add (k0 * 5)).block, (tad.add (k0 * 5)).off + 2, none⟩) = some (.int .i64 t.f_At) ∧ w'.cell? (⟨(tad.add (k0 * 5)).block, (tad.add (k0 * 5)).off + 3, none⟩) = some (.int .i64 t.f_State) ∧ w'.cell? (⟨(tad.add (k0 * 5)).block, (tad.add (k0 * 5)).off + 4, none⟩) = some (.slice t.f_Backup_a t.f_Backup.length t.f_Backup_c)) ∧ (w'.cell? (tad.add (k * 5)) = some (.int .i64 u.f_Id) ∧ w'.cell? (⟨(tad.add (k * 5)).block, (tad.add (k * 5)).off + 1, none⟩) = some (.slice u.f_Ops_a u.f_Ops.length u.f_Ops_c) ∧ w'.cell? (⟨(tad.add (k * 5)).block, (tad.add (k * 5)).off + 2, none⟩) = some (.int .i64 u.f_At) ∧ w'.cell? (⟨(tad.add (k * 5)).block, (tad.add (k * 5)).off + 3, none⟩) = some (.int .i64 u.f_State) ∧ w'.cell? (⟨(tad.add (k * 5)).block, (tad.add (k * 5)).off + 4, none⟩) = some (.slice u.f_Backup_a u.f_Backup.length u.f_Backup_c)))) (by kernel_rfl) ⟨Bag.cs1 (Bag.drew1 S90.out) 0 rfl, HKt.out _ (Bag.drew1 S90.out).old, HKu.out _ (Bag.drew1 S90.out).old⟩ (fun hS => ?_)
      have S91 := Lib.hid (Bag.drew1 S90.out)
      clear S90
      generalize World.drew _ = w2 at hS S91 ⊢
      refine tk 0 rfl ?_
      try simp only [zp0, zp1, zp2, zp3, zp4]
      refine tk 1 rfl ?_
      try simp only [zp0, zp1, zp2, zp3, zp4]
      refine tk 2 rfl ?_
      try simp only [zp0, zp1, zp2, zp3, zp4]
      refine tk 3 rfl ?_
      try simp only [zp0, zp1, zp2, zp3, zp4]
      refine tk 4 rfl ?_
      try simp only [zp0, zp1, zp2, zp3, zp4]
      refine tk 5 rfl ?_
      try simp only [zp0, zp1, zp2, zp3, zp4]
      refine Reg.one_op (i := 6) rfl (by kernel_rfl) (fun K hK => ?_)
      go_simp
      go_at_call 91
      refine (HIL.out _).mono ?_
      rintro e w3 ⟨rfl, rfl⟩
      go_wp2_with fail
      refine hK.out _ _ ⟨Bag.cs1 S91.out 0 rfl, HKt.out _ S91.out.old, HKu.out _ S91.out.old⟩ (fun hS => ?_)
      clear hK K
      try simp only [zp0, zp1, zp2, zp3, zp4]
      refine tk 7 rfl ?_
      try simp only [zp0, zp1, zp2, zp3, zp4]
      refine sk 8 rfl ?_
      try simp only [zp0, zp1, zp2, zp3, zp4]
      refine sk 9 rfl ?_
      try simp only [zp0, zp1, zp2, zp3, zp4]
      refine sk 10 rfl ?_
      try simp only [zp0, zp1, zp2, zp3, zp4]
      refine sk 11 rfl ?_
      try simp only [zp0, zp1, zp2, zp3, zp4]
      refine sk 12 rfl ?_
      try simp only [zp0, zp1, zp2, zp3, zp4]
      refine sk 13 rfl ?_
      try simp only [zp0, zp1, zp2, zp3, zp4]
      refine sk 14 rfl ?_
      try simp only [zp0, zp1, zp2, zp3, zp4]
      refine sk 15 rfl ?_
      try simp only [zp0, zp1, zp2, zp3, zp4]
      refine sk 16 rfl ?_
      try simp only [zp0, zp1, zp2, zp3, zp4]
      refine sk 17 rfl ?_
      try simp only [zp0, zp1, zp2, zp3, zp4]
      refine sk 18 rfl ?_
      try simp only [zp0, zp1, zp2, zp3, zp4]
      refine sk 19 rfl ?_
      try simp only [zp0, zp1, zp2, zp3, zp4]
      refine Reg.skip_one (i := 20) rfl (by kernel_rfl) (by rfl) (by assumption) ?_
      try simp only [zp0, zp1, zp2, zp3, zp4]
      refine tk 21 rfl ?_
      try simp only [zp0, zp1, zp2, zp3, zp4]
      refine wpAnyH_done (by kernel_rfl) ?_ _
      have f0 := Bag.cs1 S91.out 0 rfl
      obtain ⟨f1, f2, f3, f4, f5⟩ := HKt.out _ S91.out.old
      obtain ⟨f6, f7, f8, f9, f10⟩ := HKu.out _ S91.out.old
      go_wp2_with fail
      go_roundw
      case rel => exact ⟨k + 1, by omega, by go_num, And.intro (fun j h1 h => by
       by_cases e : j < k
       ·
        exact HA.out j h1 e
       ·
        obtain rfl : j = k := by omega
        rw [val_of HCu.out, HHB.out]; rfl) S91.out⟩
      case measure => simp [intOf]; omega
     | true =>
      cases bc with
      | false =>
       go_upto_region 6 with fail
       clear f0 f1 f2 f3 f4 f5 f6 f7 f8 f9 f10
       refine wp_region_held_drew (S := (fun w' => (w'.cell? ⟨w.heap.size, 0, none⟩ = some (.slice (some tad) N c)) ∧ (w'.cell? (tad.add (k0 * 5)) = some (.int .i64 t.f_Id) ∧ w'.cell? (⟨(tad.add (k0 * 5)).block, (tad.add (k0 * 5)).off + 1, none⟩) = some (.slice t.f_Ops_a t.f_Ops.length t.f_Ops_c) ∧ w'.cell? (⟨(tad.add (k0 * 5)).block, (tad.add (k0 * 5)).off + 2, none⟩) = some (.int .i64 t.f_At) ∧ w'.cell? (⟨(tad.add (k0 * 5)).block, (tad.add (k0 * 5)).off + 3, none⟩) = some (.int .i64 t.f_State) ∧ w'.cell? (⟨(tad.add (k0 * 5)).block, (tad.add (k0 * 5)).off + 4, none⟩) = some (.slice t.f_Backup_a t.f_Backup.length t.f_Backup_c)) ∧ (w'.cell? (tad.add (k * 5)) = some (.int .i64 u.f_Id) ∧ w'.cell? (⟨(tad.add (k * 5)).block, (tad.add (k * 5)).off + 1, none⟩) = some (.slice u.f_Ops_a u.f_Ops.length u.f_Ops_c) ∧ w'.cell? (⟨(tad.add (k * 5)).block, (tad.add (k * 5)).off + 2, none⟩) = some (.int .i64 u.f_At) ∧ w'.cell? (⟨(tad.add (k * 5)).block, (tad.add (k * 5)).off + 3, none⟩) = some (.int .i64 u.f_State) ∧ w'.cell? (⟨(tad.add (k * 5)).block, (tad.add (k * 5)).off + 4, none⟩) = some (.slice u.f_Backup_a u.f_Backup.length u.f_Backup_c)))) (by kernel_rfl) ⟨Bag.cs1 (Bag.drew1 S90.out) 0 rfl, HKt.out _ (Bag.drew1 S90.out).old, HKu.out _ (Bag.drew1 S90.out).old⟩ (fun hS => ?_)
       have S91 := Lib.hid (Bag.drew1 S90.out)
       clear S90
       generalize World.drew _ = w2 at hS S91 ⊢
       refine tk 0 rfl ?_
       try simp only [zp0, zp1, zp2, zp3, zp4]
       refine tk 1 rfl ?_
       try simp only [zp0, zp1, zp2, zp3, zp4]
       refine tk 2 rfl ?_
       try simp only [zp0, zp1, zp2, zp3, zp4]
       refine tk 3 rfl ?_
       try simp only [zp0, zp1, zp2, zp3, zp4]
       refine tk 4 rfl ?_
       try simp only [zp0, zp1, zp2, zp3, zp4]
       refine tk 5 rfl ?_
       try simp only [zp0, zp1, zp2, zp3, zp4]
       refine Reg.one_op (i := 6) rfl (by kernel_rfl) (fun K hK => ?_)
       go_simp
       go_at_call 91
       refine (HIL.out _).mono ?_
       rintro e w3 ⟨rfl, rfl⟩
       go_wp2_with fail
       refine hK.out _ _ ⟨Bag.cs1 S91.out 0 rfl, HKt.out _ S91.out.old, HKu.out _ S91.out.old⟩ (fun hS => ?_)
       clear hK K
       try simp only [zp0, zp1, zp2, zp3, zp4]
       refine tk 7 rfl ?_
       try simp only [zp0, zp1, zp2, zp3, zp4]
       refine tk 8 rfl ?_
       try simp only [zp0, zp1, zp2, zp3, zp4]
       refine tk 9 rfl ?_
       try simp only [zp0, zp1, zp2, zp3, zp4]
       refine tk 10 rfl ?_
       try simp only [zp0, zp1, zp2, zp3, zp4]
       refine tk 11 rfl ?_
       try simp only [zp0, zp1, zp2, zp3, zp4]
       refine tk 12 rfl ?_
       try simp only [zp0, zp1, zp2, zp3, zp4]
       refine tk 13 rfl ?_
       try simp only [zp0, zp1, zp2, zp3, zp4]
       refine tk 14 rfl ?_
       try simp only [zp0, zp1, zp2, zp3, zp4]
       refine tk 15 rfl ?_
       try simp only [zp0, zp1, zp2, zp3, zp4]
       refine tk 16 rfl ?_
       try simp only [zp0, zp1, zp2, zp3, zp4]
       refine tk 17 rfl ?_
       try simp only [zp0, zp1, zp2, zp3, zp4]
       refine tk 18 rfl ?_
       try simp only [zp0, zp1, zp2, zp3, zp4]
       refine tk 19 rfl ?_
       try simp only [zp0, zp1, zp2, zp3, zp4]
       refine Reg.one_op (i := 20) rfl (by kernel_rfl) (fun K hK => ?_)
       go_simp
       go_at_call 71
       refine (HCF.out _ S91.out.old).mono ?_
       rintro e w4 ⟨rfl, hb⟩
       have S92 := Lib.hid (S91.out.keep hb)
       clear S91
       clear hb
       go_wp2_with fail
       refine hK.out _ _ ⟨Bag.cs1 S92.out 0 rfl, HKt.out _ S92.out.old, HKu.out _ S92.out.old⟩ (fun hS => ?_)
       clear hK K
       try simp only [zp0, zp1, zp2, zp3, zp4]
       refine tk 21 rfl ?_
       try simp only [zp0, zp1, zp2, zp3, zp4]
       refine wpAnyH_done (by kernel_rfl) ?_ _
       have f0 := Bag.cs1 S92.out 0 rfl
       obtain ⟨f1, f2, f3, f4, f5⟩ := HKt.out _ S92.out.old
       obtain ⟨f6, f7, f8, f9, f10⟩ := HKu.out _ S92.out.old
       go_wp2_with fail
       go_roundw
       case rel => exact ⟨k + 1, by omega, by go_num, And.intro (fun j h1 h => by
        by_cases e : j < k
        ·
         exact HA.out j h1 e
        ·
         obtain rfl : j = k := by omega
         rw [val_of HCu.out, HHB.out]; rfl) S92.out⟩
       case measure => simp [intOf]; omega
      | true =>
       go_upto_region 6 with fail
       clear f0 f1 f2 f3 f4 f5 f6 f7 f8 f9 f10
       refine wp_region_held_drew (S := (fun w' => (w'.cell? ⟨w.heap.size, 0, none⟩ = some (.slice (some tad) N c)) ∧ (w'.cell? (tad.add (k0 * 5)) = some (.int .i64 t.f_Id) ∧ w'.cell? (⟨(tad.add (k0 * 5)).block, (tad.add (k0 * 5)).off + 1, none⟩) = some (.slice t.f_Ops_a t.f_Ops.length t.f_Ops_c) ∧ w'.cell? (⟨(tad.add (k0 * 5)).block, (tad.add (k0 * 5)).off + 2, none⟩) = some (.int .i64 t.f_At) ∧ w'.cell? (⟨(tad.add (k0 * 5)).block, (tad.add (k0 * 5)).off + 3, none⟩) = some (.int .i64 t.f_State) ∧ w'.cell? (⟨(tad.add (k0 * 5)).block, (tad.add (k0 * 5)).off + 4, none⟩) = some (.slice t.f_Backup_a t.f_Backup.length t.f_Backup_c)) ∧ (w'.cell? (tad.add (k * 5)) = some (.int .i64 u.f_Id) ∧ w'.cell? (⟨(tad.add (k * 5)).block, (tad.add (k * 5)).off + 1, none⟩) = some (.slice u.f_Ops_a u.f_Ops.length u.f_Ops_c) ∧ w'.cell? (⟨(tad.add (k * 5)).block, (tad.add (k * 5)).off + 2, none⟩) = some (.int .i64 u.f_At) ∧ w'.cell? (⟨(tad.add (k * 5)).block, (tad.add (k * 5)).off + 3, none⟩) = some (.int .i64 u.f_State) ∧ w'.cell? (⟨(tad.add (k * 5)).block, (tad.add (k * 5)).off + 4, none⟩) = some (.slice u.f_Backup_a u.f_Backup.length u.f_Backup_c)))) (by kernel_rfl) ⟨Bag.cs1 (Bag.drew1 S90.out) 0 rfl, HKt.out _ (Bag.drew1 S90.out).old, HKu.out _ (Bag.drew1 S90.out).old⟩ (fun hS => ?_)
       have S91 := Lib.hid (Bag.drew1 S90.out)
       clear S90
       generalize World.drew _ = w2 at hS S91 ⊢
       refine tk 0 rfl ?_
       try simp only [zp0, zp1, zp2, zp3, zp4]
       refine tk 1 rfl ?_
       try simp only [zp0, zp1, zp2, zp3, zp4]
       refine tk 2 rfl ?_
       try simp only [zp0, zp1, zp2, zp3, zp4]
       refine tk 3 rfl ?_
       try simp only [zp0, zp1, zp2, zp3, zp4]
       refine tk 4 rfl ?_
       try simp only [zp0, zp1, zp2, zp3, zp4]
       refine tk 5 rfl ?_
       try simp only [zp0, zp1, zp2, zp3, zp4]
       refine Reg.one_op (i := 6) rfl (by kernel_rfl) (fun K hK => ?_)
       go_simp
       go_at_call 91
       refine (HIL.out _).mono ?_
       rintro e w3 ⟨rfl, rfl⟩
       go_wp2_with fail
       refine hK.out _ _ ⟨Bag.cs1 S91.out 0 rfl, HKt.out _ S91.out.old, HKu.out _ S91.out.old⟩ (fun hS => ?_)
       clear hK K
       try simp only [zp0, zp1, zp2, zp3, zp4]
       refine tk 7 rfl ?_
       try simp only [zp0, zp1, zp2, zp3, zp4]
       refine tk 8 rfl ?_
       try simp only [zp0, zp1, zp2, zp3, zp4]
       refine tk 9 rfl ?_
       try simp only [zp0, zp1, zp2, zp3, zp4]
       refine tk 10 rfl ?_
       try simp only [zp0, zp1, zp2, zp3, zp4]
       refine tk 11 rfl ?_
       try simp only [zp0, zp1, zp2, zp3, zp4]
       refine tk 12 rfl ?_
       try simp only [zp0, zp1, zp2, zp3, zp4]
       refine tk 13 rfl ?_
       try simp only [zp0, zp1, zp2, zp3, zp4]
       refine tk 14 rfl ?_
       try simp only [zp0, zp1, zp2, zp3, zp4]
       refine tk 15 rfl ?_
       try simp only [zp0, zp1, zp2, zp3, zp4]
       refine tk 16 rfl ?_
       try simp only [zp0, zp1, zp2, zp3, zp4]
       refine tk 17 rfl ?_
       try simp only [zp0, zp1, zp2, zp3, zp4]
       refine tk 18 rfl ?_
       try simp only [zp0, zp1, zp2, zp3, zp4]
       refine tk 19 rfl ?_
       try simp only [zp0, zp1, zp2, zp3, zp4]
       refine Reg.one_op (i := 20) rfl (by kernel_rfl) (fun K hK => ?_)
       go_simp
       go_at_call 71
       refine (HCF.out _ S91.out.old).mono ?_
       rintro e w4 ⟨rfl, hb⟩
       have S92 := Lib.hid (S91.out.keep hb)
       clear S91
       clear hb
       go_wp2_with fail
       refine hK.out _ _ ⟨Bag.cs1 S92.out 0 rfl, HKt.out _ S92.out.old, HKu.out _ S92.out.old⟩ (fun hS => ?_)
       clear hK K
       try simp only [zp0, zp1, zp2, zp3, zp4]
       refine tk 21 rfl ?_
       try simp only [zp0, zp1, zp2, zp3, zp4]
       refine wpAnyH_done (by kernel_rfl) ?_ _
       have f0 := Bag.cs1 S92.out 0 rfl
       obtain ⟨f1, f2, f3, f4, f5⟩ := HKt.out _ S92.out.old
       obtain ⟨f6, f7, f8, f9, f10⟩ := HKu.out _ S92.out.old
       have HV := Lib.hid (show be = false from by rw [← HB.out]; exact csQ_back HCt.out (show k < k0 by omega) HCu.out HHB.out)
       go_wp2_with fail
       go_ret
       exact ⟨by rw [HV.out] <;> rfl, S92.out.old⟩
    ·
     skip
     have f0 := Bag.cs1 S90.out 0 rfl
     obtain ⟨f1, f2, f3, f4, f5⟩ := HKt.out _ S90.out.old
     have HV := Lib.hid (show be = true from by rw [← HB.out]; exact csQ_yes HCt.out HST.out (fun j h1 h => HA.out j h1 (by omega)))
     go_wp2_with fail
     go_ret
     exact ⟨by rw [HV.out] <;> rfl, S90.out.old⟩
end Go.Proofs.Ytojcdmgcbgpdmaa.L10

namespace Go.Proofs.Ytojcdmgcbgpdmaa.L9
open V L6
open L4 (K isK cmpK)
open L5 (F isR isN string_geq)
open Go.Op (bytesLess)
open Go.ChangeShapes Go.WideShapes Go.ChangeAt Go.RowKit Mem Sl Ex L2 Sv Bag

def ifO (kd : Int) (v : Value) : Value := if kd = 1 then .iface 245 v else if kd = 2 then .iface 246 v else if kd = 3 then .iface 247 v else if kd = 4 then .iface 221 v else if kd = 5 then .iface 239 v else if kd = 6 then .iface 240 v else .nilIface
theorem ifO1 (v : Value) : ifO 1 v = .iface 245 v := rfl
theorem ifO2 (v : Value) : ifO 2 v = .iface 246 v := rfl
theorem ifO3 (v : Value) : ifO 3 v = .iface 247 v := rfl
theorem ifO4 (v : Value) : ifO 4 v = .iface 221 v := rfl
theorem ifO5 (v : Value) : ifO 5 v = .iface 239 v := rfl
theorem ifO6 (v : Value) : ifO 6 v = .iface 240 v := rfl
theorem ifO_no {kd : Int} (v : Value) (h : ¬ (kd = 1 ∨ kd = 2 ∨ kd = 3 ∨ kd = 4 ∨ kd = 5 ∨ kd = 6)) : ifO kd v = .nilIface := by
 unfold ifO
 rw [if_neg (by omega), if_neg (by omega), if_neg (by omega), if_neg (by omega), if_neg (by omega), if_neg (by omega)]
theorem nil_no (t : TypeId) (v : Value) (w : World) : (binOp .eql 219 (.iface t v) .nilIface).run Try.prog w = .ok (.bool false) w := by rfl
theorem nil_yes (w : World) : (binOp .eql 219 .nilIface .nilIface).run Try.prog w = .ok (.bool true) w := by rfl
theorem as_getOp (v : Value) (w : World) : (Instr.typeAssert (.iface 221 v) 219 221 true).run Try.prog w = .ok (.tuple #[v, .bool true]) w := by rfl
theorem not_getOp_nil (w : World) : (Instr.typeAssert .nilIface 219 221 true).run Try.prog w = .ok (.tuple #[.agg #[.int .i64 0, .string ⟨#[]⟩, .int .i64 0, .int .i64 0, .string ⟨#[]⟩, .slice none 0 0, .string ⟨#[]⟩], .bool false]) w := by kernel_rfl
theorem not_getOp_putOp (v : Value) (w : World) : (Instr.typeAssert (.iface 245 v) 219 221 true).run Try.prog w = .ok (.tuple #[.agg #[.int .i64 0, .string ⟨#[]⟩, .int .i64 0, .int .i64 0, .string ⟨#[]⟩, .slice none 0 0, .string ⟨#[]⟩], .bool false]) w := by kernel_rfl
theorem not_getOp_addOp (v : Value) (w : World) : (Instr.typeAssert (.iface 246 v) 219 221 true).run Try.prog w = .ok (.tuple #[.agg #[.int .i64 0, .string ⟨#[]⟩, .int .i64 0, .int .i64 0, .string ⟨#[]⟩, .slice none 0 0, .string ⟨#[]⟩], .bool false]) w := by kernel_rfl
theorem not_getOp_deleteOp (v : Value) (w : World) : (Instr.typeAssert (.iface 247 v) 219 221 true).run Try.prog w = .ok (.tuple #[.agg #[.int .i64 0, .string ⟨#[]⟩, .int .i64 0, .int .i64 0, .string ⟨#[]⟩, .slice none 0 0, .string ⟨#[]⟩], .bool false]) w := by kernel_rfl
theorem not_getOp_clearOp (v : Value) (w : World) : (Instr.typeAssert (.iface 239 v) 219 221 true).run Try.prog w = .ok (.tuple #[.agg #[.int .i64 0, .string ⟨#[]⟩, .int .i64 0, .int .i64 0, .string ⟨#[]⟩, .slice none 0 0, .string ⟨#[]⟩], .bool false]) w := by kernel_rfl
theorem not_getOp_incOp (v : Value) (w : World) : (Instr.typeAssert (.iface 240 v) 219 221 true).run Try.prog w = .ok (.tuple #[.agg #[.int .i64 0, .string ⟨#[]⟩, .int .i64 0, .int .i64 0, .string ⟨#[]⟩, .slice none 0 0, .string ⟨#[]⟩], .bool false]) w := by kernel_rfl
set_option maxHeartbeats 4000000 in
theorem operationOf_any (o : Y_Op) (w : World) :
  Calls Try.prog 202 #[vv_Op o] w fun e w' => e = .returned (ifO o.f_Kind (vv_Op o)) ∧ Below w.heap.size w w' := by
 obtain ⟨kd, st, ⟨kk, kn, kt⟩, ⟨ra, rc, rl⟩, fd⟩ := o
 unfold vv_Op
 dsimp only
 rcases (show kd = 1 ∨ kd = 2 ∨ kd = 3 ∨ kd = 4 ∨ kd = 5 ∨ kd = 6 ∨ ¬ (kd = 1 ∨ kd = 2 ∨ kd = 3 ∨ kd = 4 ∨ kd = 5 ∨ kd = 6) by omega) with rfl | rfl | rfl | rfl | rfl | rfl | hno
 ·
  skip
  rw [ifO1]
  have S1 := Lib.hid (show Sl.Sep w _ [_] from L4.push_box (Sl.Sep.start w) 148 #[.int .i64 1, .string st, .int .i64 kk, .int .i64 kn, .string kt, .slice ra rl.length rc, .string fd] (w.heap.size) (by simp))
  obtain ⟨wa, hwa⟩ : ∃ w_, w_ = (w.alloc (.cells #[.int .i64 1, .string st, .int .i64 kk, .int .i64 kn, .string kt, .slice ra rl.length rc, .string fd] 148)) := ⟨_, rfl⟩
  rw [← hwa] at S1
  go_enter Try.func202, Try.ntmps202
  go_upto_region 1 with fail
  rw [← hwa]
  clear hwa
  obtain ⟨f0, f1, f2, f3, f4, f5, f6⟩ := Bag.cs7 S1.out 0 rfl
  go_wp2_with fail
  go_ret
  exact ⟨rfl, S1.out.old⟩
 ·
  skip
  rw [ifO2]
  have S1 := Lib.hid (show Sl.Sep w _ [_] from L4.push_box (Sl.Sep.start w) 148 #[.int .i64 2, .string st, .int .i64 kk, .int .i64 kn, .string kt, .slice ra rl.length rc, .string fd] (w.heap.size) (by simp))
  obtain ⟨wa, hwa⟩ : ∃ w_, w_ = (w.alloc (.cells #[.int .i64 2, .string st, .int .i64 kk, .int .i64 kn, .string kt, .slice ra rl.length rc, .string fd] 148)) := ⟨_, rfl⟩
  rw [← hwa] at S1
  go_enter Try.func202, Try.ntmps202
  go_upto_region 1 with fail
  rw [← hwa]
  clear hwa
  obtain ⟨f0, f1, f2, f3, f4, f5, f6⟩ := Bag.cs7 S1.out 0 rfl
  go_wp2_with fail
  go_ret
  exact ⟨rfl, S1.out.old⟩
 ·
  skip
  rw [ifO3]
  have S1 := Lib.hid (show Sl.Sep w _ [_] from L4.push_box (Sl.Sep.start w) 148 #[.int .i64 3, .string st, .int .i64 kk, .int .i64 kn, .string kt, .slice ra rl.length rc, .string fd] (w.heap.size) (by simp))
  obtain ⟨wa, hwa⟩ : ∃ w_, w_ = (w.alloc (.cells #[.int .i64 3, .string st, .int .i64 kk, .int .i64 kn, .string kt, .slice ra rl.length rc, .string fd] 148)) := ⟨_, rfl⟩
  rw [← hwa] at S1
  go_enter Try.func202, Try.ntmps202
  go_upto_region 1 with fail
  rw [← hwa]
  clear hwa
  obtain ⟨f0, f1, f2, f3, f4, f5, f6⟩ := Bag.cs7 S1.out 0 rfl
  go_wp2_with fail
  go_ret
  exact ⟨rfl, S1.out.old⟩
 ·
  skip
  rw [ifO4]
  have S1 := Lib.hid (show Sl.Sep w _ [_] from L4.push_box (Sl.Sep.start w) 148 #[.int .i64 4, .string st, .int .i64 kk, .int .i64 kn, .string kt, .slice ra rl.length rc, .string fd] (w.heap.size) (by simp))
  obtain ⟨wa, hwa⟩ : ∃ w_, w_ = (w.alloc (.cells #[.int .i64 4, .string st, .int .i64 kk, .int .i64 kn, .string kt, .slice ra rl.length rc, .string fd] 148)) := ⟨_, rfl⟩
  rw [← hwa] at S1
  go_enter Try.func202, Try.ntmps202
  go_upto_region 1 with fail
  rw [← hwa]
  clear hwa
  obtain ⟨f0, f1, f2, f3, f4, f5, f6⟩ := Bag.cs7 S1.out 0 rfl
  go_wp2_with fail
  go_ret
  exact ⟨rfl, S1.out.old⟩
 ·
  skip
  rw [ifO5]
  have S1 := Lib.hid (show Sl.Sep w _ [_] from L4.push_box (Sl.Sep.start w) 148 #[.int .i64 5, .string st, .int .i64 kk, .int .i64 kn, .string kt, .slice ra rl.length rc, .string fd] (w.heap.size) (by simp))
  obtain ⟨wa, hwa⟩ : ∃ w_, w_ = (w.alloc (.cells #[.int .i64 5, .string st, .int .i64 kk, .int .i64 kn, .string kt, .slice ra rl.length rc, .string fd] 148)) := ⟨_, rfl⟩
  rw [← hwa] at S1
  go_enter Try.func202, Try.ntmps202
  go_upto_region 1 with fail
  rw [← hwa]
  clear hwa
  obtain ⟨f0, f1, f2, f3, f4, f5, f6⟩ := Bag.cs7 S1.out 0 rfl
  go_wp2_with fail
  go_ret
  exact ⟨rfl, S1.out.old⟩
 ·
  skip
  rw [ifO6]
  have S1 := Lib.hid (show Sl.Sep w _ [_] from L4.push_box (Sl.Sep.start w) 148 #[.int .i64 6, .string st, .int .i64 kk, .int .i64 kn, .string kt, .slice ra rl.length rc, .string fd] (w.heap.size) (by simp))
  obtain ⟨wa, hwa⟩ : ∃ w_, w_ = (w.alloc (.cells #[.int .i64 6, .string st, .int .i64 kk, .int .i64 kn, .string kt, .slice ra rl.length rc, .string fd] 148)) := ⟨_, rfl⟩
  rw [← hwa] at S1
  go_enter Try.func202, Try.ntmps202
  go_upto_region 1 with fail
  rw [← hwa]
  clear hwa
  obtain ⟨f0, f1, f2, f3, f4, f5, f6⟩ := Bag.cs7 S1.out 0 rfl
  go_wp2_with fail
  go_ret
  exact ⟨rfl, S1.out.old⟩
 ·
  skip
  rw [ifO_no _ hno]
  have n1 : ¬ kd = 1 := by omega
  have n2 : ¬ kd = 2 := by omega
  have n3 : ¬ kd = 3 := by omega
  have n4 : ¬ kd = 4 := by omega
  have n5 : ¬ kd = 5 := by omega
  have n6 : ¬ kd = 6 := by omega
  clear hno
  have S1 := Lib.hid (show Sl.Sep w _ [_] from L4.push_box (Sl.Sep.start w) 148 #[.int .i64 kd, .string st, .int .i64 kk, .int .i64 kn, .string kt, .slice ra rl.length rc, .string fd] (w.heap.size) (by simp))
  obtain ⟨wa, hwa⟩ : ∃ w_, w_ = (w.alloc (.cells #[.int .i64 kd, .string st, .int .i64 kk, .int .i64 kn, .string kt, .slice ra rl.length rc, .string fd] 148)) := ⟨_, rfl⟩
  rw [← hwa] at S1
  go_enter Try.func202, Try.ntmps202
  go_upto_region 1 with fail
  rw [← hwa]
  clear hwa
  obtain ⟨f0, f1, f2, f3, f4, f5, f6⟩ := Bag.cs7 S1.out 0 rfl
  go_wp2_with fail
  go_ret
  exact ⟨rfl, S1.out.old⟩
set_option maxHeartbeats 4000000 in
theorem isWrite_any (o : Y_Op) (w : World) :
  Calls Try.prog 148 #[vv_Op o] w fun e w' => e = .returned (.bool (isW (co_Op o).f_Kind)) ∧ Below w.heap.size w w' := by
 obtain ⟨kd, st, ⟨kk, kn, kt⟩, ⟨ra, rc, rl⟩, fd⟩ := o
 unfold vv_Op
 dsimp only [co_Op]
 rcases (show kd = 1 ∨ kd = 2 ∨ kd = 3 ∨ kd = 4 ∨ kd = 5 ∨ kd = 6 ∨ ¬ (kd = 1 ∨ kd = 2 ∨ kd = 3 ∨ kd = 4 ∨ kd = 5 ∨ kd = 6) by omega) with rfl | rfl | rfl | rfl | rfl | rfl | hno
 ·
  skip
  have HOF := fun w => operationOf_any ⟨1, st, ⟨kk, kn, kt⟩, ⟨ra, rc, rl⟩, fd⟩ w
  unfold vv_Op at HOF
  dsimp only at HOF
  rw [ifO1] at HOF
  replace HOF := Lib.hid HOF
  have hnil := fun v w => nil_no 245 v w
  have asgetOp := not_getOp_putOp
  have HW : isW 1 = true := by decide
  rw [HW]
  clear HW
  have S1 := Lib.hid (show Sl.Sep w _ [_] from L4.push_box (Sl.Sep.start w) 148 #[.int .i64 1, .string st, .int .i64 kk, .int .i64 kn, .string kt, .slice ra rl.length rc, .string fd] (w.heap.size) (by simp))
  obtain ⟨wa, hwa⟩ : ∃ w_, w_ = (w.alloc (.cells #[.int .i64 1, .string st, .int .i64 kk, .int .i64 kn, .string kt, .slice ra rl.length rc, .string fd] 148)) := ⟨_, rfl⟩
  rw [← hwa] at S1
  go_enter Try.func148, Try.ntmps148
  go_upto_region 1 with fail
  rw [← hwa]
  clear hwa
  obtain ⟨f0, f1, f2, f3, f4, f5, f6⟩ := Bag.cs7 S1.out 0 rfl
  go_wp2_with fail
  go_at_call 202
  refine (HOF.out _).mono ?_
  rintro e w1 ⟨rfl, hb⟩
  clear f0 f1 f2 f3 f4 f5 f6
  have S2 := Lib.hid (S1.out.keep hb)
  clear S1
  clear hb
  obtain ⟨f0, f1, f2, f3, f4, f5, f6⟩ := Bag.cs7 S2.out 0 rfl
  go_wp2_with fail
  go_ret
  exact ⟨by rfl, S2.out.old⟩
 ·
  skip
  have HOF := fun w => operationOf_any ⟨2, st, ⟨kk, kn, kt⟩, ⟨ra, rc, rl⟩, fd⟩ w
  unfold vv_Op at HOF
  dsimp only at HOF
  rw [ifO2] at HOF
  replace HOF := Lib.hid HOF
  have hnil := fun v w => nil_no 246 v w
  have asgetOp := not_getOp_addOp
  have HW : isW 2 = true := by decide
  rw [HW]
  clear HW
  have S1 := Lib.hid (show Sl.Sep w _ [_] from L4.push_box (Sl.Sep.start w) 148 #[.int .i64 2, .string st, .int .i64 kk, .int .i64 kn, .string kt, .slice ra rl.length rc, .string fd] (w.heap.size) (by simp))
  obtain ⟨wa, hwa⟩ : ∃ w_, w_ = (w.alloc (.cells #[.int .i64 2, .string st, .int .i64 kk, .int .i64 kn, .string kt, .slice ra rl.length rc, .string fd] 148)) := ⟨_, rfl⟩
  rw [← hwa] at S1
  go_enter Try.func148, Try.ntmps148
  go_upto_region 1 with fail
  rw [← hwa]
  clear hwa
  obtain ⟨f0, f1, f2, f3, f4, f5, f6⟩ := Bag.cs7 S1.out 0 rfl
  go_wp2_with fail
  go_at_call 202
  refine (HOF.out _).mono ?_
  rintro e w1 ⟨rfl, hb⟩
  clear f0 f1 f2 f3 f4 f5 f6
  have S2 := Lib.hid (S1.out.keep hb)
  clear S1
  clear hb
  obtain ⟨f0, f1, f2, f3, f4, f5, f6⟩ := Bag.cs7 S2.out 0 rfl
  go_wp2_with fail
  go_ret
  exact ⟨by rfl, S2.out.old⟩
 ·
  skip
  have HOF := fun w => operationOf_any ⟨3, st, ⟨kk, kn, kt⟩, ⟨ra, rc, rl⟩, fd⟩ w
  unfold vv_Op at HOF
  dsimp only at HOF
  rw [ifO3] at HOF
  replace HOF := Lib.hid HOF
  have hnil := fun v w => nil_no 247 v w
  have asgetOp := not_getOp_deleteOp
  have HW : isW 3 = true := by decide
  rw [HW]
  clear HW
  have S1 := Lib.hid (show Sl.Sep w _ [_] from L4.push_box (Sl.Sep.start w) 148 #[.int .i64 3, .string st, .int .i64 kk, .int .i64 kn, .string kt, .slice ra rl.length rc, .string fd] (w.heap.size) (by simp))
  obtain ⟨wa, hwa⟩ : ∃ w_, w_ = (w.alloc (.cells #[.int .i64 3, .string st, .int .i64 kk, .int .i64 kn, .string kt, .slice ra rl.length rc, .string fd] 148)) := ⟨_, rfl⟩
  rw [← hwa] at S1
  go_enter Try.func148, Try.ntmps148
  go_upto_region 1 with fail
  rw [← hwa]
  clear hwa
  obtain ⟨f0, f1, f2, f3, f4, f5, f6⟩ := Bag.cs7 S1.out 0 rfl
  go_wp2_with fail
  go_at_call 202
  refine (HOF.out _).mono ?_
  rintro e w1 ⟨rfl, hb⟩
  clear f0 f1 f2 f3 f4 f5 f6
  have S2 := Lib.hid (S1.out.keep hb)
  clear S1
  clear hb
  obtain ⟨f0, f1, f2, f3, f4, f5, f6⟩ := Bag.cs7 S2.out 0 rfl
  go_wp2_with fail
  go_ret
  exact ⟨by rfl, S2.out.old⟩
 ·
  skip
  have HOF := fun w => operationOf_any ⟨4, st, ⟨kk, kn, kt⟩, ⟨ra, rc, rl⟩, fd⟩ w
  unfold vv_Op at HOF
  dsimp only at HOF
  rw [ifO4] at HOF
  replace HOF := Lib.hid HOF
  have hnil := fun v w => nil_no 221 v w
  have asgetOp := as_getOp
  have HW : isW 4 = false := by decide
  rw [HW]
  clear HW
  have S1 := Lib.hid (show Sl.Sep w _ [_] from L4.push_box (Sl.Sep.start w) 148 #[.int .i64 4, .string st, .int .i64 kk, .int .i64 kn, .string kt, .slice ra rl.length rc, .string fd] (w.heap.size) (by simp))
  obtain ⟨wa, hwa⟩ : ∃ w_, w_ = (w.alloc (.cells #[.int .i64 4, .string st, .int .i64 kk, .int .i64 kn, .string kt, .slice ra rl.length rc, .string fd] 148)) := ⟨_, rfl⟩
  rw [← hwa] at S1
  go_enter Try.func148, Try.ntmps148
  go_upto_region 1 with fail
  rw [← hwa]
  clear hwa
  obtain ⟨f0, f1, f2, f3, f4, f5, f6⟩ := Bag.cs7 S1.out 0 rfl
  go_wp2_with fail
  go_at_call 202
  refine (HOF.out _).mono ?_
  rintro e w1 ⟨rfl, hb⟩
  clear f0 f1 f2 f3 f4 f5 f6
  have S2 := Lib.hid (S1.out.keep hb)
  clear S1
  clear hb
  obtain ⟨f0, f1, f2, f3, f4, f5, f6⟩ := Bag.cs7 S2.out 0 rfl
  go_wp2_with fail
  go_ret
  exact ⟨by rfl, S2.out.old⟩
 ·
  skip
  have HOF := fun w => operationOf_any ⟨5, st, ⟨kk, kn, kt⟩, ⟨ra, rc, rl⟩, fd⟩ w
  unfold vv_Op at HOF
  dsimp only at HOF
  rw [ifO5] at HOF
  replace HOF := Lib.hid HOF
  have hnil := fun v w => nil_no 239 v w
  have asgetOp := not_getOp_clearOp
  have HW : isW 5 = true := by decide
  rw [HW]
  clear HW
  have S1 := Lib.hid (show Sl.Sep w _ [_] from L4.push_box (Sl.Sep.start w) 148 #[.int .i64 5, .string st, .int .i64 kk, .int .i64 kn, .string kt, .slice ra rl.length rc, .string fd] (w.heap.size) (by simp))
  obtain ⟨wa, hwa⟩ : ∃ w_, w_ = (w.alloc (.cells #[.int .i64 5, .string st, .int .i64 kk, .int .i64 kn, .string kt, .slice ra rl.length rc, .string fd] 148)) := ⟨_, rfl⟩
  rw [← hwa] at S1
  go_enter Try.func148, Try.ntmps148
  go_upto_region 1 with fail
  rw [← hwa]
  clear hwa
  obtain ⟨f0, f1, f2, f3, f4, f5, f6⟩ := Bag.cs7 S1.out 0 rfl
  go_wp2_with fail
  go_at_call 202
  refine (HOF.out _).mono ?_
  rintro e w1 ⟨rfl, hb⟩
  clear f0 f1 f2 f3 f4 f5 f6
  have S2 := Lib.hid (S1.out.keep hb)
  clear S1
  clear hb
  obtain ⟨f0, f1, f2, f3, f4, f5, f6⟩ := Bag.cs7 S2.out 0 rfl
  go_wp2_with fail
  go_ret
  exact ⟨by rfl, S2.out.old⟩
 ·
  skip
  have HOF := fun w => operationOf_any ⟨6, st, ⟨kk, kn, kt⟩, ⟨ra, rc, rl⟩, fd⟩ w
  unfold vv_Op at HOF
  dsimp only at HOF
  rw [ifO6] at HOF
  replace HOF := Lib.hid HOF
  have hnil := fun v w => nil_no 240 v w
  have asgetOp := not_getOp_incOp
  have HW : isW 6 = true := by decide
  rw [HW]
  clear HW
  have S1 := Lib.hid (show Sl.Sep w _ [_] from L4.push_box (Sl.Sep.start w) 148 #[.int .i64 6, .string st, .int .i64 kk, .int .i64 kn, .string kt, .slice ra rl.length rc, .string fd] (w.heap.size) (by simp))
  obtain ⟨wa, hwa⟩ : ∃ w_, w_ = (w.alloc (.cells #[.int .i64 6, .string st, .int .i64 kk, .int .i64 kn, .string kt, .slice ra rl.length rc, .string fd] 148)) := ⟨_, rfl⟩
  rw [← hwa] at S1
  go_enter Try.func148, Try.ntmps148
  go_upto_region 1 with fail
  rw [← hwa]
  clear hwa
  obtain ⟨f0, f1, f2, f3, f4, f5, f6⟩ := Bag.cs7 S1.out 0 rfl
  go_wp2_with fail
  go_at_call 202
  refine (HOF.out _).mono ?_
  rintro e w1 ⟨rfl, hb⟩
  clear f0 f1 f2 f3 f4 f5 f6
  have S2 := Lib.hid (S1.out.keep hb)
  clear S1
  clear hb
  obtain ⟨f0, f1, f2, f3, f4, f5, f6⟩ := Bag.cs7 S2.out 0 rfl
  go_wp2_with fail
  go_ret
  exact ⟨by rfl, S2.out.old⟩
 ·
  skip
  have HOF := fun w => operationOf_any ⟨kd, st, ⟨kk, kn, kt⟩, ⟨ra, rc, rl⟩, fd⟩ w
  unfold vv_Op at HOF
  dsimp only at HOF
  rw [ifO_no _ hno] at HOF
  replace HOF := Lib.hid HOF
  have hnil := nil_yes
  have asgetOp := not_getOp_nil
  have HW : isW kd = false := by unfold isW; rw [inB_no (by omega) (by omega) (by omega) (by omega) (by omega) (by omega)]; rfl
  rw [HW]
  clear HW
  have S1 := Lib.hid (show Sl.Sep w _ [_] from L4.push_box (Sl.Sep.start w) 148 #[.int .i64 kd, .string st, .int .i64 kk, .int .i64 kn, .string kt, .slice ra rl.length rc, .string fd] (w.heap.size) (by simp))
  obtain ⟨wa, hwa⟩ : ∃ w_, w_ = (w.alloc (.cells #[.int .i64 kd, .string st, .int .i64 kk, .int .i64 kn, .string kt, .slice ra rl.length rc, .string fd] 148)) := ⟨_, rfl⟩
  rw [← hwa] at S1
  go_enter Try.func148, Try.ntmps148
  go_upto_region 1 with fail
  rw [← hwa]
  clear hwa
  obtain ⟨f0, f1, f2, f3, f4, f5, f6⟩ := Bag.cs7 S1.out 0 rfl
  go_wp2_with fail
  go_at_call 202
  refine (HOF.out _).mono ?_
  rintro e w1 ⟨rfl, hb⟩
  clear f0 f1 f2 f3 f4 f5 f6
  have S2 := Lib.hid (S1.out.keep hb)
  clear S1
  clear hb
  obtain ⟨f0, f1, f2, f3, f4, f5, f6⟩ := Bag.cs7 S2.out 0 rfl
  go_wp2_with fail
  go_ret
  exact ⟨by rfl, S2.out.old⟩
end Go.Proofs.Ytojcdmgcbgpdmaa.L9

namespace Go.Proofs.Ytojcdmgcbgpdmaa.V
open Go.ChangeShapes Go.WideShapes Go.ChangeAt Go.RowKit Mem Sl Sv Bag

section
variable {α : Type} {cl : α → List Value} {m : Nat} {w : World} {B k g : Nat} {xs : List α}
theorem reads_pre {a : Option Addr} {vs us : List Value} (h : Reads w B a (vs ++ us)) : Reads w B a vs := fun j hj => by
 obtain ⟨ad, e, hb, hc⟩ := h j (by rw [List.length_append]; omega)
 exact ⟨ad, e, hb, by rw [hc, List.getElem_append_left hj]⟩
theorem reads_take {a : Option Addr} (h : Reads w B a (xs.flatMap cl)) (k : Nat) : Reads w B a ((xs.take k).flatMap cl) := by
 have e : xs.flatMap cl = (xs.take k).flatMap cl ++ (xs.drop k).flatMap cl := by rw [← List.flatMap_append, List.take_append_drop]
 rw [e] at h
 exact reads_pre h
end
section
variable {P : Program} {W w : World} {rs : List Res} {e : TypeId} {k c n g : Nat} {xs : List Value}
end
end Go.Proofs.Ytojcdmgcbgpdmaa.V

set_option linter.unusedSimpArgs false
namespace Go.Proofs.Ytojcdmgcbgpdmaa.L10
open V L6 L9
open L4 (K isK cmpK)
open L5 (F isR isN string_geq)
open Go.Op (bytesLess)
open Go.ChangeShapes Go.WideShapes Go.ChangeAt Go.RowKit Mem Sl Ex L2 Sv Bag

set_option maxHeartbeats 4000000 in
theorem conf11_any (x y : Y_Op) (g : Nat) (w : World) (hg : g < w.heap.size) (hx : w.cell? ⟨g, 0, none⟩ = some (.int .i64 x.f_Kind) ∧ w.cell? ⟨g, 1, none⟩ = some (.string x.f_Store) ∧ w.cell? ⟨g, 2, none⟩ = some (.int .i64 x.f_Key.kind) ∧ w.cell? ⟨g, 3, none⟩ = some (.int .i64 x.f_Key.n) ∧ w.cell? ⟨g, 4, none⟩ = some (.string x.f_Key.text) ∧ w.cell? ⟨g, 5, none⟩ = some (.slice x.f_Record.a x.f_Record.l.length x.f_Record.c) ∧ w.cell? ⟨g, 6, none⟩ = some (.string x.f_Field)) :
  Calls Try.prog 147 #[vv_Op y, .pointer (some ⟨g, 0, none⟩)] w fun e w' => e = .returned (.bool (confO (co_Op x) (co_Op y))) ∧ Below w.heap.size w w' := by
 have HK := Lib.hid (fun w' (h : Below w.heap.size w w') => (⟨(h.cell (p := ⟨g, 0, none⟩) hg).trans hx.1, (h.cell (p := ⟨g, 1, none⟩) hg).trans hx.2.1, (h.cell (p := ⟨g, 2, none⟩) hg).trans hx.2.2.1, (h.cell (p := ⟨g, 3, none⟩) hg).trans hx.2.2.2.1, (h.cell (p := ⟨g, 4, none⟩) hg).trans hx.2.2.2.2.1, (h.cell (p := ⟨g, 5, none⟩) hg).trans hx.2.2.2.2.2.1, (h.cell (p := ⟨g, 6, none⟩) hg).trans hx.2.2.2.2.2.2⟩ : w'.cell? ⟨g, 0, none⟩ = some (.int .i64 x.f_Kind) ∧ w'.cell? ⟨g, 1, none⟩ = some (.string x.f_Store) ∧ w'.cell? ⟨g, 2, none⟩ = some (.int .i64 x.f_Key.kind) ∧ w'.cell? ⟨g, 3, none⟩ = some (.int .i64 x.f_Key.n) ∧ w'.cell? ⟨g, 4, none⟩ = some (.string x.f_Key.text) ∧ w'.cell? ⟨g, 5, none⟩ = some (.slice x.f_Record.a x.f_Record.l.length x.f_Record.c) ∧ w'.cell? ⟨g, 6, none⟩ = some (.string x.f_Field)))
 clear hx
 obtain ⟨bw, hbw⟩ : ∃ b, isW x.f_Kind = b := ⟨_, rfl⟩
 obtain ⟨bw2, hbw2⟩ : ∃ b, isW y.f_Kind = b := ⟨_, rfl⟩
 have HIW := fun w' => isWrite_any x w'
 have HIW2 := fun w' => isWrite_any y w'
 rw [show (co_Op x).f_Kind = x.f_Kind from rfl, hbw] at HIW
 rw [show (co_Op y).f_Kind = y.f_Kind from rfl, hbw2] at HIW2
 unfold vv_Op at HIW HIW2 ⊢
 replace HIW := Lib.hid HIW
 replace HIW2 := Lib.hid HIW2
 obtain ⟨B, hB⟩ : ∃ b, confO (co_Op x) (co_Op y) = b := ⟨_, rfl⟩
 rw [hB]
 have HCO := Lib.hid (show B = (x.f_Store.toList == y.f_Store.toList && (bw || bw2)) from by rw [← hB, ← hbw, ← hbw2]; rfl)
 clear hB hbw hbw2
 have S1 := Lib.hid (show Sl.Sep w _ [_] from L4.push_box (Sl.Sep.start w) 148 #[.int .i64 y.f_Kind, .string y.f_Store, .int .i64 y.f_Key.kind, .int .i64 y.f_Key.n, .string y.f_Key.text, .slice y.f_Record.a y.f_Record.l.length y.f_Record.c, .string y.f_Field] (w.heap.size) (by simp))
 obtain ⟨wa, hwa⟩ : ∃ w_, w_ = (w.alloc (.cells #[.int .i64 y.f_Kind, .string y.f_Store, .int .i64 y.f_Key.kind, .int .i64 y.f_Key.n, .string y.f_Key.text, .slice y.f_Record.a y.f_Record.l.length y.f_Record.c, .string y.f_Field] 148)) := ⟨_, rfl⟩
 rw [← hwa] at S1
 go_enter Try.func147, Try.ntmps147
 go_upto_region 1 with fail
 rw [← hwa]
 clear hwa
 obtain ⟨f0, f1, f2, f3, f4, f5, f6⟩ := Bag.cs7 S1.out 0 rfl
 obtain ⟨f7, f8, f9, f10, f11, f12, f13⟩ := HK.out _ S1.out.old
 cases hs : x.f_Store.toList == y.f_Store.toList with
 | false =>
  have HV := Lib.hid (show B = false from by rw [HCO.out, hs]; rfl)
  go_wp2_with fail
  go_ret
  exact ⟨by rw [HV.out] <;> rfl, S1.out.old⟩
 | true =>
  cases bw with
  | true =>
   go_wp2_with fail
   go_at_call 148
   refine (HIW.out _).mono ?_
   rintro e w1 ⟨rfl, hb⟩
   clear f0 f1 f2 f3 f4 f5 f6 f7 f8 f9 f10 f11 f12 f13
   have S2 := Lib.hid (S1.out.keep hb)
   clear S1
   clear hb
   obtain ⟨f0, f1, f2, f3, f4, f5, f6⟩ := Bag.cs7 S2.out 0 rfl
   obtain ⟨f7, f8, f9, f10, f11, f12, f13⟩ := HK.out _ S2.out.old
   have HV := Lib.hid (show B = true from by rw [HCO.out, hs]; rfl)
   go_wp2_with fail
   go_ret
   exact ⟨by rw [HV.out] <;> rfl, S2.out.old⟩
  | false =>
   go_wp2_with fail
   go_at_call 148
   refine (HIW.out _).mono ?_
   rintro e w1 ⟨rfl, hb⟩
   clear f0 f1 f2 f3 f4 f5 f6 f7 f8 f9 f10 f11 f12 f13
   have S2 := Lib.hid (S1.out.keep hb)
   clear S1
   clear hb
   obtain ⟨f0, f1, f2, f3, f4, f5, f6⟩ := Bag.cs7 S2.out 0 rfl
   obtain ⟨f7, f8, f9, f10, f11, f12, f13⟩ := HK.out _ S2.out.old
   go_wp2_with fail
   go_at_call 148
   refine (HIW2.out _).mono ?_
   rintro e w2 ⟨rfl, hb⟩
   clear f0 f1 f2 f3 f4 f5 f6 f7 f8 f9 f10 f11 f12 f13
   have S3 := Lib.hid (S2.out.keep hb)
   clear S2
   clear hb
   obtain ⟨f0, f1, f2, f3, f4, f5, f6⟩ := Bag.cs7 S3.out 0 rfl
   obtain ⟨f7, f8, f9, f10, f11, f12, f13⟩ := HK.out _ S3.out.old
   cases bw2 with
   | true =>
    have HV := Lib.hid (show B = true from by rw [HCO.out, hs]; rfl)
    go_wp2_with fail
    go_ret
    exact ⟨by rw [HV.out] <;> rfl, S3.out.old⟩
   | false =>
    have HV := Lib.hid (show B = false from by rw [HCO.out, hs]; rfl)
    go_wp2_with fail
    go_ret
    exact ⟨by rw [HV.out] <;> rfl, S3.out.old⟩
set_option maxHeartbeats 2000000 in
theorem indexFunc_c11 (g1 : Nat) (f : Y_Op → Bool) (a : Option Addr) (c : Nat) (xs : List Y_Op) (hl : xs.length ≤ 1048576) (w : World) (hr : Reads w w.heap.size a (xs.flatMap cl_Op)) (hp : ∀ x ∈ xs, ∀ w', Below w.heap.size w w' → Calls Try.prog 147 #[vv_Op x, .pointer (some ⟨g1, 0, none⟩)] w' fun e w'' => e = .returned (.bool (f x)) ∧ Below w'.heap.size w' w'') :
  Calls Try.prog 201 #[.slice a xs.length c, .func (.func 147) #[] #[.pointer (some ⟨g1, 0, none⟩)]] w fun e w' => ∃ z : Int, e = .returned (.int .i64 z) ∧ xs.any f = decide (0 ≤ z) ∧ Below w.heap.size w w' := by
 have HR := Lib.hid (fun w' (h : Below w.heap.size w w') => hr.below h)
 have HP := Lib.hid hp
 obtain ⟨N, hN⟩ : ∃ n, n = xs.length := ⟨_, rfl⟩
 rw [← hN] at hl ⊢
 have hl' : (N : Int) ≤ 1048576 := by omega
 have HN := Lib.hid hN
 obtain ⟨B, hB⟩ : ∃ b, xs.any f = b := ⟨_, rfl⟩
 rw [hB]
 have HB := Lib.hid hB
 clear hN hr hp hB
 have S1 := Lib.hid (show Sl.Sep w w [] from Sl.Sep.start w)
 go_enter Try.func201, Try.ntmps201
 go_wp2_with fail
 go_loopw [8] (fun i wr => ∃ k : Nat, k ≤ N ∧ i = .int .i64 k ∧ Hid ((∀ j (hj : j < xs.length), j < k → f xs[j] = false) ∧ Sl.Sep w wr [])) (fun i _ => N - (intOf i).toNat)
 case atStart => exact ⟨0, Nat.zero_le _, rfl, And.intro (fun j hj h => absurd h (by omega)) S1.out⟩
 case round =>
  obtain ⟨k, hk, rfl, hrel⟩ := hrel
  have HA := Lib.hid hrel.out.1
  have S2 := Lib.hid hrel.out.2
  clear hrel S1
  by_cases hlt : (k : Int) < (N : Int)
  ·
   skip
   have hkl : k < xs.length := by have := HN.out; omega
   obtain ⟨x, hx⟩ : ∃ x, xs[k]? = some x := ⟨_, List.getElem?_eq_getElem hkl⟩
   obtain ⟨ad, e'⟩ := el_some cl_Op_len (by decide) (HR.out _ S2.out.old) hkl
   subst e'
   have HPX := Lib.hid (fun w' (h : Below w.heap.size w w') => HP.out x (List.mem_of_getElem? hx) w' h)
   have HK := Lib.hid (fun w' (h : Below w.heap.size w w') => el7 cl_Op_len (HR.out _ h) hx rfl)
   have HC := Lib.hid hx
   clear hx
   obtain ⟨b, hb⟩ : ∃ b, f x = b := ⟨_, rfl⟩
   rw [hb] at HPX
   have HBX := Lib.hid hb
   clear hb
   dsimp only [vv_Op] at HPX
   obtain ⟨f0, f1, f2, f3, f4, f5, f6⟩ := HK.out _ S2.out.old
   go_wp2_with fail
   go_at_call 147
   refine (HPX.out _ S2.out.old).mono ?_
   rintro e w3 ⟨rfl, hb⟩
   clear f0 f1 f2 f3 f4 f5 f6
   have S3 := Lib.hid (S2.out.keep hb)
   clear S2
   clear hb
   cases b with
   | true =>
    go_wp2_with fail
    go_ret
    exact ⟨(k : Int), rfl, by rw [← HB.out, L10.any_yes HC.out HBX.out]; exact (decide_eq_true (Int.natCast_nonneg k)).symm, S3.out.old⟩
   | false =>
    go_wp2_with fail
    go_roundw
    case rel => exact ⟨k + 1, by omega, by go_num, And.intro (fun j hj h => by
     by_cases e : j < k
     ·
      exact HA.out j hj e
     ·
      obtain rfl : j = k := by omega
      rw [(List.getElem?_eq_some_iff.1 HC.out).2]; exact HBX.out) S3.out⟩
    case measure => simp [intOf]; omega
  ·
   skip
   go_wp2_with fail
   go_ret
   exact ⟨-1, rfl, by rw [← HB.out, L10.any_no (fun j hj => HA.out j hj (by have := HN.out; omega))]; rfl, S2.out.old⟩
set_option maxHeartbeats 2000000 in
theorem containsFunc_c11 (g1 : Nat) (f : Y_Op → Bool) (a : Option Addr) (c : Nat) (xs : List Y_Op) (hl : xs.length ≤ 1048576) (w : World) (hr : Reads w w.heap.size a (xs.flatMap cl_Op)) (hp : ∀ x ∈ xs, ∀ w', Below w.heap.size w w' → Calls Try.prog 147 #[vv_Op x, .pointer (some ⟨g1, 0, none⟩)] w' fun e w'' => e = .returned (.bool (f x)) ∧ Below w'.heap.size w' w'') :
  Calls Try.prog 145 #[.slice a xs.length c, .func (.func 147) #[] #[.pointer (some ⟨g1, 0, none⟩)]] w fun e w' => e = .returned (.bool (xs.any f)) ∧ Below w.heap.size w w' := by
 have HIX := Lib.hid (indexFunc_c11 g1 f a c xs hl w hr hp)
 obtain ⟨N, hN⟩ : ∃ n, n = xs.length := ⟨_, rfl⟩
 rw [← hN] at HIX ⊢
 obtain ⟨B, hB⟩ : ∃ b, xs.any f = b := ⟨_, rfl⟩
 rw [hB] at HIX ⊢
 clear hN hr hp hl hB
 go_enter Try.func145, Try.ntmps145
 go_wp2_with fail
 go_at_call 201
 refine HIX.out.mono ?_
 rintro e w3 ⟨z, rfl, hz, hb⟩
 by_cases h0 : (0 : Int) ≤ z
 ·
  rw [decide_eq_true h0] at hz
  subst hz
  go_wp2_with fail
  go_ret
  exact ⟨by first | rfl | simp [h0], hb⟩
 ·
  rw [decide_eq_false h0] at hz
  subst hz
  go_wp2_with fail
  go_ret
  exact ⟨by first | rfl | simp [h0], hb⟩
set_option maxHeartbeats 4000000 in
theorem conf1_any (x : Y_Op) (g : Nat) (a2 : Option Addr) (c2 : Nat) (os2 : List Y_Op) (hl2 : os2.length ≤ 1048576) (w : World) (hg : g < w.heap.size) (h0 : w.cell? ⟨g, 0, none⟩ = some (.slice a2 os2.length c2)) (hr2 : Reads w w.heap.size a2 (os2.flatMap cl_Op)) :
  Calls Try.prog 146 #[vv_Op x, .pointer (some ⟨g, 0, none⟩)] w fun e w' => e = .returned (.bool ((coS_Op os2).any fun y => confO (co_Op x) y)) ∧ Below w.heap.size w w' := by
 have HR2 := Lib.hid (fun w' (h : Below w.heap.size w w') => ((hr2.below h).more h.size : Reads w' w'.heap.size a2 (os2.flatMap cl_Op)))
 have HK := Lib.hid (fun w' (h : Below w.heap.size w w') => (⟨(h.cell (p := ⟨g, 0, none⟩) hg).trans h0, trivial⟩ : w'.cell? ⟨g, 0, none⟩ = some (.slice a2 os2.length c2) ∧ True).1)
 clear h0 hr2
 have hmf : ∀ (fn : Fn) (first cap : Array Value) (w : World), (Instr.makeFunc fn first cap).run Try.prog w = .ok (.func fn first cap) w := fun _ _ _ _ => rfl
 unfold vv_Op
 rw [show (coS_Op os2).any (fun y => confO (co_Op x) y) = os2.any (fun y => confO (co_Op x) (co_Op y)) from by rw [coS_Op_eq, List.any_map]; rfl]
 obtain ⟨B, hB⟩ : ∃ b, os2.any (fun y => confO (co_Op x) (co_Op y)) = b := ⟨_, rfl⟩
 rw [hB]
 have S1 := Lib.hid (show Sl.Sep w _ [_] from L4.push_box (Sl.Sep.start w) 148 #[.int .i64 x.f_Kind, .string x.f_Store, .int .i64 x.f_Key.kind, .int .i64 x.f_Key.n, .string x.f_Key.text, .slice x.f_Record.a x.f_Record.l.length x.f_Record.c, .string x.f_Field] (w.heap.size) (by simp))
 obtain ⟨wa, hwa⟩ : ∃ w_, w_ = (w.alloc (.cells #[.int .i64 x.f_Kind, .string x.f_Store, .int .i64 x.f_Key.kind, .int .i64 x.f_Key.n, .string x.f_Key.text, .slice x.f_Record.a x.f_Record.l.length x.f_Record.c, .string x.f_Field] 148)) := ⟨_, rfl⟩
 rw [← hwa] at S1
 go_enter Try.func146, Try.ntmps146
 go_upto_region 1 with fail
 rw [← hwa]
 clear hwa
 have hlt := (S1.out.lies 0 _ rfl w.heap.size (by simp [L4.boxR])).2
 have hcs := Bag.cs7 S1.out 0 rfl
 have HCF := Lib.hid (containsFunc_c11 w.heap.size (fun y => confO (co_Op x) (co_Op y)) a2 c2 os2 hl2 wa (HR2.out _ S1.out.old) (fun y hy w' hb => conf11_any x y _ w' (Nat.lt_of_lt_of_le hlt hb.size) (⟨(hb.cell (p := ⟨w.heap.size, 0, none⟩) hlt).trans hcs.1, (hb.cell (p := ⟨w.heap.size, 1, none⟩) hlt).trans hcs.2.1, (hb.cell (p := ⟨w.heap.size, 2, none⟩) hlt).trans hcs.2.2.1, (hb.cell (p := ⟨w.heap.size, 3, none⟩) hlt).trans hcs.2.2.2.1, (hb.cell (p := ⟨w.heap.size, 4, none⟩) hlt).trans hcs.2.2.2.2.1, (hb.cell (p := ⟨w.heap.size, 5, none⟩) hlt).trans hcs.2.2.2.2.2.1, (hb.cell (p := ⟨w.heap.size, 6, none⟩) hlt).trans hcs.2.2.2.2.2.2⟩)))
 clear hlt hcs
 replace HCF := HCF.out
 rw [hB] at HCF
 replace HCF := Lib.hid HCF
 clear hB
 obtain ⟨N2, hN2⟩ : ∃ n, n = os2.length := ⟨_, rfl⟩
 rw [← hN2] at HK HCF
 clear hN2
 obtain ⟨f0, f1, f2, f3, f4, f5, f6⟩ := Bag.cs7 S1.out 0 rfl
 have fk := HK.out _ S1.out.old
 go_wp2_with fail
 go_at_call 145
 refine HCF.out.mono ?_
 rintro e w3 ⟨rfl, hb⟩
 clear fk
 clear f0 f1 f2 f3 f4 f5 f6
 have S2 := Lib.hid (S1.out.keep hb)
 clear S1
 clear hb
 go_wp2_with fail
 go_ret
 exact ⟨rfl, S2.out.old⟩
set_option maxHeartbeats 2000000 in
theorem indexFunc_c1 (g1 : Nat) (f : Y_Op → Bool) (a : Option Addr) (c : Nat) (xs : List Y_Op) (hl : xs.length ≤ 1048576) (w : World) (hr : Reads w w.heap.size a (xs.flatMap cl_Op)) (hp : ∀ x ∈ xs, ∀ w', Below w.heap.size w w' → Calls Try.prog 146 #[vv_Op x, .pointer (some ⟨g1, 0, none⟩)] w' fun e w'' => e = .returned (.bool (f x)) ∧ Below w'.heap.size w' w'') :
  Calls Try.prog 201 #[.slice a xs.length c, .func (.func 146) #[] #[.pointer (some ⟨g1, 0, none⟩)]] w fun e w' => ∃ z : Int, e = .returned (.int .i64 z) ∧ xs.any f = decide (0 ≤ z) ∧ Below w.heap.size w w' := by
 have HR := Lib.hid (fun w' (h : Below w.heap.size w w') => hr.below h)
 have HP := Lib.hid hp
 obtain ⟨N, hN⟩ : ∃ n, n = xs.length := ⟨_, rfl⟩
 rw [← hN] at hl ⊢
 have hl' : (N : Int) ≤ 1048576 := by omega
 have HN := Lib.hid hN
 obtain ⟨B, hB⟩ : ∃ b, xs.any f = b := ⟨_, rfl⟩
 rw [hB]
 have HB := Lib.hid hB
 clear hN hr hp hB
 have S1 := Lib.hid (show Sl.Sep w w [] from Sl.Sep.start w)
 go_enter Try.func201, Try.ntmps201
 go_wp2_with fail
 go_loopw [8] (fun i wr => ∃ k : Nat, k ≤ N ∧ i = .int .i64 k ∧ Hid ((∀ j (hj : j < xs.length), j < k → f xs[j] = false) ∧ Sl.Sep w wr [])) (fun i _ => N - (intOf i).toNat)
 case atStart => exact ⟨0, Nat.zero_le _, rfl, And.intro (fun j hj h => absurd h (by omega)) S1.out⟩
 case round =>
  obtain ⟨k, hk, rfl, hrel⟩ := hrel
  have HA := Lib.hid hrel.out.1
  have S2 := Lib.hid hrel.out.2
  clear hrel S1
  by_cases hlt : (k : Int) < (N : Int)
  ·
   skip
   have hkl : k < xs.length := by have := HN.out; omega
   obtain ⟨x, hx⟩ : ∃ x, xs[k]? = some x := ⟨_, List.getElem?_eq_getElem hkl⟩
   obtain ⟨ad, e'⟩ := el_some cl_Op_len (by decide) (HR.out _ S2.out.old) hkl
   subst e'
   have HPX := Lib.hid (fun w' (h : Below w.heap.size w w') => HP.out x (List.mem_of_getElem? hx) w' h)
   have HK := Lib.hid (fun w' (h : Below w.heap.size w w') => el7 cl_Op_len (HR.out _ h) hx rfl)
   have HC := Lib.hid hx
   clear hx
   obtain ⟨b, hb⟩ : ∃ b, f x = b := ⟨_, rfl⟩
   rw [hb] at HPX
   have HBX := Lib.hid hb
   clear hb
   dsimp only [vv_Op] at HPX
   obtain ⟨f0, f1, f2, f3, f4, f5, f6⟩ := HK.out _ S2.out.old
   go_wp2_with fail
   go_at_call 146
   refine (HPX.out _ S2.out.old).mono ?_
   rintro e w3 ⟨rfl, hb⟩
   clear f0 f1 f2 f3 f4 f5 f6
   have S3 := Lib.hid (S2.out.keep hb)
   clear S2
   clear hb
   cases b with
   | true =>
    go_wp2_with fail
    go_ret
    exact ⟨(k : Int), rfl, by rw [← HB.out, L10.any_yes HC.out HBX.out]; exact (decide_eq_true (Int.natCast_nonneg k)).symm, S3.out.old⟩
   | false =>
    go_wp2_with fail
    go_roundw
    case rel => exact ⟨k + 1, by omega, by go_num, And.intro (fun j hj h => by
     by_cases e : j < k
     ·
      exact HA.out j hj e
     ·
      obtain rfl : j = k := by omega
      rw [(List.getElem?_eq_some_iff.1 HC.out).2]; exact HBX.out) S3.out⟩
    case measure => simp [intOf]; omega
  ·
   skip
   go_wp2_with fail
   go_ret
   exact ⟨-1, rfl, by rw [← HB.out, L10.any_no (fun j hj => HA.out j hj (by have := HN.out; omega))]; rfl, S2.out.old⟩
set_option maxHeartbeats 2000000 in
theorem containsFunc_c1 (g1 : Nat) (f : Y_Op → Bool) (a : Option Addr) (c : Nat) (xs : List Y_Op) (hl : xs.length ≤ 1048576) (w : World) (hr : Reads w w.heap.size a (xs.flatMap cl_Op)) (hp : ∀ x ∈ xs, ∀ w', Below w.heap.size w w' → Calls Try.prog 146 #[vv_Op x, .pointer (some ⟨g1, 0, none⟩)] w' fun e w'' => e = .returned (.bool (f x)) ∧ Below w'.heap.size w' w'') :
  Calls Try.prog 145 #[.slice a xs.length c, .func (.func 146) #[] #[.pointer (some ⟨g1, 0, none⟩)]] w fun e w' => e = .returned (.bool (xs.any f)) ∧ Below w.heap.size w w' := by
 have HIX := Lib.hid (indexFunc_c1 g1 f a c xs hl w hr hp)
 obtain ⟨N, hN⟩ : ∃ n, n = xs.length := ⟨_, rfl⟩
 rw [← hN] at HIX ⊢
 obtain ⟨B, hB⟩ : ∃ b, xs.any f = b := ⟨_, rfl⟩
 rw [hB] at HIX ⊢
 clear hN hr hp hl hB
 go_enter Try.func145, Try.ntmps145
 go_wp2_with fail
 go_at_call 201
 refine HIX.out.mono ?_
 rintro e w3 ⟨z, rfl, hz, hb⟩
 by_cases h0 : (0 : Int) ≤ z
 ·
  rw [decide_eq_true h0] at hz
  subst hz
  go_wp2_with fail
  go_ret
  exact ⟨by first | rfl | simp [h0], hb⟩
 ·
  rw [decide_eq_false h0] at hz
  subst hz
  go_wp2_with fail
  go_ret
  exact ⟨by first | rfl | simp [h0], hb⟩
set_option maxHeartbeats 4000000 in
theorem conflicts_any (a : Option Addr) (c : Nat) (os : List Y_Op) (hl : os.length ≤ 1048576) (a2 : Option Addr) (c2 : Nat) (os2 : List Y_Op) (hl2 : os2.length ≤ 1048576) (w : World) (hr : Reads w w.heap.size a (os.flatMap cl_Op)) (hr2 : Reads w w.heap.size a2 (os2.flatMap cl_Op)) :
  Calls Try.prog 72 #[.slice a os.length c, .slice a2 os2.length c2] w fun e w' => e = .returned (.bool (conf (coS_Op os) (coS_Op os2))) ∧ Below w.heap.size w w' := by
 have HR2 := Lib.hid (fun w' (h : Below w.heap.size w w') => ((hr2.below h).more h.size : Reads w' w'.heap.size a2 (os2.flatMap cl_Op)))
 have HR := Lib.hid (fun w' (h : Below w.heap.size w w') => ((hr.below h).more h.size : Reads w' w'.heap.size a (os.flatMap cl_Op)))
 clear hr hr2
 have hmf : ∀ (fn : Fn) (first cap : Array Value) (w : World), (Instr.makeFunc fn first cap).run Try.prog w = .ok (.func fn first cap) w := fun _ _ _ _ => rfl
 rw [show conf (coS_Op os) (coS_Op os2) = os.any (fun x => (coS_Op os2).any fun y => confO (co_Op x) y) from by unfold conf; rw [coS_Op_eq os, List.any_map]; rfl]
 obtain ⟨B, hB⟩ : ∃ b, os.any (fun x => (coS_Op os2).any fun y => confO (co_Op x) y) = b := ⟨_, rfl⟩
 rw [hB]
 have S1 := Lib.hid (show Sl.Sep w _ [_] from L4.push_box (Sl.Sep.start w) 82 #[.slice a2 os2.length c2] (w.heap.size) (by simp))
 obtain ⟨wa, hwa⟩ : ∃ w_, w_ = (w.alloc (.cells #[.slice a2 os2.length c2] 82)) := ⟨_, rfl⟩
 rw [← hwa] at S1
 go_enter Try.func72, Try.ntmps72
 go_upto_region 1 with fail
 rw [← hwa]
 clear hwa
 have hlt := (S1.out.lies 0 _ rfl w.heap.size (by simp [L4.boxR])).2
 have hcs := Bag.cell_at S1.out 0 rfl 0 rfl
 have HCF := Lib.hid (containsFunc_c1 w.heap.size (fun x => (coS_Op os2).any fun y => confO (co_Op x) y) a c os hl wa (HR.out _ S1.out.old) (fun x hx w' hb => conf1_any x _ a2 c2 os2 hl2 w' (Nat.lt_of_lt_of_le hlt hb.size) ((hb.cell (p := ⟨w.heap.size, 0, none⟩) hlt).trans hcs) (HR2.out _ (S1.out.old.trans (hb.mono S1.out.old.size)))))
 clear hlt hcs
 replace HCF := HCF.out
 rw [hB] at HCF
 replace HCF := Lib.hid HCF
 clear hB hl
 have f0 := Bag.cs1 S1.out 0 rfl
 go_wp2_with fail
 go_at_call 145
 refine HCF.out.mono ?_
 rintro e w3 ⟨rfl, hb⟩
 clear f0
 have S2 := Lib.hid (S1.out.keep hb)
 clear S1
 clear hb
 go_wp2_with fail
 go_ret
 exact ⟨rfl, S2.out.old⟩
set_option maxHeartbeats 4000000 in
theorem isInState_any (a : Option Addr) (c : Nat) (ts : List Y_Tx) (hl : ts.length ≤ 1048576) (hf : ∀ t ∈ coS_Tx ts, FitT t) (i s : Int) (w : World) (hr : Reads w w.heap.size a (ts.flatMap cl_Tx)) (hx : RowsRd w w.heap.size (rws_Tx ts)) :
  Calls Try.prog 149 #[.agg #[.slice a ts.length c], .int .i64 i, .int .i64 s] w fun e w' => e = .returned (.bool (inSt (coS_Tx ts) i s)) ∧ Below w.heap.size w w' := by
 have HR := Lib.hid (fun w' (h : Below w.heap.size w w') => hr.below h)
 have HX := Lib.hid (fun w' (h : Below w.heap.size w w') => (hx.below h).more h.size)
 have HF := Lib.hid hf
 obtain ⟨N, hN⟩ : ∃ n, n = ts.length := ⟨_, rfl⟩
 rw [← hN] at hl ⊢
 have hl' : (N : Int) ≤ 1048576 := by omega
 have HN := Lib.hid hN
 clear hN hr hx hf
 have HSL := Lib.hid (show (coS_Tx ts).length = N from by rw [coT_len, HN.out])
 have hw1 : IntKind.i64.wrap ((N : Int) - 1) = (N : Int) - 1 := IntWalk.i64_in _ ⟨by omega, by omega⟩
 obtain ⟨bi, hbi⟩ : ∃ b, L1.inB i 0 ((N : Int) - 1) = b := ⟨_, rfl⟩
 have HIN := fun w => L1.inRange_any i 0 ((N : Int) - 1) w
 rw [hbi] at HIN
 replace HIN := Lib.hid HIN
 have HBI := Lib.hid hbi
 clear hbi
 obtain ⟨B, hB⟩ : ∃ b, inSt (coS_Tx ts) i s = b := ⟨_, rfl⟩
 rw [hB]
 have HB := Lib.hid hB
 clear hB
 have S1 := Lib.hid (show Sl.Sep w _ [_] from L4.push_box (Sl.Sep.start w) 98 #[.slice a N c] (w.heap.size) (by simp))
 obtain ⟨wa, hwa⟩ : ∃ w_, w_ = (w.alloc (.cells #[.slice a N c] 98)) := ⟨_, rfl⟩
 rw [← hwa] at S1
 go_enter Try.func149, Try.ntmps149
 go_upto_region 1 with fail
 rw [← hwa]
 clear hwa
 have f0 := Bag.cs1 S1.out 0 rfl
 cases bi with
 | false =>
  go_wp2_with fail
  go_at_call 98
  refine (HIN.out _).mono ?_
  rintro e w1 ⟨rfl, rfl⟩
  have HV := Lib.hid (show B = false from by rw [← HB.out]; exact inSt_out (by rw [HSL.out]; exact HBI.out))
  go_wp2_with fail
  go_ret
  exact ⟨by rw [HV.out] <;> rfl, S1.out.old⟩
 | true =>
  obtain ⟨k0, hk0⟩ : ∃ n : Nat, i = (n : Int) := ⟨i.toNat, by have h := L1.inB_true.1 HBI.out; omega⟩
  subst hk0
  have hkl : k0 < ts.length := by have h := L1.inB_true.1 HBI.out; have := HN.out; omega
  have hkN : (k0 : Int) < (N : Int) := by have := HN.out; omega
  clear f0
  obtain ⟨t, ht⟩ : ∃ x, ts[k0]? = some x := ⟨_, List.getElem?_eq_getElem hkl⟩
  obtain ⟨tad, e'⟩ := el_some cl_Tx_len (by decide) (HR.out _ S1.out.old) hkl
  subst e'
  have HKt := Lib.hid (fun w' (h : Below w.heap.size w w') => el5 cl_Tx_len (HR.out _ h) ht rfl)
  have HRt := Lib.hid (fun w' (h : Below w.heap.size w w') => rdTs (HX.out w' h) ht)
  have HCt := Lib.hid (coT_at ht)
  have HFt := Lib.hid (HF.out _ (List.mem_of_getElem? HCt.out))
  clear ht
  have f0 := Bag.cs1 S1.out 0 rfl
  obtain ⟨f1, f2, f3, f4, f5⟩ := HKt.out _ S1.out.old
  obtain ⟨bs, hbs⟩ : ∃ b, (t.f_State == s) = b := ⟨_, rfl⟩
  have HBS := Lib.hid hbs
  cases bs with
  | false =>
   go_wp2_with fail
   go_at_call 98
   refine (HIN.out _).mono ?_
   rintro e w1 ⟨rfl, rfl⟩
   have HV := Lib.hid (show B = false from by rw [← HB.out]; rw [inSt_at HCt.out]; exact HBS.out)
   go_wp2_with fail
   go_ret
   exact ⟨by rw [HV.out] <;> rfl, S1.out.old⟩
  | true =>
   go_wp2_with fail
   go_at_call 98
   refine (HIN.out _).mono ?_
   rintro e w1 ⟨rfl, rfl⟩
   have HV := Lib.hid (show B = true from by rw [← HB.out]; rw [inSt_at HCt.out]; exact HBS.out)
   go_wp2_with fail
   go_ret
   exact ⟨by rw [HV.out] <;> rfl, S1.out.old⟩
set_option maxHeartbeats 8000000 in
theorem canStart1_any (u : Y_Tx) (hfu : FitT (co_Tx u)) (g g2 k0 : Nat) (Z : X_Tx) (a : Option Addr) (c : Nat) (ts : List Y_Tx) (hl : ts.length ≤ 1048576) (hf : ∀ t ∈ coS_Tx ts, FitT t) (hz : (coS_Tx ts)[k0]? = some Z) (hk : k0 < ts.length) (w : World) (hru : RowsRd w w.heap.size (rw_Tx u)) (hr : Reads w w.heap.size a (ts.flatMap cl_Tx)) (hx : RowsRd w w.heap.size (rws_Tx ts))
  (hg : g < w.heap.size) (h0 : w.cell? ⟨g, 0, none⟩ = some (.slice a ts.length c)) (hg2 : g2 < w.heap.size) (h1 : w.cell? ⟨g2, 0, none⟩ = some (.int .i64 k0)) :
  Calls Try.prog 151 #[vv_Tx u, .pointer (some ⟨g, 0, none⟩), .pointer (some ⟨g2, 0, none⟩)] w fun e w' => e = .returned (.bool (holdsBack (co_Tx u) Z)) ∧ Below w.heap.size w w' := by
 have HRu := Lib.hid (fun w' (h : Below w.heap.size w w') => ((hru.below h).more h.size : RowsRd w' w'.heap.size (rw_Tx u)))
 have HR := Lib.hid (fun w' (h : Below w.heap.size w w') => hr.below h)
 have HX := Lib.hid (fun w' (h : Below w.heap.size w w') => (hx.below h).more h.size)
 have HF := Lib.hid hf
 have HFu := Lib.hid hfu
 have HK := Lib.hid (fun w' (h : Below w.heap.size w w') => (⟨(h.cell (p := ⟨g, 0, none⟩) hg).trans h0, (h.cell (p := ⟨g2, 0, none⟩) hg2).trans h1⟩ : w'.cell? ⟨g, 0, none⟩ = some (.slice a ts.length c) ∧ w'.cell? ⟨g2, 0, none⟩ = some (.int .i64 k0)))
 have S0 := Lib.hid (show Sl.Sep w w [] from Sl.Sep.start w)
 obtain ⟨N, hN⟩ : ∃ n, n = ts.length := ⟨_, rfl⟩
 rw [← hN] at HK hl
 have HN := Lib.hid hN
 have hkN : (k0 : Int) < (N : Int) := by omega
 clear hr hx hru hf hfu h0 h1 hN
 unfold vv_Tx
 obtain ⟨t, ht⟩ : ∃ x, ts[k0]? = some x := ⟨_, List.getElem?_eq_getElem hk⟩
 obtain ⟨tad, e'⟩ := el_some cl_Tx_len (by decide) (HR.out _ S0.out.old) hk
 subst e'
 have HKt := Lib.hid (fun w' (h : Below w.heap.size w w') => el5 cl_Tx_len (HR.out _ h) ht rfl)
 have HRt := Lib.hid (fun w' (h : Below w.heap.size w w') => rdTs (HX.out w' h) ht)
 have HCt := Lib.hid (coT_at ht)
 have HFt := Lib.hid (HF.out _ (List.mem_of_getElem? HCt.out))
 clear ht
 have HKS := Lib.hid (show ∀ w', Below w.heap.size w w' → _ from HK.out)
 skip
 clear S0 HKS
 have HZ := Lib.hid (show co_Tx t = Z from Option.some.inj (HCt.out.symm.trans hz))
 obtain ⟨bc, hbc⟩ : ∃ b, conf (coS_Op u.f_Ops) (coS_Op t.f_Ops) = b := ⟨_, rfl⟩
 have HCF := fun w' (h : Below w.heap.size w w') => conflicts_any u.f_Ops_a u.f_Ops_c u.f_Ops (by have h := HFu.out.len; rwa [show (co_Tx u).f_Ops = coS_Op u.f_Ops from rfl, coS_len] at h) t.f_Ops_a t.f_Ops_c t.f_Ops (by have h := HFt.out.len; rwa [show (co_Tx t).f_Ops = coS_Op t.f_Ops from rfl, coS_len] at h) w' (rdTo (HRu.out w' h)) (rdTo (HRt.out w' h))
 rw [hbc] at HCF
 replace HCF := Lib.hid HCF
 obtain ⟨B, hB⟩ : ∃ b, holdsBack (co_Tx u) Z = b := ⟨_, rfl⟩
 rw [hB]
 have HHB := Lib.hid (show B = ((u.f_State == 0 || u.f_State == 1) && bc) from by rw [← hB, ← hbc, ← HZ.out]; rfl)
 clear hbc hB
 have S1 := Lib.hid (show Sl.Sep w _ [_] from L4.push_box (Sl.Sep.start w) 161 #[.int .i64 u.f_Id, .slice u.f_Ops_a u.f_Ops.length u.f_Ops_c, .int .i64 u.f_At, .int .i64 u.f_State, .slice u.f_Backup_a u.f_Backup.length u.f_Backup_c] (w.heap.size) (by simp))
 obtain ⟨wa, hwa⟩ : ∃ w_, w_ = (w.alloc (.cells #[.int .i64 u.f_Id, .slice u.f_Ops_a u.f_Ops.length u.f_Ops_c, .int .i64 u.f_At, .int .i64 u.f_State, .slice u.f_Backup_a u.f_Backup.length u.f_Backup_c] 161)) := ⟨_, rfl⟩
 rw [← hwa] at S1
 go_enter Try.func151, Try.ntmps151
 go_upto_region 1 with fail
 rw [← hwa]
 clear hwa
 obtain ⟨f0, f1, f2, f3, f4⟩ := Bag.cs5 S1.out 0 rfl
 obtain ⟨f5, f6⟩ := HK.out _ S1.out.old
 obtain ⟨f7, f8, f9, f10, f11⟩ := HKt.out _ S1.out.old
 cases h0 : u.f_State == 0 with
 | true =>
  cases bc with
  | false =>
   go_upto_region 1 with fail
   clear f0 f1 f2 f3 f4 f5 f6 f7 f8 f9 f10 f11
   refine wp_region_held_drew (S := (fun w' => (w'.cell? ⟨w.heap.size, 0, none⟩ = some (.int .i64 u.f_Id) ∧ w'.cell? ⟨w.heap.size, 1, none⟩ = some (.slice u.f_Ops_a u.f_Ops.length u.f_Ops_c) ∧ w'.cell? ⟨w.heap.size, 2, none⟩ = some (.int .i64 u.f_At) ∧ w'.cell? ⟨w.heap.size, 3, none⟩ = some (.int .i64 u.f_State) ∧ w'.cell? ⟨w.heap.size, 4, none⟩ = some (.slice u.f_Backup_a u.f_Backup.length u.f_Backup_c)) ∧ (w'.cell? (⟨g, 0, none⟩) = some (.slice (some tad) N c) ∧ w'.cell? (⟨g2, 0, none⟩) = some (.int .i64 k0)) ∧ (w'.cell? (tad.add (k0 * 5)) = some (.int .i64 t.f_Id) ∧ w'.cell? (⟨(tad.add (k0 * 5)).block, (tad.add (k0 * 5)).off + 1, none⟩) = some (.slice t.f_Ops_a t.f_Ops.length t.f_Ops_c) ∧ w'.cell? (⟨(tad.add (k0 * 5)).block, (tad.add (k0 * 5)).off + 2, none⟩) = some (.int .i64 t.f_At) ∧ w'.cell? (⟨(tad.add (k0 * 5)).block, (tad.add (k0 * 5)).off + 3, none⟩) = some (.int .i64 t.f_State) ∧ w'.cell? (⟨(tad.add (k0 * 5)).block, (tad.add (k0 * 5)).off + 4, none⟩) = some (.slice t.f_Backup_a t.f_Backup.length t.f_Backup_c)))) (by kernel_rfl) ⟨Bag.cs5 (Bag.drew1 S1.out) 0 rfl, HK.out _ (Bag.drew1 S1.out).old, HKt.out _ (Bag.drew1 S1.out).old⟩ (fun hS => ?_)
   have S2 := Lib.hid (Bag.drew1 S1.out)
   clear S1
   generalize World.drew _ = w1 at hS S2 ⊢
   refine tk 0 rfl ?_
   try simp only [zp0, zp1, zp2, zp3, zp4]
   refine tk 1 rfl ?_
   try simp only [zp0, zp1, zp2, zp3, zp4]
   refine tk 2 rfl ?_
   try simp only [zp0, zp1, zp2, zp3, zp4]
   refine tk 3 rfl ?_
   try simp only [zp0, zp1, zp2, zp3, zp4]
   refine sk 4 rfl ?_
   try simp only [zp0, zp1, zp2, zp3, zp4]
   refine sk 5 rfl ?_
   try simp only [zp0, zp1, zp2, zp3, zp4]
   refine sk 6 rfl ?_
   try simp only [zp0, zp1, zp2, zp3, zp4]
   refine tk 7 rfl ?_
   try simp only [zp0, zp1, zp2, zp3, zp4]
   refine tk 8 rfl ?_
   try simp only [zp0, zp1, zp2, zp3, zp4]
   refine tk 9 rfl ?_
   try simp only [zp0, zp1, zp2, zp3, zp4]
   refine tk 10 rfl ?_
   try simp only [zp0, zp1, zp2, zp3, zp4]
   refine tk 11 rfl ?_
   try simp only [zp0, zp1, zp2, zp3, zp4]
   refine tk 12 rfl ?_
   try simp only [zp0, zp1, zp2, zp3, zp4]
   refine tk 13 rfl ?_
   try simp only [zp0, zp1, zp2, zp3, zp4]
   refine tk 14 rfl ?_
   try simp only [zp0, zp1, zp2, zp3, zp4]
   refine tk 15 rfl ?_
   try simp only [zp0, zp1, zp2, zp3, zp4]
   refine tk 16 rfl ?_
   try simp only [zp0, zp1, zp2, zp3, zp4]
   refine Reg.one_op (i := 17) rfl (by kernel_rfl) (fun K hK => ?_)
   go_simp
   go_at_call 72
   refine (HCF.out _ S2.out.old).mono ?_
   rintro e w2 ⟨rfl, hb⟩
   have S3 := Lib.hid (S2.out.keep hb)
   clear S2
   clear hb
   go_wp2_with fail
   refine hK.out _ _ ⟨Bag.cs5 S3.out 0 rfl, HK.out _ S3.out.old, HKt.out _ S3.out.old⟩ (fun hS => ?_)
   clear hK K
   try simp only [zp0, zp1, zp2, zp3, zp4]
   refine tk 18 rfl ?_
   try simp only [zp0, zp1, zp2, zp3, zp4]
   refine tk 19 rfl ?_
   try simp only [zp0, zp1, zp2, zp3, zp4]
   refine wpAnyH_done (by kernel_rfl) ?_ _
   obtain ⟨f0, f1, f2, f3, f4⟩ := Bag.cs5 S3.out 0 rfl
   obtain ⟨f5, f6⟩ := HK.out _ S3.out.old
   obtain ⟨f7, f8, f9, f10, f11⟩ := HKt.out _ S3.out.old
   have HV := Lib.hid (show B = false from by rw [HHB.out, h0]; rfl)
   go_wp2_with fail
   go_ret
   exact ⟨by rw [HV.out] <;> rfl, S3.out.old⟩
  | true =>
   go_upto_region 1 with fail
   clear f0 f1 f2 f3 f4 f5 f6 f7 f8 f9 f10 f11
   refine wp_region_held_drew (S := (fun w' => (w'.cell? ⟨w.heap.size, 0, none⟩ = some (.int .i64 u.f_Id) ∧ w'.cell? ⟨w.heap.size, 1, none⟩ = some (.slice u.f_Ops_a u.f_Ops.length u.f_Ops_c) ∧ w'.cell? ⟨w.heap.size, 2, none⟩ = some (.int .i64 u.f_At) ∧ w'.cell? ⟨w.heap.size, 3, none⟩ = some (.int .i64 u.f_State) ∧ w'.cell? ⟨w.heap.size, 4, none⟩ = some (.slice u.f_Backup_a u.f_Backup.length u.f_Backup_c)) ∧ (w'.cell? (⟨g, 0, none⟩) = some (.slice (some tad) N c) ∧ w'.cell? (⟨g2, 0, none⟩) = some (.int .i64 k0)) ∧ (w'.cell? (tad.add (k0 * 5)) = some (.int .i64 t.f_Id) ∧ w'.cell? (⟨(tad.add (k0 * 5)).block, (tad.add (k0 * 5)).off + 1, none⟩) = some (.slice t.f_Ops_a t.f_Ops.length t.f_Ops_c) ∧ w'.cell? (⟨(tad.add (k0 * 5)).block, (tad.add (k0 * 5)).off + 2, none⟩) = some (.int .i64 t.f_At) ∧ w'.cell? (⟨(tad.add (k0 * 5)).block, (tad.add (k0 * 5)).off + 3, none⟩) = some (.int .i64 t.f_State) ∧ w'.cell? (⟨(tad.add (k0 * 5)).block, (tad.add (k0 * 5)).off + 4, none⟩) = some (.slice t.f_Backup_a t.f_Backup.length t.f_Backup_c)))) (by kernel_rfl) ⟨Bag.cs5 (Bag.drew1 S1.out) 0 rfl, HK.out _ (Bag.drew1 S1.out).old, HKt.out _ (Bag.drew1 S1.out).old⟩ (fun hS => ?_)
   have S2 := Lib.hid (Bag.drew1 S1.out)
   clear S1
   generalize World.drew _ = w1 at hS S2 ⊢
   refine tk 0 rfl ?_
   try simp only [zp0, zp1, zp2, zp3, zp4]
   refine tk 1 rfl ?_
   try simp only [zp0, zp1, zp2, zp3, zp4]
   refine tk 2 rfl ?_
   try simp only [zp0, zp1, zp2, zp3, zp4]
   refine tk 3 rfl ?_
   try simp only [zp0, zp1, zp2, zp3, zp4]
   refine sk 4 rfl ?_
   try simp only [zp0, zp1, zp2, zp3, zp4]
   refine sk 5 rfl ?_
   try simp only [zp0, zp1, zp2, zp3, zp4]
   refine sk 6 rfl ?_
   try simp only [zp0, zp1, zp2, zp3, zp4]
   refine tk 7 rfl ?_
   try simp only [zp0, zp1, zp2, zp3, zp4]
   refine tk 8 rfl ?_
   try simp only [zp0, zp1, zp2, zp3, zp4]
   refine tk 9 rfl ?_
   try simp only [zp0, zp1, zp2, zp3, zp4]
   refine tk 10 rfl ?_
   try simp only [zp0, zp1, zp2, zp3, zp4]
   refine tk 11 rfl ?_
   try simp only [zp0, zp1, zp2, zp3, zp4]
   refine tk 12 rfl ?_
   try simp only [zp0, zp1, zp2, zp3, zp4]
   refine tk 13 rfl ?_
   try simp only [zp0, zp1, zp2, zp3, zp4]
   refine tk 14 rfl ?_
   try simp only [zp0, zp1, zp2, zp3, zp4]
   refine tk 15 rfl ?_
   try simp only [zp0, zp1, zp2, zp3, zp4]
   refine tk 16 rfl ?_
   try simp only [zp0, zp1, zp2, zp3, zp4]
   refine Reg.one_op (i := 17) rfl (by kernel_rfl) (fun K hK => ?_)
   go_simp
   go_at_call 72
   refine (HCF.out _ S2.out.old).mono ?_
   rintro e w2 ⟨rfl, hb⟩
   have S3 := Lib.hid (S2.out.keep hb)
   clear S2
   clear hb
   go_wp2_with fail
   refine hK.out _ _ ⟨Bag.cs5 S3.out 0 rfl, HK.out _ S3.out.old, HKt.out _ S3.out.old⟩ (fun hS => ?_)
   clear hK K
   try simp only [zp0, zp1, zp2, zp3, zp4]
   refine tk 18 rfl ?_
   try simp only [zp0, zp1, zp2, zp3, zp4]
   refine tk 19 rfl ?_
   try simp only [zp0, zp1, zp2, zp3, zp4]
   refine wpAnyH_done (by kernel_rfl) ?_ _
   obtain ⟨f0, f1, f2, f3, f4⟩ := Bag.cs5 S3.out 0 rfl
   obtain ⟨f5, f6⟩ := HK.out _ S3.out.old
   obtain ⟨f7, f8, f9, f10, f11⟩ := HKt.out _ S3.out.old
   have HV := Lib.hid (show B = true from by rw [HHB.out, h0]; rfl)
   go_wp2_with fail
   go_ret
   exact ⟨by rw [HV.out] <;> rfl, S3.out.old⟩
 | false =>
  cases h1 : u.f_State == 1 with
  | true =>
   cases bc with
   | false =>
    go_upto_region 1 with fail
    clear f0 f1 f2 f3 f4 f5 f6 f7 f8 f9 f10 f11
    refine wp_region_held_drew (S := (fun w' => (w'.cell? ⟨w.heap.size, 0, none⟩ = some (.int .i64 u.f_Id) ∧ w'.cell? ⟨w.heap.size, 1, none⟩ = some (.slice u.f_Ops_a u.f_Ops.length u.f_Ops_c) ∧ w'.cell? ⟨w.heap.size, 2, none⟩ = some (.int .i64 u.f_At) ∧ w'.cell? ⟨w.heap.size, 3, none⟩ = some (.int .i64 u.f_State) ∧ w'.cell? ⟨w.heap.size, 4, none⟩ = some (.slice u.f_Backup_a u.f_Backup.length u.f_Backup_c)) ∧ (w'.cell? (⟨g, 0, none⟩) = some (.slice (some tad) N c) ∧ w'.cell? (⟨g2, 0, none⟩) = some (.int .i64 k0)) ∧ (w'.cell? (tad.add (k0 * 5)) = some (.int .i64 t.f_Id) ∧ w'.cell? (⟨(tad.add (k0 * 5)).block, (tad.add (k0 * 5)).off + 1, none⟩) = some (.slice t.f_Ops_a t.f_Ops.length t.f_Ops_c) ∧ w'.cell? (⟨(tad.add (k0 * 5)).block, (tad.add (k0 * 5)).off + 2, none⟩) = some (.int .i64 t.f_At) ∧ w'.cell? (⟨(tad.add (k0 * 5)).block, (tad.add (k0 * 5)).off + 3, none⟩) = some (.int .i64 t.f_State) ∧ w'.cell? (⟨(tad.add (k0 * 5)).block, (tad.add (k0 * 5)).off + 4, none⟩) = some (.slice t.f_Backup_a t.f_Backup.length t.f_Backup_c)))) (by kernel_rfl) ⟨Bag.cs5 (Bag.drew1 S1.out) 0 rfl, HK.out _ (Bag.drew1 S1.out).old, HKt.out _ (Bag.drew1 S1.out).old⟩ (fun hS => ?_)
    have S2 := Lib.hid (Bag.drew1 S1.out)
    clear S1
    generalize World.drew _ = w1 at hS S2 ⊢
    refine tk 0 rfl ?_
    try simp only [zp0, zp1, zp2, zp3, zp4]
    refine tk 1 rfl ?_
    try simp only [zp0, zp1, zp2, zp3, zp4]
    refine tk 2 rfl ?_
    try simp only [zp0, zp1, zp2, zp3, zp4]
    refine tk 3 rfl ?_
    try simp only [zp0, zp1, zp2, zp3, zp4]
    refine tk 4 rfl ?_
    try simp only [zp0, zp1, zp2, zp3, zp4]
    refine tk 5 rfl ?_
    try simp only [zp0, zp1, zp2, zp3, zp4]
    refine tk 6 rfl ?_
    try simp only [zp0, zp1, zp2, zp3, zp4]
    refine tk 7 rfl ?_
    try simp only [zp0, zp1, zp2, zp3, zp4]
    refine tk 8 rfl ?_
    try simp only [zp0, zp1, zp2, zp3, zp4]
    refine tk 9 rfl ?_
    try simp only [zp0, zp1, zp2, zp3, zp4]
    refine tk 10 rfl ?_
    try simp only [zp0, zp1, zp2, zp3, zp4]
    refine tk 11 rfl ?_
    try simp only [zp0, zp1, zp2, zp3, zp4]
    refine tk 12 rfl ?_
    try simp only [zp0, zp1, zp2, zp3, zp4]
    refine tk 13 rfl ?_
    try simp only [zp0, zp1, zp2, zp3, zp4]
    refine tk 14 rfl ?_
    try simp only [zp0, zp1, zp2, zp3, zp4]
    refine tk 15 rfl ?_
    try simp only [zp0, zp1, zp2, zp3, zp4]
    refine tk 16 rfl ?_
    try simp only [zp0, zp1, zp2, zp3, zp4]
    refine Reg.one_op (i := 17) rfl (by kernel_rfl) (fun K hK => ?_)
    go_simp
    go_at_call 72
    refine (HCF.out _ S2.out.old).mono ?_
    rintro e w2 ⟨rfl, hb⟩
    have S3 := Lib.hid (S2.out.keep hb)
    clear S2
    clear hb
    go_wp2_with fail
    refine hK.out _ _ ⟨Bag.cs5 S3.out 0 rfl, HK.out _ S3.out.old, HKt.out _ S3.out.old⟩ (fun hS => ?_)
    clear hK K
    try simp only [zp0, zp1, zp2, zp3, zp4]
    refine tk 18 rfl ?_
    try simp only [zp0, zp1, zp2, zp3, zp4]
    refine tk 19 rfl ?_
    try simp only [zp0, zp1, zp2, zp3, zp4]
    refine wpAnyH_done (by kernel_rfl) ?_ _
    obtain ⟨f0, f1, f2, f3, f4⟩ := Bag.cs5 S3.out 0 rfl
    obtain ⟨f5, f6⟩ := HK.out _ S3.out.old
    obtain ⟨f7, f8, f9, f10, f11⟩ := HKt.out _ S3.out.old
    have HV := Lib.hid (show B = false from by rw [HHB.out, h0, h1]; rfl)
    go_wp2_with fail
    go_ret
    exact ⟨by rw [HV.out] <;> rfl, S3.out.old⟩
   | true =>
    go_upto_region 1 with fail
    clear f0 f1 f2 f3 f4 f5 f6 f7 f8 f9 f10 f11
    refine wp_region_held_drew (S := (fun w' => (w'.cell? ⟨w.heap.size, 0, none⟩ = some (.int .i64 u.f_Id) ∧ w'.cell? ⟨w.heap.size, 1, none⟩ = some (.slice u.f_Ops_a u.f_Ops.length u.f_Ops_c) ∧ w'.cell? ⟨w.heap.size, 2, none⟩ = some (.int .i64 u.f_At) ∧ w'.cell? ⟨w.heap.size, 3, none⟩ = some (.int .i64 u.f_State) ∧ w'.cell? ⟨w.heap.size, 4, none⟩ = some (.slice u.f_Backup_a u.f_Backup.length u.f_Backup_c)) ∧ (w'.cell? (⟨g, 0, none⟩) = some (.slice (some tad) N c) ∧ w'.cell? (⟨g2, 0, none⟩) = some (.int .i64 k0)) ∧ (w'.cell? (tad.add (k0 * 5)) = some (.int .i64 t.f_Id) ∧ w'.cell? (⟨(tad.add (k0 * 5)).block, (tad.add (k0 * 5)).off + 1, none⟩) = some (.slice t.f_Ops_a t.f_Ops.length t.f_Ops_c) ∧ w'.cell? (⟨(tad.add (k0 * 5)).block, (tad.add (k0 * 5)).off + 2, none⟩) = some (.int .i64 t.f_At) ∧ w'.cell? (⟨(tad.add (k0 * 5)).block, (tad.add (k0 * 5)).off + 3, none⟩) = some (.int .i64 t.f_State) ∧ w'.cell? (⟨(tad.add (k0 * 5)).block, (tad.add (k0 * 5)).off + 4, none⟩) = some (.slice t.f_Backup_a t.f_Backup.length t.f_Backup_c)))) (by kernel_rfl) ⟨Bag.cs5 (Bag.drew1 S1.out) 0 rfl, HK.out _ (Bag.drew1 S1.out).old, HKt.out _ (Bag.drew1 S1.out).old⟩ (fun hS => ?_)
    have S2 := Lib.hid (Bag.drew1 S1.out)
    clear S1
    generalize World.drew _ = w1 at hS S2 ⊢
    refine tk 0 rfl ?_
    try simp only [zp0, zp1, zp2, zp3, zp4]
    refine tk 1 rfl ?_
    try simp only [zp0, zp1, zp2, zp3, zp4]
    refine tk 2 rfl ?_
    try simp only [zp0, zp1, zp2, zp3, zp4]
    refine tk 3 rfl ?_
    try simp only [zp0, zp1, zp2, zp3, zp4]
    refine tk 4 rfl ?_
    try simp only [zp0, zp1, zp2, zp3, zp4]
    refine tk 5 rfl ?_
    try simp only [zp0, zp1, zp2, zp3, zp4]
    refine tk 6 rfl ?_
    try simp only [zp0, zp1, zp2, zp3, zp4]
    refine tk 7 rfl ?_
    try simp only [zp0, zp1, zp2, zp3, zp4]
    refine tk 8 rfl ?_
    try simp only [zp0, zp1, zp2, zp3, zp4]
    refine tk 9 rfl ?_
    try simp only [zp0, zp1, zp2, zp3, zp4]
    refine tk 10 rfl ?_
    try simp only [zp0, zp1, zp2, zp3, zp4]
    refine tk 11 rfl ?_
    try simp only [zp0, zp1, zp2, zp3, zp4]
    refine tk 12 rfl ?_
    try simp only [zp0, zp1, zp2, zp3, zp4]
    refine tk 13 rfl ?_
    try simp only [zp0, zp1, zp2, zp3, zp4]
    refine tk 14 rfl ?_
    try simp only [zp0, zp1, zp2, zp3, zp4]
    refine tk 15 rfl ?_
    try simp only [zp0, zp1, zp2, zp3, zp4]
    refine tk 16 rfl ?_
    try simp only [zp0, zp1, zp2, zp3, zp4]
    refine Reg.one_op (i := 17) rfl (by kernel_rfl) (fun K hK => ?_)
    go_simp
    go_at_call 72
    refine (HCF.out _ S2.out.old).mono ?_
    rintro e w2 ⟨rfl, hb⟩
    have S3 := Lib.hid (S2.out.keep hb)
    clear S2
    clear hb
    go_wp2_with fail
    refine hK.out _ _ ⟨Bag.cs5 S3.out 0 rfl, HK.out _ S3.out.old, HKt.out _ S3.out.old⟩ (fun hS => ?_)
    clear hK K
    try simp only [zp0, zp1, zp2, zp3, zp4]
    refine tk 18 rfl ?_
    try simp only [zp0, zp1, zp2, zp3, zp4]
    refine tk 19 rfl ?_
    try simp only [zp0, zp1, zp2, zp3, zp4]
    refine wpAnyH_done (by kernel_rfl) ?_ _
    obtain ⟨f0, f1, f2, f3, f4⟩ := Bag.cs5 S3.out 0 rfl
    obtain ⟨f5, f6⟩ := HK.out _ S3.out.old
    obtain ⟨f7, f8, f9, f10, f11⟩ := HKt.out _ S3.out.old
    have HV := Lib.hid (show B = true from by rw [HHB.out, h0, h1]; rfl)
    go_wp2_with fail
    go_ret
    exact ⟨by rw [HV.out] <;> rfl, S3.out.old⟩
  | false =>
   go_upto_region 1 with fail
   clear f0 f1 f2 f3 f4 f5 f6 f7 f8 f9 f10 f11
   refine wp_region_held_drew (S := (fun w' => (w'.cell? ⟨w.heap.size, 0, none⟩ = some (.int .i64 u.f_Id) ∧ w'.cell? ⟨w.heap.size, 1, none⟩ = some (.slice u.f_Ops_a u.f_Ops.length u.f_Ops_c) ∧ w'.cell? ⟨w.heap.size, 2, none⟩ = some (.int .i64 u.f_At) ∧ w'.cell? ⟨w.heap.size, 3, none⟩ = some (.int .i64 u.f_State) ∧ w'.cell? ⟨w.heap.size, 4, none⟩ = some (.slice u.f_Backup_a u.f_Backup.length u.f_Backup_c)) ∧ (w'.cell? (⟨g, 0, none⟩) = some (.slice (some tad) N c) ∧ w'.cell? (⟨g2, 0, none⟩) = some (.int .i64 k0)) ∧ (w'.cell? (tad.add (k0 * 5)) = some (.int .i64 t.f_Id) ∧ w'.cell? (⟨(tad.add (k0 * 5)).block, (tad.add (k0 * 5)).off + 1, none⟩) = some (.slice t.f_Ops_a t.f_Ops.length t.f_Ops_c) ∧ w'.cell? (⟨(tad.add (k0 * 5)).block, (tad.add (k0 * 5)).off + 2, none⟩) = some (.int .i64 t.f_At) ∧ w'.cell? (⟨(tad.add (k0 * 5)).block, (tad.add (k0 * 5)).off + 3, none⟩) = some (.int .i64 t.f_State) ∧ w'.cell? (⟨(tad.add (k0 * 5)).block, (tad.add (k0 * 5)).off + 4, none⟩) = some (.slice t.f_Backup_a t.f_Backup.length t.f_Backup_c)))) (by kernel_rfl) ⟨Bag.cs5 (Bag.drew1 S1.out) 0 rfl, HK.out _ (Bag.drew1 S1.out).old, HKt.out _ (Bag.drew1 S1.out).old⟩ (fun hS => ?_)
   have S2 := Lib.hid (Bag.drew1 S1.out)
   clear S1
   generalize World.drew _ = w1 at hS S2 ⊢
   refine tk 0 rfl ?_
   try simp only [zp0, zp1, zp2, zp3, zp4]
   refine tk 1 rfl ?_
   try simp only [zp0, zp1, zp2, zp3, zp4]
   refine tk 2 rfl ?_
   try simp only [zp0, zp1, zp2, zp3, zp4]
   refine tk 3 rfl ?_
   try simp only [zp0, zp1, zp2, zp3, zp4]
   refine tk 4 rfl ?_
   try simp only [zp0, zp1, zp2, zp3, zp4]
   refine tk 5 rfl ?_
   try simp only [zp0, zp1, zp2, zp3, zp4]
   refine tk 6 rfl ?_
   try simp only [zp0, zp1, zp2, zp3, zp4]
   refine tk 7 rfl ?_
   try simp only [zp0, zp1, zp2, zp3, zp4]
   refine tk 8 rfl ?_
   try simp only [zp0, zp1, zp2, zp3, zp4]
   refine sk 9 rfl ?_
   try simp only [zp0, zp1, zp2, zp3, zp4]
   refine sk 10 rfl ?_
   try simp only [zp0, zp1, zp2, zp3, zp4]
   refine sk 11 rfl ?_
   try simp only [zp0, zp1, zp2, zp3, zp4]
   refine sk 12 rfl ?_
   try simp only [zp0, zp1, zp2, zp3, zp4]
   refine sk 13 rfl ?_
   try simp only [zp0, zp1, zp2, zp3, zp4]
   refine sk 14 rfl ?_
   try simp only [zp0, zp1, zp2, zp3, zp4]
   refine sk 15 rfl ?_
   try simp only [zp0, zp1, zp2, zp3, zp4]
   refine sk 16 rfl ?_
   try simp only [zp0, zp1, zp2, zp3, zp4]
   refine Reg.skip_one (i := 17) rfl (by kernel_rfl) (by rfl) (by assumption) ?_
   try simp only [zp0, zp1, zp2, zp3, zp4]
   refine tk 18 rfl ?_
   try simp only [zp0, zp1, zp2, zp3, zp4]
   refine tk 19 rfl ?_
   try simp only [zp0, zp1, zp2, zp3, zp4]
   refine wpAnyH_done (by kernel_rfl) ?_ _
   obtain ⟨f0, f1, f2, f3, f4⟩ := Bag.cs5 S2.out 0 rfl
   obtain ⟨f5, f6⟩ := HK.out _ S2.out.old
   obtain ⟨f7, f8, f9, f10, f11⟩ := HKt.out _ S2.out.old
   have HV := Lib.hid (show B = false from by rw [HHB.out, h0, h1]; rfl)
   go_wp2_with fail
   go_ret
   exact ⟨by rw [HV.out] <;> rfl, S2.out.old⟩
set_option maxHeartbeats 2000000 in
theorem indexFunc_cs (g1 g2 : Nat) (f : Y_Tx → Bool) (a : Option Addr) (c : Nat) (xs : List Y_Tx) (hl : xs.length ≤ 1048576) (w : World) (hr : Reads w w.heap.size a (xs.flatMap cl_Tx)) (hp : ∀ x ∈ xs, ∀ w', Below w.heap.size w w' → Calls Try.prog 151 #[vv_Tx x, .pointer (some ⟨g1, 0, none⟩), .pointer (some ⟨g2, 0, none⟩)] w' fun e w'' => e = .returned (.bool (f x)) ∧ Below w'.heap.size w' w'') :
  Calls Try.prog 203 #[.slice a xs.length c, .func (.func 151) #[] #[.pointer (some ⟨g1, 0, none⟩), .pointer (some ⟨g2, 0, none⟩)]] w fun e w' => ∃ z : Int, e = .returned (.int .i64 z) ∧ xs.any f = decide (0 ≤ z) ∧ Below w.heap.size w w' := by
 have HR := Lib.hid (fun w' (h : Below w.heap.size w w') => hr.below h)
 have HP := Lib.hid hp
 obtain ⟨N, hN⟩ : ∃ n, n = xs.length := ⟨_, rfl⟩
 rw [← hN] at hl ⊢
 have hl' : (N : Int) ≤ 1048576 := by omega
 have HN := Lib.hid hN
 obtain ⟨B, hB⟩ : ∃ b, xs.any f = b := ⟨_, rfl⟩
 rw [hB]
 have HB := Lib.hid hB
 clear hN hr hp hB
 have S1 := Lib.hid (show Sl.Sep w w [] from Sl.Sep.start w)
 go_enter Try.func203, Try.ntmps203
 go_wp2_with fail
 go_loopw [8] (fun i wr => ∃ k : Nat, k ≤ N ∧ i = .int .i64 k ∧ Hid ((∀ j (hj : j < xs.length), j < k → f xs[j] = false) ∧ Sl.Sep w wr [])) (fun i _ => N - (intOf i).toNat)
 case atStart => exact ⟨0, Nat.zero_le _, rfl, And.intro (fun j hj h => absurd h (by omega)) S1.out⟩
 case round =>
  obtain ⟨k, hk, rfl, hrel⟩ := hrel
  have HA := Lib.hid hrel.out.1
  have S2 := Lib.hid hrel.out.2
  clear hrel S1
  by_cases hlt : (k : Int) < (N : Int)
  ·
   skip
   have hkl : k < xs.length := by have := HN.out; omega
   obtain ⟨x, hx⟩ : ∃ x, xs[k]? = some x := ⟨_, List.getElem?_eq_getElem hkl⟩
   obtain ⟨ad, e'⟩ := el_some cl_Tx_len (by decide) (HR.out _ S2.out.old) hkl
   subst e'
   have HPX := Lib.hid (fun w' (h : Below w.heap.size w w') => HP.out x (List.mem_of_getElem? hx) w' h)
   have HK := Lib.hid (fun w' (h : Below w.heap.size w w') => el5 cl_Tx_len (HR.out _ h) hx rfl)
   have HC := Lib.hid hx
   clear hx
   obtain ⟨b, hb⟩ : ∃ b, f x = b := ⟨_, rfl⟩
   rw [hb] at HPX
   have HBX := Lib.hid hb
   clear hb
   dsimp only [vv_Tx] at HPX
   obtain ⟨f0, f1, f2, f3, f4⟩ := HK.out _ S2.out.old
   go_wp2_with fail
   go_at_call 151
   refine (HPX.out _ S2.out.old).mono ?_
   rintro e w3 ⟨rfl, hb⟩
   clear f0 f1 f2 f3 f4
   have S3 := Lib.hid (S2.out.keep hb)
   clear S2
   clear hb
   cases b with
   | true =>
    go_wp2_with fail
    go_ret
    exact ⟨(k : Int), rfl, by rw [← HB.out, L10.any_yes HC.out HBX.out]; exact (decide_eq_true (Int.natCast_nonneg k)).symm, S3.out.old⟩
   | false =>
    go_wp2_with fail
    go_roundw
    case rel => exact ⟨k + 1, by omega, by go_num, And.intro (fun j hj h => by
     by_cases e : j < k
     ·
      exact HA.out j hj e
     ·
      obtain rfl : j = k := by omega
      rw [(List.getElem?_eq_some_iff.1 HC.out).2]; exact HBX.out) S3.out⟩
    case measure => simp [intOf]; omega
  ·
   skip
   go_wp2_with fail
   go_ret
   exact ⟨-1, rfl, by rw [← HB.out, L10.any_no (fun j hj => HA.out j hj (by have := HN.out; omega))]; rfl, S2.out.old⟩
set_option maxHeartbeats 2000000 in
theorem containsFunc_cs (g1 g2 : Nat) (f : Y_Tx → Bool) (a : Option Addr) (c : Nat) (xs : List Y_Tx) (hl : xs.length ≤ 1048576) (w : World) (hr : Reads w w.heap.size a (xs.flatMap cl_Tx)) (hp : ∀ x ∈ xs, ∀ w', Below w.heap.size w w' → Calls Try.prog 151 #[vv_Tx x, .pointer (some ⟨g1, 0, none⟩), .pointer (some ⟨g2, 0, none⟩)] w' fun e w'' => e = .returned (.bool (f x)) ∧ Below w'.heap.size w' w'') :
  Calls Try.prog 150 #[.slice a xs.length c, .func (.func 151) #[] #[.pointer (some ⟨g1, 0, none⟩), .pointer (some ⟨g2, 0, none⟩)]] w fun e w' => e = .returned (.bool (xs.any f)) ∧ Below w.heap.size w w' := by
 have HIX := Lib.hid (indexFunc_cs g1 g2 f a c xs hl w hr hp)
 obtain ⟨N, hN⟩ : ∃ n, n = xs.length := ⟨_, rfl⟩
 rw [← hN] at HIX ⊢
 obtain ⟨B, hB⟩ : ∃ b, xs.any f = b := ⟨_, rfl⟩
 rw [hB] at HIX ⊢
 clear hN hr hp hl hB
 go_enter Try.func150, Try.ntmps150
 go_wp2_with fail
 go_at_call 203
 refine HIX.out.mono ?_
 rintro e w3 ⟨z, rfl, hz, hb⟩
 by_cases h0 : (0 : Int) ≤ z
 ·
  rw [decide_eq_true h0] at hz
  subst hz
  go_wp2_with fail
  go_ret
  exact ⟨by first | rfl | simp [h0], hb⟩
 ·
  rw [decide_eq_false h0] at hz
  subst hz
  go_wp2_with fail
  go_ret
  exact ⟨by first | rfl | simp [h0], hb⟩
set_option maxHeartbeats 8000000 in
theorem canStart_any (a : Option Addr) (c : Nat) (ts : List Y_Tx) (hl : ts.length ≤ 1048576) (hf : ∀ t ∈ coS_Tx ts, FitT t) (hcp : ts.length ≤ c) (i : Int) (w : World) (hr : Reads w w.heap.size a (ts.flatMap cl_Tx)) (hx : RowsRd w w.heap.size (rws_Tx ts)) :
  Calls Try.prog 74 #[.agg #[.slice a ts.length c], .int .i64 i] w fun e w' => e = .returned (.bool (csQ (coS_Tx ts) i)) ∧ Below w.heap.size w w' := by
 have HIS := Lib.hid (fun w' (h : Below w.heap.size w w') => isInState_any a c ts hl hf i 0 w' ((hr.below h).more h.size) ((hx.below h).more h.size))
 have HRW := Lib.hid (fun w' (h : Below w.heap.size w w') => ((hr.below h).more h.size : Reads w' w'.heap.size a (ts.flatMap cl_Tx)))
 have HFL := Lib.hid (And.intro hf hl)
 have hmf : ∀ (fn : Fn) (first cap : Array Value) (w : World), (Instr.makeFunc fn first cap).run Try.prog w = .ok (.func fn first cap) w := fun _ _ _ _ => rfl
 have HR := Lib.hid (fun w' (h : Below w.heap.size w w') => hr.below h)
 have HX := Lib.hid (fun w' (h : Below w.heap.size w w') => (hx.below h).more h.size)
 have HF := Lib.hid hf
 obtain ⟨N, hN⟩ : ∃ n, n = ts.length := ⟨_, rfl⟩
 rw [← hN] at hl ⊢
 have hl' : (N : Int) ≤ 1048576 := by omega
 have HN := Lib.hid hN
 clear hN hr hx hf
 rw [← HN.out] at HIS
 obtain ⟨bi, hbi⟩ : ∃ b, inSt (coS_Tx ts) i 0 = b := ⟨_, rfl⟩
 replace HIS := HIS.out
 rw [hbi] at HIS
 replace HIS := Lib.hid HIS
 have HBI := Lib.hid hbi
 clear hbi
 have HSL := Lib.hid (show (coS_Tx ts).length = N from by rw [coT_len, HN.out])
 obtain ⟨B, hB⟩ : ∃ b, csQ (coS_Tx ts) i = b := ⟨_, rfl⟩
 rw [hB]
 have HB := Lib.hid hB
 clear hB
 have S1 := Lib.hid (show Sl.Sep w _ [_, _] from L4.push_box (L4.push_box (Sl.Sep.start w) 98 #[.slice a N c] (w.heap.size) (by simp)) 3 #[.int .i64 i] (w.heap.size + 1) (by simp))
 obtain ⟨wa, hwa⟩ : ∃ w_, w_ = ((w.alloc (.cells #[.slice a N c] 98)).alloc (.cells #[.int .i64 i] 3)) := ⟨_, rfl⟩
 rw [← hwa] at S1
 go_enter Try.func74, Try.ntmps74
 go_upto_region 1 with fail
 rw [← hwa]
 clear hwa
 have f0 := Bag.cs1 S1.out 0 rfl
 have f1 := Bag.cs1 S1.out 1 rfl
 cases bi with
 | false =>
  go_wp2_with fail
  go_at_call 149
  refine (HIS.out _ S1.out.old).mono ?_
  rintro e w1 ⟨rfl, hb⟩
  clear f0 f1
  have S2 := Lib.hid (S1.out.keep hb)
  clear S1
  clear hb
  have f0 := Bag.cs1 S2.out 0 rfl
  have f1 := Bag.cs1 S2.out 1 rfl
  have HV := Lib.hid (show B = false from by rw [← HB.out]; exact csQ_not HBI.out)
  go_wp2_with fail
  go_ret
  exact ⟨by rw [HV.out] <;> rfl, S2.out.old⟩
 | true =>
  obtain ⟨k0, t, hk0, hct, hst⟩ := inSt_yes HBI.out
  subst hk0
  have HCt := Lib.hid hct
  have HST := Lib.hid hst
  have hkl : k0 < ts.length := by have h := (List.getElem?_eq_some_iff.1 hct).1; rwa [coT_len] at h
  have hkN : (k0 : Int) ≤ (N : Int) := by have := HN.out; omega
  have hkN2 : k0 ≤ N := by omega
  clear hct hst
  go_wp2_with fail
  go_at_call 149
  refine (HIS.out _ S1.out.old).mono ?_
  rintro e w1 ⟨rfl, hb⟩
  clear f0 f1
  have S2 := Lib.hid (S1.out.keep hb)
  clear S1
  clear hb
  have f0 := Bag.cs1 S2.out 0 rfl
  have f1 := Bag.cs1 S2.out 1 rfl
  have hlt := (S2.out.lies 0 _ rfl w.heap.size (by simp [L4.boxR])).2
  have hlt2 := (S2.out.lies 1 _ rfl (w.heap.size + 1) (by simp [L4.boxR])).2
  have hc0 := Bag.cell_at S2.out 0 rfl 0 rfl
  have hc1 := Bag.cell_at S2.out 1 rfl 0 rfl
  have hcap : N ≤ c := by rw [HN.out]; exact hcp
  have hcap2 : (k0 : Int) ≤ (c : Int) := by omega
  have hold := S2.out.old
  have HCF := containsFunc_cs w.heap.size (w.heap.size + 1) (fun u => holdsBack (co_Tx u) t) a c (ts.take k0) (by rw [List.length_take]; omega) w1 (reads_take (HRW.out _ hold) k0) (fun u hu w' hb => by
   obtain ⟨j, hj, rfl⟩ := List.mem_iff_getElem.1 hu
   rw [List.getElem_take]
   have hjt : j < ts.length := by rw [List.length_take] at hj; omega
   have hb2 := hold.trans (hb.mono hold.size)
   refine canStart1_any ts[j] (HFL.out.1 _ (List.mem_of_getElem? (coT_at (List.getElem?_eq_getElem hjt)))) _ _ k0 t a c ts HFL.out.2 HFL.out.1 HCt.out hkl w' (rdTs (HX.out _ hb2) (List.getElem?_eq_getElem hjt)) (HRW.out _ hb2) (HX.out _ hb2) (Nat.lt_of_lt_of_le hlt hb.size) ((hb.cell (p := ⟨w.heap.size, 0, none⟩) hlt).trans (by rw [← HN.out]; exact hc0)) (Nat.lt_of_lt_of_le hlt2 hb.size) ((hb.cell (p := ⟨w.heap.size + 1, 0, none⟩) hlt2).trans hc1))
  rw [List.length_take, Nat.min_eq_left (show k0 ≤ ts.length by omega)] at HCF
  obtain ⟨bh, hbh⟩ : ∃ b, (ts.take k0).any (fun u => holdsBack (co_Tx u) t) = b := ⟨_, rfl⟩
  rw [hbh] at HCF
  have HBH := Lib.hid (show ((coS_Tx ts).take k0).any (fun u => holdsBack u t) = bh from by rw [← hbh, coS_Tx_eq, ← List.map_take, List.any_map]; rfl)
  clear hbh hlt hlt2 hc0 hc1 hold
  replace HCF := Lib.hid HCF
  clear f0 f1
  have f0 := Bag.cs1 S2.out 0 rfl
  have f1 := Bag.cs1 S2.out 1 rfl
  go_wp2_with fail
  go_at_call 150
  refine HCF.out.mono ?_
  rintro e w3 ⟨rfl, hb⟩
  clear f0 f1
  have S3 := Lib.hid (S2.out.keep hb)
  clear S2
  clear hb
  cases bh with
  | false =>
   have HV := Lib.hid (show B = true from by rw [← HB.out]; rw [csQ_at HCt.out HST.out, HBH.out]; rfl)
   go_wp2_with fail
   go_ret
   exact ⟨by rw [HV.out] <;> rfl, S3.out.old⟩
  | true =>
   have HV := Lib.hid (show B = false from by rw [← HB.out]; rw [csQ_at HCt.out HST.out, HBH.out]; rfl)
   go_wp2_with fail
   go_ret
   exact ⟨by rw [HV.out] <;> rfl, S3.out.old⟩
end Go.Proofs.Ytojcdmgcbgpdmaa.L10

