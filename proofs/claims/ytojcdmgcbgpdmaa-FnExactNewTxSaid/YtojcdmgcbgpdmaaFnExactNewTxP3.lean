/-
  What the law FnExactNewTx needs, laid by my program lawpack.py, part 3: the texts VTx, VTxQueue, Any, L10Num, VzOp, L9Fw, L10Fw, L10New, RegL, L6Sa, L10Sc, L9Sa, L10Sd, CeOp, CeStore, CeTx, L5Cp, CeItem, L6Ia, L10Ic, L4Im0, L4Im1, L5Ia, one behind the other; each begins with its own words.
-/
import Derived.Test.YtojcdmgcbgpdmaaFnExactNewTxP2
set_option linter.unusedSimpArgs false
set_option linter.unusedVariables false
set_option maxRecDepth 100000
set_option linter.unusedSimpArgs false
namespace Go.Proofs.Ytojcdmgcbgpdmaa.V
open Go.ChangeShapes Go.WideShapes Go.ChangeAt Go.RowKit Mem Sl Sv Bag
open L5 (markT)
structure X_Tx where
 f_Id : Int
 f_Ops : List X_Op
 f_At : Int
 f_State : Int
 f_Backup : List L6.S6
structure Y_Tx where
 f_Id : Int
 f_Ops_a : Option Addr
 f_Ops_c : Nat
 f_Ops : List Y_Op
 f_At : Int
 f_State : Int
 f_Backup_a : Option Addr
 f_Backup_c : Nat
 f_Backup : List L6.LS
def co_Tx (z : Y_Tx) : X_Tx := ⟨z.f_Id, coS_Op z.f_Ops, z.f_At, z.f_State, coS_Store z.f_Backup⟩
def coS_Tx (xs : List Y_Tx) : List X_Tx := xs.map co_Tx
theorem coS_Tx_eq (xs : List Y_Tx) : coS_Tx xs = xs.map co_Tx := rfl
def cl_Tx (z : Y_Tx) : List Value := [.int .i64 z.f_Id, .slice z.f_Ops_a z.f_Ops.length z.f_Ops_c, .int .i64 z.f_At, .int .i64 z.f_State, .slice z.f_Backup_a z.f_Backup.length z.f_Backup_c]
def vv_Tx (z : Y_Tx) : Value := .agg #[.int .i64 z.f_Id, .slice z.f_Ops_a z.f_Ops.length z.f_Ops_c, .int .i64 z.f_At, .int .i64 z.f_State, .slice z.f_Backup_a z.f_Backup.length z.f_Backup_c]
def rw_Tx (z : Y_Tx) : List RowS := rs_Op z.f_Ops_a z.f_Ops_c z.f_Ops ++ (rs_Store z.f_Backup_a z.f_Backup_c z.f_Backup)
def wt_Tx (c : X_Tx) : Nat := wsum wt_Op c.f_Ops + (wsum wt_Store c.f_Backup)
theorem wt_Tx_parts (z : Y_Tx) : wt_Tx (co_Tx z) = wsum wt_Op (coS_Op z.f_Ops) + (wsum wt_Store (coS_Store z.f_Backup)) := rfl
theorem cl_Tx_len (z : Y_Tx) : (cl_Tx z).length = 5 := rfl
theorem cl_Tx_one (z : Y_Tx) : ∀ u ∈ cl_Tx z, u.oneCell' = true := by
 intro u hu
 unfold cl_Tx at hu
 rcases List.mem_cons.1 hu with rfl | hu
 ·
  rfl
 rcases List.mem_cons.1 hu with rfl | hu
 ·
  rfl
 rcases List.mem_cons.1 hu with rfl | hu
 ·
  rfl
 rcases List.mem_cons.1 hu with rfl | hu
 ·
  rfl
 rcases List.mem_cons.1 hu with rfl | hu
 ·
  rfl
 cases hu
def row_Tx (a : Option Addr) (c : Nat) (xs : List Y_Tx) : RowS := ⟨161, 5, a, c, xs.length, xs.flatMap cl_Tx⟩
def rws_Tx (xs : List Y_Tx) : List RowS := xs.flatMap rw_Tx
theorem rws_Tx_eq (xs : List Y_Tx) : rws_Tx xs = xs.flatMap rw_Tx := rfl
def rs_Tx (a : Option Addr) (c : Nat) (xs : List Y_Tx) : List RowS := row_Tx a c xs :: rws_Tx xs
theorem rws_Tx_app (xs ys : List Y_Tx) : rws_Tx (xs ++ ys) = rws_Tx xs ++ rws_Tx ys := by rw [rws_Tx_eq, rws_Tx_eq, rws_Tx_eq, List.flatMap_append]
def Wide_Tx (z : Y_Tx) : Prop := (-9223372036854775808 ≤ z.f_Id ∧ z.f_Id ≤ 9223372036854775807) ∧ (z.f_Ops.length ≤ maxLen ∧ ∀ x ∈ z.f_Ops, Wide_Op x) ∧ (-9223372036854775808 ≤ z.f_At ∧ z.f_At ≤ 9223372036854775807) ∧ (-9223372036854775808 ≤ z.f_State ∧ z.f_State ≤ 9223372036854775807) ∧ (z.f_Backup.length ≤ maxLen ∧ ∀ x ∈ z.f_Backup, Wide_Store x)
section
variable {H : Type} {enc : TypeId × Value → H} {W : World} {b : Nat} {sp : Nat → Bool} {hd : Bool}
theorem trod_Tx {fuel : Nat} {cs : List Value} {x : DataW H × List MemPlace} (h : DataW.trod enc Try.prog W b sp hd fuel 211 cs = some x) (hlt : ∀ p ∈ x.2, p.block < W.heap.size) : ∃ z : Y_Tx, cs = cl_Tx z ∧ RowsRd W W.heap.size (rw_Tx z) ∧ Wide_Tx z := by
 obtain ⟨xs, n, _, hx, hl, hlen, hf⟩ := DataW.trod_struct Try.underlying211 h
 have hlN : cs.length = 5 := hl.trans (by kernel_rfl)
 match cs, hlN with
 | [c0, c1, c2, c3, c4], _ =>
  have h0 : DataW.trod enc Try.prog W b sp hd n 3 (List.take (Try.prog.cellsOf 3) (List.drop 0 [c0, c1, c2, c3, c4])) = xs[0]? := hf 0 _ rfl
  rw [show Try.prog.cellsOf 3 = 1 by kernel_rfl, List.getElem?_eq_getElem (by rw [hlen]; decide)] at h0
  obtain ⟨x0, e0, _, w0⟩ := DataW.trod_int Try.underlying3 h0
  have h1 : DataW.trod enc Try.prog W b sp hd n 78 (List.take (Try.prog.cellsOf 78) (List.drop 1 [c0, c1, c2, c3, c4])) = xs[1]? := hf 1 _ rfl
  rw [show Try.prog.cellsOf 78 = 1 by kernel_rfl, List.getElem?_eq_getElem (by rw [hlen]; decide)] at h1
  obtain ⟨a1, x1, c1', e1, r1, v1, l1, w1⟩ := trods_Op h1 (fun p hp => hlt p (by rw [hx]; exact List.mem_flatMap.2 ⟨_, List.getElem_mem (show 1 < xs.length by rw [hlen]; decide), hp⟩))
  have h2 : DataW.trod enc Try.prog W b sp hd n 3 (List.take (Try.prog.cellsOf 3) (List.drop 2 [c0, c1, c2, c3, c4])) = xs[2]? := hf 2 _ rfl
  rw [show Try.prog.cellsOf 3 = 1 by kernel_rfl, List.getElem?_eq_getElem (by rw [hlen]; decide)] at h2
  obtain ⟨x2, e2, _, w2⟩ := DataW.trod_int Try.underlying3 h2
  have h3 : DataW.trod enc Try.prog W b sp hd n 3 (List.take (Try.prog.cellsOf 3) (List.drop 3 [c0, c1, c2, c3, c4])) = xs[3]? := hf 3 _ rfl
  rw [show Try.prog.cellsOf 3 = 1 by kernel_rfl, List.getElem?_eq_getElem (by rw [hlen]; decide)] at h3
  obtain ⟨x3, e3, _, w3⟩ := DataW.trod_int Try.underlying3 h3
  have h4 : DataW.trod enc Try.prog W b sp hd n 209 (List.take (Try.prog.cellsOf 209) (List.drop 4 [c0, c1, c2, c3, c4])) = xs[4]? := hf 4 _ rfl
  rw [show Try.prog.cellsOf 209 = 1 by kernel_rfl, List.getElem?_eq_getElem (by rw [hlen]; decide)] at h4
  obtain ⟨a4, x4, c4', e4, r4, v4, l4, w4⟩ := trods_Store h4 (fun p hp => hlt p (by rw [hx]; exact List.mem_flatMap.2 ⟨_, List.getElem_mem (show 4 < xs.length by rw [hlen]; decide), hp⟩))
  simp only [List.drop_succ_cons, List.drop_zero, List.take_succ_cons, List.take_zero, List.cons.injEq, and_true] at e0
  subst e0
  simp only [List.drop_succ_cons, List.drop_zero, List.take_succ_cons, List.take_zero, List.cons.injEq, and_true] at e1
  subst e1
  simp only [List.drop_succ_cons, List.drop_zero, List.take_succ_cons, List.take_zero, List.cons.injEq, and_true] at e2
  subst e2
  simp only [List.drop_succ_cons, List.drop_zero, List.take_succ_cons, List.take_zero, List.cons.injEq, and_true] at e3
  subst e3
  simp only [List.drop_succ_cons, List.drop_zero, List.take_succ_cons, List.take_zero, List.cons.injEq, and_true] at e4
  subst e4
  exact ⟨⟨x0, a1, c1', x1, x2, x3, a4, c4', x4⟩, rfl, rd_app (rd_cons ⟨r1.1, r1.2.1, r1.2.2⟩ (by rw [rws_Op_eq]; exact v1)) (rd_cons ⟨r4.1, r4.2.1, r4.2.2⟩ (by rw [rws_Store_eq]; exact v4)), ⟨Law.wf_i64 w0, ⟨l1, w1⟩, Law.wf_i64 w2, Law.wf_i64 w3, ⟨l4, w4⟩⟩⟩
theorem trods_Tx {fuel : Nat} {cs : List Value} {x : DataW H × List MemPlace} (h : DataW.trod enc Try.prog W b sp hd fuel 92 cs = some x) (hlt : ∀ p ∈ x.2, p.block < W.heap.size) :
  ∃ (a : Option Addr) (xs : List Y_Tx) (c : Nat), cs = [.slice a xs.length c] ∧ (Reads W W.heap.size a (xs.flatMap cl_Tx) ∧ xs.length ≤ c ∧ (a = none → c = 0)) ∧ RowsRd W W.heap.size (xs.flatMap rw_Tx) ∧ xs.length ≤ maxLen ∧ ∀ z ∈ xs, Wide_Tx z :=
 trods cl_Tx 5 cl_Tx_len (by decide) rw_Tx Wide_Tx 92 211 Try.underlying92 (by kernel_rfl) (fun h hl => trod_Tx h hl) h hlt
end
set_option maxHeartbeats 4000000 in
theorem to_Tx (z : Y_Tx) (hf : wt_Tx (co_Tx z) ≤ 1048576) (w : World) (hr : RowsRd w w.heap.size (rw_Tx z)) : Calls Try.prog 194 #[vv_Tx z] w fun e w' => ∃ y : Y_Tx, e = .returned (vv_Tx y) ∧ co_Tx y = co_Tx z ∧ BagOwn w' w.heap.size (rw_Tx y) ∧ Below w.heap.size w w' := by
 have hfp := hf
 rw [wt_Tx_parts] at hfp
 have HC1 := Lib.hid (fun w' (h : Below w.heap.size w w') => to_OpS z.f_Ops_a z.f_Ops_c z.f_Ops (by omega) w' (((rd_head (rd_left hr)).reads.below h).more h.size) (((rd_tail (rd_left hr)).below h).more h.size))
 have HC4 := Lib.hid (fun w' (h : Below w.heap.size w w') => to_StoreS z.f_Backup_a z.f_Backup_c z.f_Backup (by omega) w' (((rd_head (rd_right hr)).reads.below h).more h.size) (((rd_tail (rd_right hr)).below h).more h.size))
 clear hfp hf hr
 unfold vv_Tx
 have S1 := Lib.hid (show Sl.Sep w _ [_, _] from L4.push_box (L4.push_box (Sl.Sep.start w) 211 #[.int .i64 z.f_Id, .slice z.f_Ops_a z.f_Ops.length z.f_Ops_c, .int .i64 z.f_At, .int .i64 z.f_State, .slice z.f_Backup_a z.f_Backup.length z.f_Backup_c] (w.heap.size) (by simp)) 161 #[.int .i64 0, .slice none 0 0, .int .i64 0, .int .i64 0, .slice none 0 0] (w.heap.size + 1) (by simp))
 obtain ⟨wa, hwa⟩ : ∃ w_, w_ = ((w.alloc (.cells #[.int .i64 z.f_Id, .slice z.f_Ops_a z.f_Ops.length z.f_Ops_c, .int .i64 z.f_At, .int .i64 z.f_State, .slice z.f_Backup_a z.f_Backup.length z.f_Backup_c] 211)).alloc (.cells #[.int .i64 0, .slice none 0 0, .int .i64 0, .int .i64 0, .slice none 0 0] 161)) := ⟨_, rfl⟩
 rw [← hwa] at S1
 go_enter Try.func194, Try.ntmps194
 go_upto_region 1 with fail
 rw [← hwa]
 clear hwa
 go_upto_region 2 with fail
 have S2 := Lib.hid (show Sl.Sep w _ [_, _, _] from L4.push_box S1.out 161 #[.int .i64 0, .slice none 0 0, .int .i64 0, .int .i64 0, .slice none 0 0] wa.heap.size rfl)
 clear S1
 obtain ⟨g1, hg⟩ : ∃ g', g' = wa.heap.size := ⟨_, rfl⟩
 rw [← hg] at S2 ⊢
 clear hg
 generalize wa.alloc (.cells #[.int .i64 0, .slice none 0 0, .int .i64 0, .int .i64 0, .slice none 0 0] 161) = w1 at S2 ⊢
 obtain ⟨f0, f1, f2, f3, f4⟩ := Bag.cs5 S2.out 0 rfl
 obtain ⟨f5, f6, f7, f8, f9⟩ := Bag.cs5 S2.out 2 rfl
 have z0 := Bag.free_at S2.out 2 rfl 0
 go_upto_region 3 with fail
 clear f0 f1 f2 f3 f4 f5 f6 f7 f8 f9 z0
 have S3 := Lib.hid (show Sl.Sep w _ [_, _, L4.boxR g1 161 #[.int .i64 z.f_Id, .slice none 0 0, .int .i64 0, .int .i64 0, .slice none 0 0]] from L5.put_box5 (S2.out) 2 rfl 0 (.int .i64 z.f_Id))
 clear S2
 obtain ⟨f0, f1, f2, f3, f4⟩ := Bag.cs5 S3.out 0 rfl
 go_wp2_with fail
 go_at_call 52
 refine (HC1.out _ S3.out.old).mono ?_
 rintro e w2 ⟨a1', c1', y1, rfl, hc1, ho, hb⟩
 clear f0 f1 f2 f3 f4
 have S4 := Lib.hid (show Sl.Sep w _ [_, _, _, Bag.bag (rs_Op a1' c1' y1)] from Bag.push_bag S3.out hb ho)
 clear S3
 clear hb ho
 have HQ1 := Lib.hid hc1
 clear hc1
 obtain ⟨f0, f1, f2, f3, f4⟩ := Bag.cs5 S4.out 0 rfl
 obtain ⟨f5, f6, f7, f8, f9⟩ := Bag.cs5 S4.out 2 rfl
 have z1 := Bag.free_at S4.out 2 rfl 1
 go_upto_region 4 with fail
 clear f0 f1 f2 f3 f4 f5 f6 f7 f8 f9 z1
 have S5 := Lib.hid (show Sl.Sep w _ [_, _, L4.boxR g1 161 #[.int .i64 z.f_Id, .slice a1' y1.length c1', .int .i64 0, .int .i64 0, .slice none 0 0], _] from L5.put_box5 (S4.out) 2 rfl 1 (.slice a1' y1.length c1'))
 clear S4
 obtain ⟨f0, f1, f2, f3, f4⟩ := Bag.cs5 S5.out 0 rfl
 obtain ⟨f5, f6, f7, f8, f9⟩ := Bag.cs5 S5.out 2 rfl
 have z2 := Bag.free_at S5.out 2 rfl 2
 go_upto_region 5 with fail
 clear f0 f1 f2 f3 f4 f5 f6 f7 f8 f9 z2
 have S6 := Lib.hid (show Sl.Sep w _ [_, _, L4.boxR g1 161 #[.int .i64 z.f_Id, .slice a1' y1.length c1', .int .i64 z.f_At, .int .i64 0, .slice none 0 0], _] from L5.put_box5 (S5.out) 2 rfl 2 (.int .i64 z.f_At))
 clear S5
 obtain ⟨f0, f1, f2, f3, f4⟩ := Bag.cs5 S6.out 0 rfl
 obtain ⟨f5, f6, f7, f8, f9⟩ := Bag.cs5 S6.out 2 rfl
 have z3 := Bag.free_at S6.out 2 rfl 3
 go_upto_region 6 with fail
 clear f0 f1 f2 f3 f4 f5 f6 f7 f8 f9 z3
 have S7 := Lib.hid (show Sl.Sep w _ [_, _, L4.boxR g1 161 #[.int .i64 z.f_Id, .slice a1' y1.length c1', .int .i64 z.f_At, .int .i64 z.f_State, .slice none 0 0], _] from L5.put_box5 (S6.out) 2 rfl 3 (.int .i64 z.f_State))
 clear S6
 obtain ⟨f0, f1, f2, f3, f4⟩ := Bag.cs5 S7.out 0 rfl
 go_wp2_with fail
 go_at_call 227
 refine (HC4.out _ S7.out.old).mono ?_
 rintro e w3 ⟨a4', c4', y4, rfl, hc4, ho, hb⟩
 clear f0 f1 f2 f3 f4
 have S8 := Lib.hid (show Sl.Sep w _ [_, _, _, _, Bag.bag (rs_Store a4' c4' y4)] from Bag.push_bag S7.out hb ho)
 clear S7
 clear hb ho
 have HQ4 := Lib.hid hc4
 clear hc4
 obtain ⟨f0, f1, f2, f3, f4⟩ := Bag.cs5 S8.out 0 rfl
 obtain ⟨f5, f6, f7, f8, f9⟩ := Bag.cs5 S8.out 2 rfl
 have z4 := Bag.free_at S8.out 2 rfl 4
 go_upto_region 7 with fail
 clear f0 f1 f2 f3 f4 f5 f6 f7 f8 f9 z4
 have S9 := Lib.hid (show Sl.Sep w _ [_, _, L4.boxR g1 161 #[.int .i64 z.f_Id, .slice a1' y1.length c1', .int .i64 z.f_At, .int .i64 z.f_State, .slice a4' y4.length c4'], _, _] from L5.put_box5 (S8.out) 2 rfl 4 (.slice a4' y4.length c4'))
 clear S8
 obtain ⟨f0, f1, f2, f3, f4⟩ := Bag.cs5 S9.out 1 rfl
 obtain ⟨f5, f6, f7, f8, f9⟩ := Bag.cs5 S9.out 2 rfl
 obtain ⟨z0, z1, z2, z3, z4⟩ := Bag.fs5 S9.out 1 rfl
 go_wp2_with fail
 clear f0 f1 f2 f3 f4 f5 f6 f7 f8 f9 z0 z1 z2 z3 z4
 have S10 := Lib.hid (show Sl.Sep w _ [_, L4.boxR (w.heap.size + 1) 161 #[.int .i64 z.f_Id, .slice a1' y1.length c1', .int .i64 z.f_At, .int .i64 z.f_State, .slice none 0 0], _, _, _] from L5.put_box5 (L5.put_box5 (L5.put_box5 (L5.put_box5 (S9.out) 1 rfl 0 (.int .i64 z.f_Id)) 1 rfl 1 (.slice a1' y1.length c1')) 1 rfl 2 (.int .i64 z.f_At)) 1 rfl 3 (.int .i64 z.f_State))
 clear S9
 have S11 := Lib.hid (show Sl.Sep w _ [_, L4.boxR (w.heap.size + 1) 161 #[.int .i64 z.f_Id, .slice a1' y1.length c1', .int .i64 z.f_At, .int .i64 z.f_State, .slice a4' y4.length c4'], _, _, _] from L5.put_box5 (S10.out) 1 rfl 4 (.slice a4' y4.length c4'))
 clear S10
 obtain ⟨f0, f1, f2, f3, f4⟩ := Bag.cs5 S11.out 1 rfl
 refine bodyPost_ret (v := .agg #[.int .i64 z.f_Id, .slice a1' y1.length c1', .int .i64 z.f_At, .int .i64 z.f_State, .slice a4' y4.length c4']) (by simp [results, Try.results194, go_sem, *]) rfl ?_
 clear f0 f1 f2 f3 f4
 have S12 := Lib.hid (show Sl.Sep w _ [_, _, _, Bag.bag ((rs_Op a1' c1' y1) ++ (rs_Store a4' c4' y4)), Bag.bag ([])] from Bag.bag_join S11.out 3 4 (by decide) rfl rfl)
 clear S11
 refine ⟨⟨z.f_Id, a1', c1', y1, z.f_At, z.f_State, a4', c4', y4⟩, rfl, ?_, Bag.bag_from S12.out 3 rfl, S12.out.old⟩
 show (⟨z.f_Id, coS_Op y1, z.f_At, z.f_State, coS_Store y4⟩ : X_Tx) = (⟨z.f_Id, coS_Op z.f_Ops, z.f_At, z.f_State, coS_Store z.f_Backup⟩ : X_Tx)
 rw [HQ1.out, HQ4.out]
theorem info_Tx : ∃ i, Try.prog.info? 161 = some i ∧ i.zero = some (.agg #[.int .i64 0, .slice none 0 0, .int .i64 0, .int .i64 0, .slice none 0 0]) ∧ i.size = 5 ∧ i.bytes = 72 := Ex.infoOf _ _ _ _ (by kernel_rfl)
set_option maxHeartbeats 4000000 in
theorem to_TxS (a : Option Addr) (c : Nat) (xs : List Y_Tx) (hf : wsum wt_Tx (coS_Tx xs) ≤ 1048576) (w : World) (hr : Reads w w.heap.size a (xs.flatMap cl_Tx)) (hx : RowsRd w w.heap.size (rws_Tx xs)) :
  Calls Try.prog 137 #[.slice a xs.length c] w fun e w' => ∃ a' c' ys, e = .returned (.slice a' ys.length c') ∧ coS_Tx ys = coS_Tx xs ∧ BagOwn w' w.heap.size (rs_Tx a' c' ys) ∧ Below w.heap.size w w' := by
 obtain ⟨i0, hi1, hi2, hi3, hi4⟩ := info_Tx
 have HI := Lib.hid (And.intro hi1 (And.intro hi2 (And.intro hi3 hi4)))
 clear hi1 hi2 hi3 hi4
 rw [coS_Tx_eq] at hf
 have HR := Lib.hid (fun w' (h : Below w.heap.size w w') => hr.below h)
 have HX := Lib.hid (fun w' (h : Below w.heap.size w w') => (hx.below h).more h.size)
 have HF := Lib.hid hf
 have hl : xs.length ≤ 1048576 := by have := wsum_len wt_Tx (xs.map co_Tx); rw [List.length_map] at this; omega
 obtain ⟨N, hN⟩ : ∃ n, n = xs.length := ⟨_, rfl⟩
 rw [← hN] at hl ⊢
 have hl' : (N : Int) ≤ 1048576 := by omega
 have HN := Lib.hid hN
 clear hN hr hx hf
 obtain ⟨Z, hZ⟩ : ∃ Z, Z = (madeCells (Value.agg #[.int .i64 0, .slice none 0 0, .int .i64 0, .int .i64 0, .slice none 0 0]).cells (N * 5)).toList := ⟨_, rfl⟩
 have HZ := Lib.hid (show Z.length = N * 5 by rw [hZ]; simp [madeCells])
 have HZD := Lib.hid hZ
 clear hZ
 have S1 := Lib.hid (show Sl.Sep w w [] from Sl.Sep.start w)
 go_enter Try.func137, Try.ntmps137
 go_upto_region 2 with (at_make; refine Run.wpList_make_s S1.out rfl _ _ 96 rfl 161 i0 (.agg #[.int .i64 0, .slice none 0 0, .int .i64 0, .int .i64 0, .slice none 0 0]) 5 Try.underlying96 HI.out.1 HI.out.2.1 HI.out.2.2.1 _ _ N rfl rfl (by rw [HI.out.2.2.2]; omega) (by unfold maxLen; omega) ?_; intro w1 S')
 obtain ⟨g1, hg⟩ : ∃ g', g' = w.heap.size := ⟨_, rfl⟩
 rw [← hg] at S' ⊢
 clear hg
 have S2 := Lib.hid (show Sl.Sep w _ [Sv.ownV 161 5 (some ⟨g1, 0, none⟩) N N (([] : List Y_Tx).flatMap cl_Tx ++ Z)] from (by have h := S'; rw [← HZD.out] at h; exact h))
 clear S1
 clear S'
 have S3 := Lib.hid (show Sl.Sep w _ [_, Bag.bag (rws_Tx [])] from Bag.push_bag S2.out (Below.refl _ _) (by rw [rws_Tx_eq]; exact Bag.BagOwn.nil _ _))
 clear S2
 go_wp2_with fail
 go_loopw [4] (fun i wr => ∃ (k : Nat) (ys : List Y_Tx) (Zs : List Value), k ≤ N ∧ i = .int .i64 k ∧ Hid ((ys.map co_Tx = (xs.take k).map co_Tx ∧ ys.length = k ∧ Zs.length = (N - k) * 5) ∧ Sl.Sep w wr [Sv.ownV 161 5 (some ⟨g1, 0, none⟩) N N (ys.flatMap cl_Tx ++ Zs), Bag.bag (rws_Tx ys)])) (fun i _ => N - (intOf i).toNat)
 case atStart => exact ⟨0, [], Z, Nat.zero_le _, rfl, And.intro ⟨rfl, rfl, HZ.out⟩ S3.out⟩
 case round =>
  obtain ⟨k, ys, Zs, hk, rfl, hrel⟩ := hrel
  have HC := Lib.hid hrel.out.1
  have S4 := Lib.hid hrel.out.2
  clear hrel S3
  by_cases hlt : (k : Int) < (N : Int)
  ·
   skip
   have hkl : k < xs.length := by have := HN.out; omega
   obtain ⟨x, hx⟩ : ∃ x, xs[k]? = some x := ⟨_, List.getElem?_eq_getElem hkl⟩
   obtain ⟨ad, e'⟩ := el_some cl_Tx_len (by decide) (HR.out _ S4.out.old) hkl
   subst e'
   have HK := Lib.hid (fun w' (h : Below w.heap.size w w') => el5 cl_Tx_len (HR.out _ h) hx rfl)
   have HTX := Lib.hid (take_next hx)
   have HL := Lib.hid (show (ys.flatMap cl_Tx).length = k * 5 ∧ k * 5 + 5 ≤ (ys.flatMap cl_Tx ++ Zs).length ∧ 5 ≤ Zs.length from by have h1 := HC.out.2.1; have h2 := HC.out.2.2; rw [List.length_append, flat_len cl_Tx_len, h1, h2]; omega)
   have HCI := Lib.hid (fun w' (h : Below w.heap.size w w') => to_Tx x (by have h1 := wsum_mem (f := wt_Tx) (List.mem_map.2 ⟨x, List.mem_of_getElem? hx, rfl⟩ : co_Tx x ∈ xs.map co_Tx); have h2 := HF.out; omega) w' (rd_el (rw_ := rw_Tx) (by rw [← rws_Tx_eq]; exact HX.out w' h) hx))
   dsimp only [vv_Tx] at HCI
   clear hx
   obtain ⟨f0, f1, f2, f3, f4⟩ := HK.out _ S4.out.old
   go_wp2_with fail
   go_at_call 194
   refine (HCI.out _ S4.out.old).mono ?_
   rintro e w2 ⟨y, rfl, hcy, ho, hb⟩
   clear f0 f1 f2 f3 f4
   have S5 := Lib.hid (show Sl.Sep w _ [Sv.ownV 161 5 (some ⟨g1, 0, none⟩) N N (ys.flatMap cl_Tx ++ Zs), Bag.bag (rws_Tx ys), Bag.bag (rw_Tx y)] from Bag.push_bag S4.out hb ho)
   clear S4
   clear hb ho
   have HCY := Lib.hid hcy
   clear hcy
   try dsimp only [vv_Tx]
   have q0 := (Sv.own_at S5.out 0 rfl).cell (k * 5) (by have := HL.out.2.1; omega)
   have z0 := (Sv.own_at S5.out 0 rfl).free (k * 5)
   have q1 := (Sv.own_at S5.out 0 rfl).cell (k * 5 + 1) (by have := HL.out.2.1; omega)
   have z1 := (Sv.own_at S5.out 0 rfl).free (k * 5 + 1)
   have q2 := (Sv.own_at S5.out 0 rfl).cell (k * 5 + 2) (by have := HL.out.2.1; omega)
   have z2 := (Sv.own_at S5.out 0 rfl).free (k * 5 + 2)
   have q3 := (Sv.own_at S5.out 0 rfl).cell (k * 5 + 3) (by have := HL.out.2.1; omega)
   have z3 := (Sv.own_at S5.out 0 rfl).free (k * 5 + 3)
   have q4 := (Sv.own_at S5.out 0 rfl).cell (k * 5 + 4) (by have := HL.out.2.1; omega)
   have z4 := (Sv.own_at S5.out 0 rfl).free (k * 5 + 4)
   go_wp2_with fail
   clear q0 z0 q1 z1 q2 z2 q3 z3 q4 z4
   have S6 := Lib.hid (show Sl.Sep w (World.setCells w2 g1 (k * 5) [.int .i64 y.f_Id, .slice y.f_Ops_a y.f_Ops.length y.f_Ops_c, .int .i64 y.f_At, .int .i64 y.f_State, .slice y.f_Backup_a y.f_Backup.length y.f_Backup_c]) [Sv.ownV 161 5 (some ⟨g1, 0, none⟩) N N ((ys ++ [y]).flatMap cl_Tx ++ Zs.drop 5), Bag.bag (rws_Tx ys), Bag.bag (rw_Tx y)] from (by have h := Run.put_run S5.out 0 rfl (k * 5) [.int .i64 y.f_Id, .slice y.f_Ops_a y.f_Ops.length y.f_Ops_c, .int .i64 y.f_At, .int .i64 y.f_State, .slice y.f_Backup_a y.f_Backup.length y.f_Backup_c] (by have := HL.out.2.1; simpa using this); rw [Run.over_at _ _ _ _ HL.out.1 (by have := HL.out.2.2; simpa using this)] at h; rw [List.flatMap_append, List.append_assoc]; exact h))
   clear S5
   have S7 := Lib.hid (show Sl.Sep w _ [Sv.ownV 161 5 (some ⟨g1, 0, none⟩) N N ((ys ++ [y]).flatMap cl_Tx ++ Zs.drop 5), Bag.bag (rws_Tx ys ++ (rw_Tx y)), Bag.bag ([])] from Bag.bag_join S6.out 1 2 (by decide) rfl rfl)
   clear S6
   have S8 := Lib.hid (show Sl.Sep w _ [_, _] from Bag.take S7.out [0, 1] (by rfl) (by decide))
   clear S7
   go_roundw
   case rel =>
    refine ⟨k + 1, ys ++ [y], Zs.drop 5, by omega, by go_num, And.intro ⟨?_, ?_, ?_⟩ ?_⟩
    ·
     rw [HTX.out, List.map_append, List.map_append, HC.out.1]; rw [show [y].map co_Tx = [x].map co_Tx from congrArg (fun u => [u]) HCY.out]
    ·
     rw [List.length_append, HC.out.2.1]; rfl
    ·
     rw [List.length_drop, HC.out.2.2]; omega
    ·
     rw [rws_Tx_app]; rw [show rws_Tx [y] = rw_Tx y from by rw [rws_Tx_eq]; simp]; exact S8.out
   case measure => simp [intOf]; omega
  ·
   skip
   obtain rfl : k = N := by omega
   go_wp2_with fail
   go_ret
   obtain ⟨hc1, hc2, hc3⟩ := HC.out
   have hZs : Zs = [] := List.eq_nil_of_length_eq_zero (by rw [hc3]; omega)
   have hcon : ys.map co_Tx = xs.map co_Tx := by rw [hc1, List.take_of_length_le (by have := HN.out; omega)]
   have S90 := Lib.hid (Bag.bag_of_one S4.out 0 (r := row_Tx (some ⟨g1, 0, none⟩) k ys) (by unfold RowS.res row_Tx; dsimp only; rw [hZs, List.append_nil, hc2]; rfl))
   have S91 := Lib.hid (Bag.bag_join S90.out 0 1 (by decide) rfl rfl)
   have hb := Bag.bag_from S91.out 0 rfl
   subst hc2
   exact ⟨_, _, ys, rfl, by rw [coS_Tx_eq, coS_Tx_eq]; exact hcon, hb, S91.out.old⟩
set_option maxHeartbeats 4000000 in
theorem sz_Tx (z : Y_Tx) (q : Int) (hw : Wide_Tx z) (hq0 : -1 ≤ q) (hq1 : q ≤ 1048576) (w : World) (hr : RowsRd w w.heap.size (rw_Tx z)) : Calls Try.prog 192 #[vv_Tx z, .int .i64 q] w fun e w' => e = .returned (.int .i64 (lft q (wt_Tx (co_Tx z)))) ∧ Below w.heap.size w w' := by
 have HS1 := Lib.hid (fun (m : Int) (h0 : -1 ≤ m) (h1 : m ≤ 1048576) w' (h : Below w.heap.size w w') => sz_OpS z.f_Ops_a z.f_Ops_c z.f_Ops m hw.2.1.2 hw.2.1.1 h0 h1 w' (((rd_head (rd_left hr)).reads.below h).more h.size) (((rd_tail (rd_left hr)).below h).more h.size))
 have HS4 := Lib.hid (fun (m : Int) (h0 : -1 ≤ m) (h1 : m ≤ 1048576) w' (h : Below w.heap.size w w') => sz_StoreS z.f_Backup_a z.f_Backup_c z.f_Backup m hw.2.2.2.2.2 hw.2.2.2.2.1 h0 h1 w' (((rd_head (rd_right hr)).reads.below h).more h.size) (((rd_tail (rd_right hr)).below h).more h.size))
 have HW := Lib.hid (wt_Tx_parts z)
 clear hw hr
 unfold vv_Tx
 have S1 := Lib.hid (show Sl.Sep w _ [_] from L4.push_box (Sl.Sep.start w) 211 #[.int .i64 z.f_Id, .slice z.f_Ops_a z.f_Ops.length z.f_Ops_c, .int .i64 z.f_At, .int .i64 z.f_State, .slice z.f_Backup_a z.f_Backup.length z.f_Backup_c] (w.heap.size) (by simp))
 obtain ⟨wa, hwa⟩ : ∃ w_, w_ = (w.alloc (.cells #[.int .i64 z.f_Id, .slice z.f_Ops_a z.f_Ops.length z.f_Ops_c, .int .i64 z.f_At, .int .i64 z.f_State, .slice z.f_Backup_a z.f_Backup.length z.f_Backup_c] 211)) := ⟨_, rfl⟩
 rw [← hwa] at S1
 go_enter Try.func192, Try.ntmps192
 go_upto_region 1 with fail
 rw [← hwa]
 clear hwa
 obtain ⟨f0, f1, f2, f3, f4⟩ := Bag.cs5 S1.out 0 rfl
 obtain ⟨u1, hu⟩ : ∃ u, lft q (wsum wt_Op (coS_Op z.f_Ops)) = u := ⟨_, rfl⟩
 have hc1 := lft_cases hu
 have hr1 := lft_range (q := q) (wsum wt_Op (coS_Op z.f_Ops)) (by omega)
 rw [hu] at hr1
 have HCU := HS1.out q (by omega) (by omega)
 simp only [hu] at HCU
 replace HCU := Lib.hid HCU
 clear hu
 go_wp2_with fail
 go_at_call 50
 refine (HCU.out _ S1.out.old).mono ?_
 rintro e w1 ⟨rfl, hb⟩
 clear f0 f1 f2 f3 f4
 have S2 := Lib.hid (S1.out.keep hb)
 clear S1
 clear hb
 obtain ⟨f0, f1, f2, f3, f4⟩ := Bag.cs5 S2.out 0 rfl
 clear HCU
 by_cases hn1 : u1 < 0
 ·
  have hm1 : u1 = -1 := by omega
  subst hm1
  go_wp2_with fail
  go_ret
  exact ⟨by rw [HW.out, lft_neg (by omega)] <;> rfl, S2.out.old⟩
 ·
  skip
  obtain ⟨u4, hu⟩ : ∃ u, lft u1 (wsum wt_Store (coS_Store z.f_Backup)) = u := ⟨_, rfl⟩
  have hc4 := lft_cases hu
  have hr4 := lft_range (q := u1) (wsum wt_Store (coS_Store z.f_Backup)) (by omega)
  rw [hu] at hr4
  have HCU := HS4.out u1 (by omega) (by omega)
  simp only [hu] at HCU
  replace HCU := Lib.hid HCU
  clear hu
  go_wp2_with fail
  go_at_call 226
  refine (HCU.out _ S2.out.old).mono ?_
  rintro e w2 ⟨rfl, hb⟩
  clear f0 f1 f2 f3 f4
  have S3 := Lib.hid (S2.out.keep hb)
  clear S2
  clear hb
  obtain ⟨f0, f1, f2, f3, f4⟩ := Bag.cs5 S3.out 0 rfl
  clear HCU
  by_cases hn4 : u4 < 0
  ·
   have hm1 : u4 = -1 := by omega
   subst hm1
   go_wp2_with fail
   go_ret
   exact ⟨by rw [HW.out, lft_neg (by omega)] <;> rfl, S3.out.old⟩
  ·
   skip
   go_wp2_with fail
   go_ret
   exact ⟨by rw [HW.out, lft_pos (by omega)] <;> first | rfl | (refine congrArg (fun i => Ending.returned (.int .i64 i)) ?_; omega), S3.out.old⟩
set_option maxHeartbeats 4000000 in
theorem sz_TxS (a : Option Addr) (c : Nat) (xs : List Y_Tx) (q : Int) (hw : ∀ x ∈ xs, Wide_Tx x) (hm : xs.length ≤ maxLen) (hq0 : -1 ≤ q) (hq1 : q ≤ 1048576) (w : World) (hr : Reads w w.heap.size a (xs.flatMap cl_Tx)) (hx : RowsRd w w.heap.size (rws_Tx xs)) :
  Calls Try.prog 134 #[.slice a xs.length c, .int .i64 q] w fun e w' => e = .returned (.int .i64 (lft q (wsum wt_Tx (coS_Tx xs)))) ∧ Below w.heap.size w w' := by
 have HR := Lib.hid (fun w' (h : Below w.heap.size w w') => hr.below h)
 have HX := Lib.hid (fun w' (h : Below w.heap.size w w') => (hx.below h).more h.size)
 have HWD := Lib.hid hw
 have HW := Lib.hid (show wsum wt_Tx (coS_Tx xs) = xs.length + fsum (fun x => wt_Tx (co_Tx x)) xs from by rw [coS_Tx_eq, wsum_map])
 obtain ⟨N, hN⟩ : ∃ n, n = xs.length := ⟨_, rfl⟩
 rw [← hN] at hm HW ⊢
 have HN := Lib.hid hN
 have hm' : (N : Int) ≤ 9223372036854775807 := by unfold maxLen at hm; omega
 clear hN hr hx hw hm
 have S1 := Lib.hid (show Sl.Sep w w [] from Sl.Sep.start w)
 by_cases hneg : q - (N : Int) < 0
 ·
  skip
  go_enter Try.func134, Try.ntmps134
  go_wp2_with fail
  go_ret
  exact ⟨by rw [HW.out, lft_neg (by omega)] <;> rfl, Below.refl _ _⟩
 ·
  skip
  go_enter Try.func134, Try.ntmps134
  go_wp2_with fail
  go_loopw [1, 5] (fun lv i wr => ∃ (k : Nat) (m : Int), k ≤ N ∧ i = .int .i64 k ∧ lv = .int .i64 m ∧ 0 ≤ m ∧ m ≤ 1048576 ∧ Hid (m = q - N - (fsum (fun x => wt_Tx (co_Tx x)) (xs.take k) : Int) ∧ Sl.Sep w wr [])) (fun _ i _ => N - (intOf i).toNat)
  case atStart => exact ⟨0, q - N, Nat.zero_le _, rfl, rfl, by omega, by omega, And.intro (by rw [List.take_zero, fsum_nil]; omega) S1.out⟩
  case round =>
   obtain ⟨k, m, hk, rfl, rfl, hm0, hm1, hrel⟩ := hrel
   have HA := Lib.hid hrel.out.1
   have S2 := Lib.hid hrel.out.2
   clear hrel S1
   by_cases hlt : (k : Int) < (N : Int)
   ·
    skip
    have hkl : k < xs.length := by have := HN.out; omega
    obtain ⟨x, hx⟩ : ∃ x, xs[k]? = some x := ⟨_, List.getElem?_eq_getElem hkl⟩
    obtain ⟨ad, e'⟩ := el_some cl_Tx_len (by decide) (HR.out _ S2.out.old) (List.getElem?_eq_some_iff.1 hx).1
    subst e'
    have HK := Lib.hid (fun w' (h : Below w.heap.size w w') => el5 cl_Tx_len (HR.out _ h) hx rfl)
    have HAT := Lib.hid (fsum_at (f := (fun x => wt_Tx (co_Tx x))) hx)
    have HTK := Lib.hid (fsum_take (f := (fun x => wt_Tx (co_Tx x))) hx)
    try dsimp only at HAT HTK
    obtain ⟨fx, hfx⟩ : ∃ u, wt_Tx (co_Tx x) = u := ⟨_, rfl⟩
    rw [hfx] at HAT HTK
    obtain ⟨u, hu⟩ : ∃ u, lft m fx = u := ⟨_, rfl⟩
    have hcu := lft_cases hu
    have hru := lft_range (q := m) fx (by omega)
    rw [hu] at hru
    have HSI := fun w' (h : Below w.heap.size w w') => sz_Tx x m (HWD.out x (List.mem_of_getElem? hx)) (by omega) hm1 w' (rd_el (rw_ := rw_Tx) (by rw [← rws_Tx_eq]; exact HX.out w' h) hx)
    rw [hfx, hu] at HSI
    dsimp only [vv_Tx] at HSI
    replace HSI := Lib.hid HSI
    clear hfx hu hx
    obtain ⟨f0, f1, f2, f3, f4⟩ := HK.out _ S2.out.old
    go_wp2_with fail
    go_at_call 192
    refine (HSI.out _ S2.out.old).mono ?_
    rintro e w1 ⟨rfl, hb⟩
    clear f0 f1 f2 f3 f4
    have S3 := Lib.hid (S2.out.keep hb)
    clear S2
    clear hb
    by_cases h0 : u < 0
    ·
     have hm1' : u = -1 := by omega
     subst hm1'
     go_wp2_with fail
     go_ret
     exact ⟨by rw [HW.out, lft_neg (by have := HA.out; have := HAT.out; omega)] <;> rfl, S3.out.old⟩
    ·
     skip
     go_wp2_with fail
     go_roundw
     case rel => exact ⟨k + 1, u, by omega, by go_num, rfl, by omega, by omega, And.intro (by rw [HTK.out]; have := HA.out; omega) S3.out⟩
     case measure => simp [intOf]; omega
   ·
    skip
    obtain rfl : k = N := by omega
    have HT := HA.out
    rw [List.take_of_length_le (Nat.le_of_eq HN.out.symm)] at HT
    go_wp2_with fail
    go_ret
    exact ⟨by rw [HW.out, lft_pos (by omega)] <;> first | rfl | (refine congrArg (fun i => Ending.returned (.int .i64 i)) ?_; omega), S2.out.old⟩
set_option maxHeartbeats 4000000 in
theorem eq_Tx (y z : Y_Tx) (hc : co_Tx y = co_Tx z) (hf : wt_Tx (co_Tx y) ≤ 1125899906842624) (w : World) (hr : RowsRd w w.heap.size (rw_Tx y)) (hr2 : RowsRd w w.heap.size (rw_Tx z)) : Calls Try.prog 197 #[vv_Tx y, vv_Tx z] w fun e w' => e = .returned (.bool true) ∧ Below w.heap.size w w' := by
 have hfp := hf
 rw [wt_Tx_parts] at hfp
 have ee0 : z.f_Id = y.f_Id := (show y.f_Id = z.f_Id from congrArg X_Tx.f_Id (hc)).symm
 have ee1 : z.f_Ops.length = y.f_Ops.length := (by have h := congrArg List.length (show coS_Op y.f_Ops = coS_Op z.f_Ops from congrArg X_Tx.f_Ops (hc)); rw [coS_Op_eq, coS_Op_eq, List.length_map, List.length_map] at h; exact h.symm)
 have ee2 : z.f_At = y.f_At := (show y.f_At = z.f_At from congrArg X_Tx.f_At (hc)).symm
 have ee3 : z.f_State = y.f_State := (show y.f_State = z.f_State from congrArg X_Tx.f_State (hc)).symm
 have ee4 : z.f_Backup.length = y.f_Backup.length := (by have h := congrArg List.length (show coS_Store y.f_Backup = coS_Store z.f_Backup from congrArg X_Tx.f_Backup (hc)); rw [coS_Store_eq, coS_Store_eq, List.length_map, List.length_map] at h; exact h.symm)
 have HE1 := Lib.hid (fun w' (h : Below w.heap.size w w') => eq_OpS y.f_Ops_a z.f_Ops_a y.f_Ops_c z.f_Ops_c y.f_Ops z.f_Ops (congrArg X_Tx.f_Ops hc) (by omega) w' (((rd_head (rd_left hr)).reads.below h).more h.size) (((rd_tail (rd_left hr)).below h).more h.size) (((rd_head (rd_left hr2)).reads.below h).more h.size) (((rd_tail (rd_left hr2)).below h).more h.size))
 simp only [ee0, ee1, ee2, ee3, ee4] at HE1
 have HE4 := Lib.hid (fun w' (h : Below w.heap.size w w') => eq_StoreS y.f_Backup_a z.f_Backup_a y.f_Backup_c z.f_Backup_c y.f_Backup z.f_Backup (congrArg X_Tx.f_Backup hc) (by omega) w' (((rd_head (rd_right hr)).reads.below h).more h.size) (((rd_tail (rd_right hr)).below h).more h.size) (((rd_head (rd_right hr2)).reads.below h).more h.size) (((rd_tail (rd_right hr2)).below h).more h.size))
 simp only [ee0, ee1, ee2, ee3, ee4] at HE4
 have hv : vv_Tx z = .agg #[.int .i64 y.f_Id, .slice z.f_Ops_a y.f_Ops.length z.f_Ops_c, .int .i64 y.f_At, .int .i64 y.f_State, .slice z.f_Backup_a y.f_Backup.length z.f_Backup_c] := by unfold vv_Tx; simp only [ee0, ee1, ee2, ee3, ee4]
 rw [hv]
 clear hv hfp hf hc hr hr2 ee0 ee1 ee2 ee3 ee4
 unfold vv_Tx
 have S1 := Lib.hid (show Sl.Sep w _ [_, _] from L4.push_box (L4.push_box (Sl.Sep.start w) 161 #[.int .i64 y.f_Id, .slice y.f_Ops_a y.f_Ops.length y.f_Ops_c, .int .i64 y.f_At, .int .i64 y.f_State, .slice y.f_Backup_a y.f_Backup.length y.f_Backup_c] (w.heap.size) (by simp)) 161 #[.int .i64 y.f_Id, .slice z.f_Ops_a y.f_Ops.length z.f_Ops_c, .int .i64 y.f_At, .int .i64 y.f_State, .slice z.f_Backup_a y.f_Backup.length z.f_Backup_c] (w.heap.size + 1) (by simp))
 obtain ⟨wa, hwa⟩ : ∃ w_, w_ = ((w.alloc (.cells #[.int .i64 y.f_Id, .slice y.f_Ops_a y.f_Ops.length y.f_Ops_c, .int .i64 y.f_At, .int .i64 y.f_State, .slice y.f_Backup_a y.f_Backup.length y.f_Backup_c] 161)).alloc (.cells #[.int .i64 y.f_Id, .slice z.f_Ops_a y.f_Ops.length z.f_Ops_c, .int .i64 y.f_At, .int .i64 y.f_State, .slice z.f_Backup_a y.f_Backup.length z.f_Backup_c] 161)) := ⟨_, rfl⟩
 rw [← hwa] at S1
 go_enter Try.func197, Try.ntmps197
 go_upto_region 1 with fail
 rw [← hwa]
 clear hwa
 obtain ⟨f0, f1, f2, f3, f4⟩ := Bag.cs5 S1.out 0 rfl
 obtain ⟨f5, f6, f7, f8, f9⟩ := Bag.cs5 S1.out 1 rfl
 go_wp2_with fail
 go_at_call 55
 refine (HE1.out _ S1.out.old).mono ?_
 rintro e w1 ⟨rfl, hb⟩
 clear f0 f1 f2 f3 f4 f5 f6 f7 f8 f9
 have S2 := Lib.hid (S1.out.keep hb)
 clear S1
 clear hb
 obtain ⟨f0, f1, f2, f3, f4⟩ := Bag.cs5 S2.out 0 rfl
 obtain ⟨f5, f6, f7, f8, f9⟩ := Bag.cs5 S2.out 1 rfl
 go_wp2_with fail
 go_at_call 229
 refine (HE4.out _ S2.out.old).mono ?_
 rintro e w2 ⟨rfl, hb⟩
 clear f0 f1 f2 f3 f4 f5 f6 f7 f8 f9
 have S3 := Lib.hid (S2.out.keep hb)
 clear S2
 clear hb
 obtain ⟨f0, f1, f2, f3, f4⟩ := Bag.cs5 S3.out 0 rfl
 obtain ⟨f5, f6, f7, f8, f9⟩ := Bag.cs5 S3.out 1 rfl
 go_wp2_with fail
 go_ret
 exact ⟨rfl, S3.out.old⟩
set_option maxHeartbeats 4000000 in
theorem eq_TxS (a a2 : Option Addr) (c c2 : Nat) (xs xs2 : List Y_Tx) (hc : coS_Tx xs = coS_Tx xs2) (hf : wsum wt_Tx (coS_Tx xs) ≤ 1125899906842624) (w : World) (hr : Reads w w.heap.size a (xs.flatMap cl_Tx)) (hx : RowsRd w w.heap.size (rws_Tx xs)) (hr2 : Reads w w.heap.size a2 (xs2.flatMap cl_Tx)) (hx2 : RowsRd w w.heap.size (rws_Tx xs2)) :
  Calls Try.prog 141 #[.slice a xs.length c, .slice a2 xs2.length c2] w fun e w' => e = .returned (.bool true) ∧ Below w.heap.size w w' := by
 have hlen : xs2.length = xs.length := by have h := congrArg List.length hc; rw [coS_Tx_eq, coS_Tx_eq, List.length_map, List.length_map] at h; exact h.symm
 have hl : xs.length ≤ 1125899906842624 := by have := wsum_len wt_Tx (coS_Tx xs); rw [coS_Tx_eq, List.length_map] at this; rw [coS_Tx_eq] at hf; omega
 have HR := Lib.hid (fun w' (h : Below w.heap.size w w') => hr.below h)
 have HR2 := Lib.hid (fun w' (h : Below w.heap.size w w') => hr2.below h)
 have HX := Lib.hid (fun w' (h : Below w.heap.size w w') => (hx.below h).more h.size)
 have HX2 := Lib.hid (fun w' (h : Below w.heap.size w w') => (hx2.below h).more h.size)
 rw [coS_Tx_eq] at hf
 have HF := Lib.hid hf
 have HS := Lib.hid (show xs.map co_Tx = xs2.map co_Tx from by rw [← coS_Tx_eq, ← coS_Tx_eq]; exact hc)
 obtain ⟨N, hN⟩ : ∃ n, n = xs.length := ⟨_, rfl⟩
 rw [hlen, ← hN]
 rw [← hN] at hl
 have hl' : (N : Int) ≤ 1125899906842624 := by omega
 have HN := Lib.hid hN
 clear hN hr hr2 hx hx2 hf hc hlen
 have S1 := Lib.hid (show Sl.Sep w w [] from Sl.Sep.start w)
 go_enter Try.func141, Try.ntmps141
 go_wp2_with fail
 go_loopw [5] (fun i wr => ∃ k : Nat, k ≤ N ∧ i = .int .i64 k ∧ Hid (Sl.Sep w wr [])) (fun i _ => N - (intOf i).toNat)
 case atStart => exact ⟨0, Nat.zero_le _, rfl, S1.out⟩
 case round =>
  obtain ⟨k, hk, rfl, hrel⟩ := hrel
  have S2 := Lib.hid hrel.out
  clear hrel S1
  by_cases hlt : (k : Int) < (N : Int)
  ·
   skip
   have hkl : k < xs.length := by have := HN.out; omega
   obtain ⟨x, hx⟩ : ∃ x, xs[k]? = some x := ⟨_, List.getElem?_eq_getElem hkl⟩
   obtain ⟨ad, e'⟩ := el_some cl_Tx_len (by decide) (HR.out _ S2.out.old) (List.getElem?_eq_some_iff.1 hx).1
   subst e'
   have HK := Lib.hid (fun w' (h : Below w.heap.size w w') => el5 cl_Tx_len (HR.out _ h) hx rfl)
   obtain ⟨x2, hx2, hcx⟩ := map_same HS.out hx
   obtain ⟨ad2, e'⟩ := el_some cl_Tx_len (by decide) (HR2.out _ S2.out.old) (List.getElem?_eq_some_iff.1 hx2).1
   subst e'
   have HK2 := Lib.hid (fun w' (h : Below w.heap.size w w') => el5 cl_Tx_len (HR2.out _ h) hx2 rfl)
   have ee0 : x2.f_Id = x.f_Id := (show x.f_Id = x2.f_Id from congrArg X_Tx.f_Id (hcx.symm)).symm
   have ee1 : x2.f_Ops.length = x.f_Ops.length := (by have h := congrArg List.length (show coS_Op x.f_Ops = coS_Op x2.f_Ops from congrArg X_Tx.f_Ops (hcx.symm)); rw [coS_Op_eq, coS_Op_eq, List.length_map, List.length_map] at h; exact h.symm)
   have ee2 : x2.f_At = x.f_At := (show x.f_At = x2.f_At from congrArg X_Tx.f_At (hcx.symm)).symm
   have ee3 : x2.f_State = x.f_State := (show x.f_State = x2.f_State from congrArg X_Tx.f_State (hcx.symm)).symm
   have ee4 : x2.f_Backup.length = x.f_Backup.length := (by have h := congrArg List.length (show coS_Store x.f_Backup = coS_Store x2.f_Backup from congrArg X_Tx.f_Backup (hcx.symm)); rw [coS_Store_eq, coS_Store_eq, List.length_map, List.length_map] at h; exact h.symm)
   have HEQ := fun w' (h : Below w.heap.size w w') => eq_Tx x x2 hcx.symm (by have h1 := wsum_mem (f := wt_Tx) (List.mem_map.2 ⟨x, List.mem_of_getElem? hx, rfl⟩ : co_Tx x ∈ xs.map co_Tx); have h2 := HF.out; omega) w' (rd_el (rw_ := rw_Tx) (by rw [← rws_Tx_eq]; exact HX.out w' h) hx) (rd_el (rw_ := rw_Tx) (by rw [← rws_Tx_eq]; exact HX2.out w' h) hx2)
   dsimp only [vv_Tx] at HEQ
   try dsimp only [cl_Tx] at HK2
   simp only [ee0, ee1, ee2, ee3, ee4] at HEQ HK2
   replace HEQ := Lib.hid HEQ
   clear hcx ee0 ee1 ee2 ee3 ee4
   try dsimp only [vv_Tx] at HEQ
   clear hx hx2
   go_upto_region 6 with fail
   refine wp_region_held_drew (S := (fun w' => (w'.cell? (ad.add (k * 5)) = some (.int .i64 x.f_Id) ∧ w'.cell? (⟨(ad.add (k * 5)).block, (ad.add (k * 5)).off + 1, none⟩) = some (.slice x.f_Ops_a x.f_Ops.length x.f_Ops_c) ∧ w'.cell? (⟨(ad.add (k * 5)).block, (ad.add (k * 5)).off + 2, none⟩) = some (.int .i64 x.f_At) ∧ w'.cell? (⟨(ad.add (k * 5)).block, (ad.add (k * 5)).off + 3, none⟩) = some (.int .i64 x.f_State) ∧ w'.cell? (⟨(ad.add (k * 5)).block, (ad.add (k * 5)).off + 4, none⟩) = some (.slice x.f_Backup_a x.f_Backup.length x.f_Backup_c)) ∧ (w'.cell? (ad2.add (k * 5)) = some (.int .i64 x.f_Id) ∧ w'.cell? (⟨(ad2.add (k * 5)).block, (ad2.add (k * 5)).off + 1, none⟩) = some (.slice x2.f_Ops_a x.f_Ops.length x2.f_Ops_c) ∧ w'.cell? (⟨(ad2.add (k * 5)).block, (ad2.add (k * 5)).off + 2, none⟩) = some (.int .i64 x.f_At) ∧ w'.cell? (⟨(ad2.add (k * 5)).block, (ad2.add (k * 5)).off + 3, none⟩) = some (.int .i64 x.f_State) ∧ w'.cell? (⟨(ad2.add (k * 5)).block, (ad2.add (k * 5)).off + 4, none⟩) = some (.slice x2.f_Backup_a x.f_Backup.length x2.f_Backup_c)))) (by kernel_rfl) ⟨HK.out _ (Bag.drew1 S2.out).old, HK2.out _ (Bag.drew1 S2.out).old⟩ (fun hS => ?_)
   have S3 := Lib.hid (Bag.drew1 S2.out)
   clear S2
   generalize World.drew _ = w1 at hS S3 ⊢
   refine tk 0 rfl ?_
   try simp only [zp0, zp1, zp2, zp3, zp4]
   refine tk 1 rfl ?_
   try simp only [zp0, zp1, zp2, zp3, zp4]
   refine tk 2 rfl ?_
   try simp only [zp0, zp1, zp2, zp3, zp4]
   refine tk 3 rfl ?_
   try simp only [zp0, zp1, zp2, zp3, zp4]
   refine tk 4 rfl ?_
   try simp only [zp0, zp1, zp2, zp3, zp4]
   refine tk 5 rfl ?_
   try simp only [zp0, zp1, zp2, zp3, zp4]
   refine tk 6 rfl ?_
   try simp only [zp0, zp1, zp2, zp3, zp4]
   refine tk 7 rfl ?_
   try simp only [zp0, zp1, zp2, zp3, zp4]
   refine Reg.one_op (i := 8) rfl (by kernel_rfl) (fun K hK => ?_)
   go_simp
   go_at_call 197
   refine (HEQ.out _ S3.out.old).mono ?_
   rintro e w2 ⟨rfl, hb⟩
   have S4 := Lib.hid (S3.out.keep hb)
   clear S3
   clear hb
   go_wp2_with fail
   refine hK.out _ _ ⟨HK.out _ S4.out.old, HK2.out _ S4.out.old⟩ (fun hS => ?_)
   clear hK K
   try simp only [zp0, zp1, zp2, zp3, zp4]
   refine tk 9 rfl ?_
   try simp only [zp0, zp1, zp2, zp3, zp4]
   refine wpAnyH_done (by kernel_rfl) ?_ _
   obtain ⟨f0, f1, f2, f3, f4⟩ := HK.out _ S4.out.old
   obtain ⟨f5, f6, f7, f8, f9⟩ := HK2.out _ S4.out.old
   go_wp2_with fail
   go_roundw
   case rel => exact ⟨k + 1, by omega, by go_num, S4.out⟩
   case measure => simp [intOf]; omega
  ·
   skip
   go_wp2_with fail
   go_ret
   exact ⟨rfl, S2.out.old⟩
def em_Tx (k : Int) (z : Y_Tx) : Y_Tx := ⟨k, z.f_Ops_a, z.f_Ops_c, (mks em_Op cnt_Op (k + 1) z.f_Ops), ((k + 1) + (fsum cnt_Op z.f_Ops : Int)), (((k + 1) + (fsum cnt_Op z.f_Ops : Int)) + 1), z.f_Backup_a, z.f_Backup_c, (mks em_Store cnt_Store ((((k + 1) + (fsum cnt_Op z.f_Ops : Int)) + 1) + 1) z.f_Backup)⟩
def cnt_Tx (z : Y_Tx) : Nat := 1 + (fsum cnt_Op z.f_Ops + (1 + (1 + (fsum cnt_Store z.f_Backup))))
theorem cntS_Tx (z : Y_Tx) : cnt_Tx z ≤ 64 * (wt_Tx (co_Tx z) + 1) := by
 have h1 := cnt_sum cntS_Op z.f_Ops
 have h4 := cnt_sum cntS_Store z.f_Backup
 have hw : wt_Tx (co_Tx z) = wsum wt_Op (coS_Op z.f_Ops) + (wsum wt_Store (coS_Store z.f_Backup)) := by rfl
 rw [← coS_Op_eq] at h1
 rw [← coS_Store_eq] at h4
 unfold cnt_Tx
 omega
theorem em_Tx_fp (k : Int) (z : Y_Tx) : (rw_Tx (em_Tx k z)).flatMap RowS.fp = (rw_Tx z).flatMap RowS.fp := by
 show (rs_Op z.f_Ops_a z.f_Ops_c (mks em_Op cnt_Op (k + 1) z.f_Ops) ++ (rs_Store z.f_Backup_a z.f_Backup_c (mks em_Store cnt_Store ((((k + 1) + (fsum cnt_Op z.f_Ops : Int)) + 1) + 1) z.f_Backup))).flatMap RowS.fp = (rs_Op z.f_Ops_a z.f_Ops_c z.f_Ops ++ (rs_Store z.f_Backup_a z.f_Backup_c z.f_Backup)).flatMap RowS.fp
 simp only [List.flatMap_append, rs_Op_fp, rs_Store_fp]
theorem rs_Tx_fp (a : Option Addr) (c : Nat) (xs : List Y_Tx) (k : Int) : (rs_Tx a c (mks em_Tx cnt_Tx k xs)).flatMap RowS.fp = (rs_Tx a c xs).flatMap RowS.fp := by
 unfold rs_Tx
 rw [List.flatMap_cons, List.flatMap_cons, rws_Tx_eq, rws_Tx_eq, mks_fp em_Tx_fp]
 congr 1
 unfold row_Tx RowS.fp
 cases a <;> rfl
set_option maxHeartbeats 8000000 in
theorem mark_TxS_sep (a : Option Addr) (c : Nat) (xs : List Y_Tx) (k : Int) (W w : World) (S : Sl.Sep W w [bag (rs_Tx a c xs), Run.restL W w (bag (rs_Tx a c xs)).fp]) (hf : wsum wt_Tx (coS_Tx xs) ≤ 1125899906842624) (hk0 : 0 < k) (hk1 : k + (fsum cnt_Tx xs : Int) ≤ 2305843009213693952) :
  Calls Try.prog 142 #[.slice a xs.length c, .int .i64 k] w fun e w' => e = .returned (.int .i64 (k + (fsum cnt_Tx xs : Int))) ∧ Sl.Sep W w' [bag (rs_Tx a c (mks em_Tx cnt_Tx k xs)), Run.restL W w (bag (rs_Tx a c xs)).fp] := by
 have HF := Lib.hid hf
 have hl : xs.length ≤ 1125899906842624 := by have := wsum_len wt_Tx (coS_Tx xs); rw [coS_Tx_eq, List.length_map] at this; rw [coS_Tx_eq] at hf; omega
 clear hf
 obtain ⟨fps, hfps⟩ : ∃ f, f = (bag (rs_Tx a c xs)).fp := ⟨_, rfl⟩
 rw [← hfps] at S ⊢
 clear hfps
 rcases (S.is 0 _ rfl).own (row_Tx a c xs) (List.mem_cons_self ..) |>.form with ⟨ha, hn0, -, hc0⟩ | ⟨g, hg, -, -, hnc, -⟩
 ·
  have ha' : a = none := ha
  have hc' : c = 0 := hc0
  have hx : xs = [] := List.eq_nil_of_length_eq_zero hn0
  subst hx
  have H := Lib.hid S
  clear S HF hk1
  go_enter Try.func142, Try.ntmps142
  go_wp2_with fail
  refine wp_loop_rounds 1 ?_
  rw [rounds_succ]
  go_wp2_with fail
  go_ret
  exact ⟨by rw [fsum_nil]; first | rfl | (refine congrArg (fun i => Ending.returned (.int .i64 i)) ?_; omega), H.out⟩
 have hg' : a = some ⟨g, 0, none⟩ := hg
 subst hg'
 obtain ⟨N, hN⟩ : ∃ n, n = xs.length := ⟨_, rfl⟩
 rw [← hN] at hl ⊢
 have hl' : (N : Int) ≤ 1125899906842624 := by omega
 have HN := Lib.hid hN
 have HK1 := Lib.hid hk1
 have hk2 : k ≤ 2305843009213693952 := by omega
 have S1 := Lib.hid S
 clear hg hN S hnc hk1
 have S2 := Lib.hid (show Sl.Sep W _ [Bag.bag ([row_Tx (some ⟨g, 0, none⟩) c xs] ++ rws_Tx xs), Run.restL W w fps] from S1.out)
 clear S1
 have S3 := Lib.hid (show Sl.Sep W _ [Bag.bag ([row_Tx (some ⟨g, 0, none⟩) c xs]), _, Bag.bag (rws_Tx xs)] from Bag.bag_split S2.out 0 rfl)
 clear S2
 have S4 := Lib.hid (show Sl.Sep W _ [Sv.ownV 161 5 (some ⟨g, 0, none⟩) c N ((mks em_Tx cnt_Tx k [] ++ xs.drop 0).flatMap cl_Tx), _, _] from (by have h := Bag.one_of_bag S3.out 0 (r := row_Tx (some ⟨g, 0, none⟩) c xs) rfl; unfold RowS.res row_Tx at h; dsimp only at h; rw [← HN.out] at h; exact h))
 clear S3
 have S5 := Lib.hid (show Sl.Sep W _ [Sv.ownV 161 5 (some ⟨g, 0, none⟩) c N ((mks em_Tx cnt_Tx k [] ++ xs.drop 0).flatMap cl_Tx), Bag.bag (rws_Tx (mks em_Tx cnt_Tx k []) ++ rws_Tx (xs.drop 0)), Run.restL W w fps] from Bag.take (by have h := S4.out; rw [show rws_Tx xs = rws_Tx (mks em_Tx cnt_Tx k []) ++ rws_Tx (xs.drop 0) from by rw [← rws_Tx_app]; rfl] at h; exact h) [0, 2, 1] (by rfl) (by decide))
 clear S4
 go_enter Try.func142, Try.ntmps142
 go_wp2_with fail
 go_loopw [1, 5] (fun v i wr => ∃ (j : Nat) (m : Int), j ≤ N ∧ i = .int .i64 j ∧ v = .int .i64 m ∧ k ≤ m ∧ m ≤ 2305843009213693952 ∧ Hid (m = k + (fsum cnt_Tx (xs.take j) : Int) ∧ Sl.Sep W wr [Sv.ownV 161 5 (some ⟨g, 0, none⟩) c N (((mks em_Tx cnt_Tx k (xs.take j)) ++ xs.drop j).flatMap cl_Tx), Bag.bag (rws_Tx (mks em_Tx cnt_Tx k (xs.take j)) ++ rws_Tx (xs.drop j)), Run.restL W w fps])) (fun _ i _ => N - (intOf i).toNat)
 case atStart => exact ⟨0, k, Nat.zero_le _, rfl, rfl, by omega, by omega, And.intro (by rw [List.take_zero, fsum_nil]; omega) S5.out⟩
 case round =>
  obtain ⟨j, m, hj, rfl, rfl, hm0, hm1, hrel⟩ := hrel
  have HM := Lib.hid hrel.out.1
  have S6 := Lib.hid hrel.out.2
  clear hrel S5
  by_cases hlt : (j : Int) < (N : Int)
  ·
   skip
   have hjl : j < xs.length := by have := HN.out; omega
   obtain ⟨x, hx⟩ : ∃ x, xs[j]? = some x := ⟨_, List.getElem?_eq_getElem hjl⟩
   have HFT := Lib.hid (fsum_take (f := cnt_Tx) hx)
   have hfa := fsum_at (f := cnt_Tx) hx
   have hcx : cnt_Tx x = 1 + (fsum cnt_Op x.f_Ops + (1 + (1 + (fsum cnt_Store x.f_Backup)))) := rfl
   have HMN := Lib.hid (show (mks em_Tx cnt_Tx k (xs.take (j + 1))) = (mks em_Tx cnt_Tx k (xs.take j)) ++ [em_Tx m x] from by rw [mks_next em_Tx cnt_Tx k hx, ← HM.out])
   have HDR := Lib.hid (drop_next hx)
   have hwm : wt_Tx (co_Tx x) + 1 ≤ 1125899906842624 := by have h1 := wsum_mem (f := wt_Tx) (List.mem_map.2 ⟨x, List.mem_of_getElem? hx, rfl⟩ : co_Tx x ∈ xs.map co_Tx); have h2 := HF.out; rw [coS_Tx_eq] at h2; omega
   have HFW1 := Lib.hid (show wsum wt_Op (coS_Op x.f_Ops) ≤ 1125899906842624 from by have h2 : wt_Tx (co_Tx x) = wsum wt_Op (coS_Op x.f_Ops) + (wsum wt_Store (coS_Store x.f_Backup)) := rfl; omega)
   have HFW4 := Lib.hid (show wsum wt_Store (coS_Store x.f_Backup) ≤ 1125899906842624 from by have h2 : wt_Tx (co_Tx x) = wsum wt_Op (coS_Op x.f_Ops) + (wsum wt_Store (coS_Store x.f_Backup)) := rfl; omega)
   clear hwm hx
   obtain ⟨s1, hs1⟩ : ∃ u, u = fsum cnt_Op x.f_Ops := ⟨_, rfl⟩
   obtain ⟨s4, hs4⟩ : ∃ u, u = fsum cnt_Store x.f_Backup := ⟨_, rfl⟩
   rw [← hs1, ← hs4] at hcx
   have hmc : m + (cnt_Tx x : Int) ≤ 2305843009213693952 := by have := HM.out; have := HK1.out; omega
   have HCX := Lib.hid hcx
   have hcx' : (cnt_Tx x : Int) = 1 + (s1 : Int) + 1 + 1 + (s4 : Int) := by omega
   rw [hcx'] at hmc
   clear hcx' hcx hfa
   obtain ⟨m1', hm⟩ : ∃ u : Int, u = m + 1 := ⟨_, rfl⟩
   have bd0 : 0 < m1' ∧ m1' ≤ 2305843009213693952 := by omega
   have bl0 : m ≤ m1' := by omega
   have HM1 := Lib.hid hm
   have hme1 := hm
   clear hm
   obtain ⟨m2', hm⟩ : ∃ u : Int, u = m1' + (s1 : Int) := ⟨_, rfl⟩
   have bd1 : 0 < m2' ∧ m2' ≤ 2305843009213693952 := by omega
   have bl1 : m1' ≤ m2' := by omega
   have HM2 := Lib.hid hm
   have hme2 := hm
   clear hm
   obtain ⟨m3', hm⟩ : ∃ u : Int, u = m2' + 1 := ⟨_, rfl⟩
   have bd2 : 0 < m3' ∧ m3' ≤ 2305843009213693952 := by omega
   have bl2 : m2' ≤ m3' := by omega
   have HM3 := Lib.hid hm
   have hme3 := hm
   clear hm
   obtain ⟨m4', hm⟩ : ∃ u : Int, u = m3' + 1 := ⟨_, rfl⟩
   have bd3 : 0 < m4' ∧ m4' ≤ 2305843009213693952 := by omega
   have bl3 : m3' ≤ m4' := by omega
   have HM4 := Lib.hid hm
   have hme4 := hm
   clear hm
   obtain ⟨m5', hm⟩ : ∃ u : Int, u = m4' + (s4 : Int) := ⟨_, rfl⟩
   have bd4 : 0 < m5' ∧ m5' ≤ 2305843009213693952 := by omega
   have bl4 : m4' ≤ m5' := by omega
   have HM5 := Lib.hid hm
   have hme5 := hm
   clear hm
   have HS1 := Lib.hid hs1
   clear hs1
   have HS4 := Lib.hid hs4
   clear hs4
   clear hmc hme1 hme2 hme3 hme4 hme5
   have HDL := Lib.hid (show ((mks em_Tx cnt_Tx k (xs.take j)).flatMap cl_Tx).length = j * 5 by rw [flat_len cl_Tx_len, mks_len, List.length_take, Nat.min_eq_left (by omega)])
   obtain ⟨R0, hR0⟩ : ∃ R0, R0 = (xs.drop (j + 1)).flatMap cl_Tx := ⟨_, rfl⟩
   obtain ⟨D0, hD0⟩ : ∃ D0, D0 = (mks em_Tx cnt_Tx k (xs.take j)).flatMap cl_Tx := ⟨_, rfl⟩
   have HR0 := Lib.hid hR0
   have HD0 := Lib.hid hD0
   rw [← hD0] at HDL
   clear hR0 hD0
   have S7 := Lib.hid (show Sl.Sep W _ [Sv.ownV 161 5 (some ⟨g, 0, none⟩) c N (D0 ++ (.int .i64 x.f_Id :: .slice x.f_Ops_a x.f_Ops.length x.f_Ops_c :: .int .i64 x.f_At :: .int .i64 x.f_State :: .slice x.f_Backup_a x.f_Backup.length x.f_Backup_c :: R0)), Bag.bag (rws_Tx (mks em_Tx cnt_Tx k (xs.take j)) ++ rws_Tx (xs.drop j)), Run.restL W w fps] from (by have h := S6.out; rw [show ((mks em_Tx cnt_Tx k (xs.take j)) ++ xs.drop j).flatMap cl_Tx = D0 ++ (.int .i64 x.f_Id :: .slice x.f_Ops_a x.f_Ops.length x.f_Ops_c :: .int .i64 x.f_At :: .int .i64 x.f_State :: .slice x.f_Backup_a x.f_Backup.length x.f_Backup_c :: R0) from by rw [List.flatMap_append, HDR.out, List.flatMap_cons, ← HR0.out, ← HD0.out]; rfl] at h; exact h))
   clear S6
   have S8 := Lib.hid (show Sl.Sep W _ [Sv.ownV 161 5 (some ⟨g, 0, none⟩) c N (D0 ++ (.int .i64 x.f_Id :: .slice x.f_Ops_a x.f_Ops.length x.f_Ops_c :: .int .i64 x.f_At :: .int .i64 x.f_State :: .slice x.f_Backup_a x.f_Backup.length x.f_Backup_c :: R0)), Bag.bag ((rws_Tx (mks em_Tx cnt_Tx k (xs.take j)) ++ rws_Tx (xs.drop (j + 1))) ++ rw_Tx x), Run.restL W w fps] from Bag.bag_perm S7.out 1 rfl (by rw [HDR.out, rws_Tx_eq, rws_Tx_eq, rws_Tx_eq]; exact flat_out _ _ _))
   clear S7
   have S9 := Lib.hid (show Sl.Sep W _ [_, Bag.bag (rws_Tx (mks em_Tx cnt_Tx k (xs.take j)) ++ rws_Tx (xs.drop (j + 1))), _, Bag.bag (rs_Op x.f_Ops_a x.f_Ops_c x.f_Ops ++ (rs_Store x.f_Backup_a x.f_Backup_c x.f_Backup))] from Bag.bag_split S8.out 1 rfl)
   clear S8
   have S10 := Lib.hid (show Sl.Sep W _ [_, _, _, Bag.bag (rs_Op x.f_Ops_a x.f_Ops_c x.f_Ops), Bag.bag (rs_Store x.f_Backup_a x.f_Backup_c x.f_Backup)] from Bag.bag_split S9.out 3 rfl)
   clear S9
   have q0 : World.cell? wr ⟨g, j * 5, none⟩ = some (.int .i64 x.f_Id) := by rw [(Sv.own_at S10.out 0 rfl).cell (j * 5) (by rw [List.length_append, HDL.out]; simp <;> omega)]; simp [List.getElem_append, HDL.out]
   have z0 := (Sv.own_at S10.out 0 rfl).free (j * 5)
   go_upto_region 6 with fail
   try simp only [← HM1.out]
   clear q0 z0
   have HOV := Lib.hid (show Run.over (D0 ++ (.int .i64 x.f_Id :: .slice x.f_Ops_a x.f_Ops.length x.f_Ops_c :: .int .i64 x.f_At :: .int .i64 x.f_State :: .slice x.f_Backup_a x.f_Backup.length x.f_Backup_c :: R0)) (j * 5) [.int .i64 m] = D0 ++ (.int .i64 m :: .slice x.f_Ops_a x.f_Ops.length x.f_Ops_c :: .int .i64 x.f_At :: .int .i64 x.f_State :: .slice x.f_Backup_a x.f_Backup.length x.f_Backup_c :: R0) from by rw [show D0 ++ (.int .i64 x.f_Id :: .slice x.f_Ops_a x.f_Ops.length x.f_Ops_c :: .int .i64 x.f_At :: .int .i64 x.f_State :: .slice x.f_Backup_a x.f_Backup.length x.f_Backup_c :: R0) = D0 ++ ([.int .i64 x.f_Id] ++ (.slice x.f_Ops_a x.f_Ops.length x.f_Ops_c :: .int .i64 x.f_At :: .int .i64 x.f_State :: .slice x.f_Backup_a x.f_Backup.length x.f_Backup_c :: R0)) from by simp, Run.over_mid D0 (.slice x.f_Ops_a x.f_Ops.length x.f_Ops_c :: .int .i64 x.f_At :: .int .i64 x.f_State :: .slice x.f_Backup_a x.f_Backup.length x.f_Backup_c :: R0) [.int .i64 m] [.int .i64 x.f_Id] (j * 5) (by simp [HDL.out]) rfl]; simp)
   have S11 := Lib.hid (show Sl.Sep W (wr.setCell ⟨g, j * 5, none⟩ (.int .i64 m)) [Sv.ownV 161 5 (some ⟨g, 0, none⟩) c N (D0 ++ (.int .i64 m :: .slice x.f_Ops_a x.f_Ops.length x.f_Ops_c :: .int .i64 x.f_At :: .int .i64 x.f_State :: .slice x.f_Backup_a x.f_Backup.length x.f_Backup_c :: R0)), _, _, _, _] from (by have h := Run.put_run S10.out 0 rfl (j * 5) [.int .i64 m] (by rw [List.length_append, HDL.out]; simp <;> omega); rw [HOV.out] at h; exact h))
   clear S10
   clear HOV
   generalize (wr.setCell ⟨g, j * 5, none⟩ (.int .i64 m)) = w1 at S11 ⊢
   have q1 : World.cell? w1 ⟨g, j * 5 + 1, none⟩ = some (.slice x.f_Ops_a x.f_Ops.length x.f_Ops_c) := by rw [(Sv.own_at S11.out 0 rfl).cell (j * 5 + 1) (by rw [List.length_append, HDL.out]; simp <;> omega)]; simp [List.getElem_append, HDL.out]
   go_wp2_with fail
   go_at_call 56
   have HC := mark_OpS S11.out 3 (a := x.f_Ops_a) (c := x.f_Ops_c) (xs := x.f_Ops) rfl m1' HFW1.out (by omega) (by have := HS1.out; have := bd1.2; have := HM2.out; omega)
   rw [← HS1.out, ← HM2.out] at HC
   refine HC.mono ?_
   clear HC
   rintro e w2 ⟨rfl, hS⟩
   clear q1
   have S12 := Lib.hid (show Sl.Sep W _ [_, _, _, Bag.bag (rs_Op x.f_Ops_a x.f_Ops_c (mks em_Op cnt_Op m1' x.f_Ops)), _] from hS)
   clear S11
   clear hS
   go_upto_region 7 with fail
   have q2 : World.cell? w2 ⟨g, j * 5 + 2, none⟩ = some (.int .i64 x.f_At) := by rw [(Sv.own_at S12.out 0 rfl).cell (j * 5 + 2) (by rw [List.length_append, HDL.out]; simp <;> omega)]; simp [List.getElem_append, HDL.out]
   have z2 := (Sv.own_at S12.out 0 rfl).free (j * 5 + 2)
   go_upto_region 9 with fail
   try simp only [← HM3.out]
   clear q2 z2
   have HOV := Lib.hid (show Run.over (D0 ++ (.int .i64 m :: .slice x.f_Ops_a x.f_Ops.length x.f_Ops_c :: .int .i64 x.f_At :: .int .i64 x.f_State :: .slice x.f_Backup_a x.f_Backup.length x.f_Backup_c :: R0)) (j * 5 + 2) [.int .i64 m2'] = D0 ++ (.int .i64 m :: .slice x.f_Ops_a x.f_Ops.length x.f_Ops_c :: .int .i64 m2' :: .int .i64 x.f_State :: .slice x.f_Backup_a x.f_Backup.length x.f_Backup_c :: R0) from by rw [show D0 ++ (.int .i64 m :: .slice x.f_Ops_a x.f_Ops.length x.f_Ops_c :: .int .i64 x.f_At :: .int .i64 x.f_State :: .slice x.f_Backup_a x.f_Backup.length x.f_Backup_c :: R0) = (D0 ++ ([.int .i64 m, .slice x.f_Ops_a x.f_Ops.length x.f_Ops_c] : List Value)) ++ ([.int .i64 x.f_At] ++ (.int .i64 x.f_State :: .slice x.f_Backup_a x.f_Backup.length x.f_Backup_c :: R0)) from by simp, Run.over_mid (D0 ++ ([.int .i64 m, .slice x.f_Ops_a x.f_Ops.length x.f_Ops_c] : List Value)) (.int .i64 x.f_State :: .slice x.f_Backup_a x.f_Backup.length x.f_Backup_c :: R0) [.int .i64 m2'] [.int .i64 x.f_At] (j * 5 + 2) (by simp [HDL.out]) rfl]; simp)
   have S13 := Lib.hid (show Sl.Sep W (w2.setCell ⟨g, j * 5 + 2, none⟩ (.int .i64 m2')) [Sv.ownV 161 5 (some ⟨g, 0, none⟩) c N (D0 ++ (.int .i64 m :: .slice x.f_Ops_a x.f_Ops.length x.f_Ops_c :: .int .i64 m2' :: .int .i64 x.f_State :: .slice x.f_Backup_a x.f_Backup.length x.f_Backup_c :: R0)), _, _, _, _] from (by have h := Run.put_run S12.out 0 rfl (j * 5 + 2) [.int .i64 m2'] (by rw [List.length_append, HDL.out]; simp <;> omega); rw [HOV.out] at h; exact h))
   clear S12
   clear HOV
   generalize (w2.setCell ⟨g, j * 5 + 2, none⟩ (.int .i64 m2')) = w3 at S13 ⊢
   have q3 : World.cell? w3 ⟨g, j * 5 + 3, none⟩ = some (.int .i64 x.f_State) := by rw [(Sv.own_at S13.out 0 rfl).cell (j * 5 + 3) (by rw [List.length_append, HDL.out]; simp <;> omega)]; simp [List.getElem_append, HDL.out]
   have z3 := (Sv.own_at S13.out 0 rfl).free (j * 5 + 3)
   go_upto_region 11 with fail
   try simp only [← HM4.out]
   clear q3 z3
   have HOV := Lib.hid (show Run.over (D0 ++ (.int .i64 m :: .slice x.f_Ops_a x.f_Ops.length x.f_Ops_c :: .int .i64 m2' :: .int .i64 x.f_State :: .slice x.f_Backup_a x.f_Backup.length x.f_Backup_c :: R0)) (j * 5 + 3) [.int .i64 m3'] = D0 ++ (.int .i64 m :: .slice x.f_Ops_a x.f_Ops.length x.f_Ops_c :: .int .i64 m2' :: .int .i64 m3' :: .slice x.f_Backup_a x.f_Backup.length x.f_Backup_c :: R0) from by rw [show D0 ++ (.int .i64 m :: .slice x.f_Ops_a x.f_Ops.length x.f_Ops_c :: .int .i64 m2' :: .int .i64 x.f_State :: .slice x.f_Backup_a x.f_Backup.length x.f_Backup_c :: R0) = (D0 ++ ([.int .i64 m, .slice x.f_Ops_a x.f_Ops.length x.f_Ops_c, .int .i64 m2'] : List Value)) ++ ([.int .i64 x.f_State] ++ (.slice x.f_Backup_a x.f_Backup.length x.f_Backup_c :: R0)) from by simp, Run.over_mid (D0 ++ ([.int .i64 m, .slice x.f_Ops_a x.f_Ops.length x.f_Ops_c, .int .i64 m2'] : List Value)) (.slice x.f_Backup_a x.f_Backup.length x.f_Backup_c :: R0) [.int .i64 m3'] [.int .i64 x.f_State] (j * 5 + 3) (by simp [HDL.out]) rfl]; simp)
   have S14 := Lib.hid (show Sl.Sep W (w3.setCell ⟨g, j * 5 + 3, none⟩ (.int .i64 m3')) [Sv.ownV 161 5 (some ⟨g, 0, none⟩) c N (D0 ++ (.int .i64 m :: .slice x.f_Ops_a x.f_Ops.length x.f_Ops_c :: .int .i64 m2' :: .int .i64 m3' :: .slice x.f_Backup_a x.f_Backup.length x.f_Backup_c :: R0)), _, _, _, _] from (by have h := Run.put_run S13.out 0 rfl (j * 5 + 3) [.int .i64 m3'] (by rw [List.length_append, HDL.out]; simp <;> omega); rw [HOV.out] at h; exact h))
   clear S13
   clear HOV
   generalize (w3.setCell ⟨g, j * 5 + 3, none⟩ (.int .i64 m3')) = w4 at S14 ⊢
   have q4 : World.cell? w4 ⟨g, j * 5 + 4, none⟩ = some (.slice x.f_Backup_a x.f_Backup.length x.f_Backup_c) := by rw [(Sv.own_at S14.out 0 rfl).cell (j * 5 + 4) (by rw [List.length_append, HDL.out]; simp <;> omega)]; simp [List.getElem_append, HDL.out]
   go_wp2_with fail
   go_at_call 198
   have HC := mark_StoreS S14.out 4 (a := x.f_Backup_a) (c := x.f_Backup_c) (xs := x.f_Backup) rfl m4' HFW4.out (by omega) (by have := HS4.out; have := bd4.2; have := HM5.out; omega)
   rw [← HS4.out, ← HM5.out] at HC
   refine HC.mono ?_
   clear HC
   rintro e w5 ⟨rfl, hS⟩
   clear q4
   have S15 := Lib.hid (show Sl.Sep W _ [_, _, _, _, Bag.bag (rs_Store x.f_Backup_a x.f_Backup_c (mks em_Store cnt_Store m4' x.f_Backup))] from hS)
   clear S14
   clear hS
   go_wp2_with fail
   have S16 := Lib.hid (show Sl.Sep W _ [_, _, _, Bag.bag ((rs_Op x.f_Ops_a x.f_Ops_c (mks em_Op cnt_Op m1' x.f_Ops)) ++ (rs_Store x.f_Backup_a x.f_Backup_c (mks em_Store cnt_Store m4' x.f_Backup))), Bag.bag ([])] from Bag.bag_join S15.out 3 4 (by decide) rfl rfl)
   clear S15
   have HEM := Lib.hid (show rw_Tx (em_Tx m x) = rs_Op x.f_Ops_a x.f_Ops_c (mks em_Op cnt_Op m1' x.f_Ops) ++ (rs_Store x.f_Backup_a x.f_Backup_c (mks em_Store cnt_Store m4' x.f_Backup)) from by first | rfl | (simp only [HM5.out, HM4.out, HM3.out, HM2.out, HM1.out, HS1.out, HS4.out]; rfl))
   have S17 := Lib.hid (show Sl.Sep W _ [_, _, _, Bag.bag (rw_Tx (em_Tx m x)), Bag.bag ([])] from (by rw [HEM.out]; exact S16.out))
   clear S16
   have S18 := Lib.hid (show Sl.Sep W _ [_, Bag.bag ((rws_Tx (mks em_Tx cnt_Tx k (xs.take j)) ++ rws_Tx (xs.drop (j + 1))) ++ (rw_Tx (em_Tx m x))), _, Bag.bag ([]), Bag.bag ([])] from Bag.bag_join S17.out 1 3 (by decide) rfl rfl)
   clear S17
   have S19 := Lib.hid (show Sl.Sep W _ [_, _, _] from Bag.take S18.out [0, 1, 2] (by rfl) (by decide))
   clear S18
   have S20 := Lib.hid (show Sl.Sep W _ [Sv.ownV 161 5 (some ⟨g, 0, none⟩) c N (D0 ++ (.int .i64 m :: .slice x.f_Ops_a x.f_Ops.length x.f_Ops_c :: .int .i64 m2' :: .int .i64 m3' :: .slice x.f_Backup_a x.f_Backup.length x.f_Backup_c :: R0)), Bag.bag (rws_Tx (mks em_Tx cnt_Tx k (xs.take (j + 1))) ++ rws_Tx (xs.drop (j + 1))), Run.restL W w fps] from (by rw [HMN.out, rws_Tx_eq, rws_Tx_eq]; have h := S19.out; rw [rws_Tx_eq, rws_Tx_eq] at h; exact Bag.bag_perm h 1 rfl (flat_back _ _ _)))
   clear S19
   have HROW := Lib.hid (show ((mks em_Tx cnt_Tx k (xs.take (j + 1))) ++ xs.drop (j + 1)).flatMap cl_Tx = D0 ++ (.int .i64 m :: .slice x.f_Ops_a x.f_Ops.length x.f_Ops_c :: .int .i64 m2' :: .int .i64 m3' :: .slice x.f_Backup_a x.f_Backup.length x.f_Backup_c :: R0) from by rw [HMN.out, List.flatMap_append, List.flatMap_append, ← HR0.out, ← HD0.out, List.append_assoc, List.flatMap_cons, List.flatMap_nil, List.append_nil]; simp only [HM5.out, HM4.out, HM3.out, HM2.out, HM1.out, HS1.out, HS4.out]; unfold cl_Tx em_Tx; simp only [mks_len]; rfl)
   have S21 := Lib.hid (show Sl.Sep W _ [Sv.ownV 161 5 (some ⟨g, 0, none⟩) c N (((mks em_Tx cnt_Tx k (xs.take (j + 1))) ++ xs.drop (j + 1)).flatMap cl_Tx), _, _] from (by rw [HROW.out]; exact S20.out))
   clear S20
   go_roundw
   case rel => exact ⟨j + 1, m5', by omega, by go_num, by first | rfl | go_num, by omega, by omega, And.intro (by have h1 := HFT.out; have h2 := HCX.out; have h3 := HM.out; have := HM1.out; have := HM2.out; have := HM3.out; have := HM4.out; have := HM5.out; omega) S21.out⟩
   case measure => simp [intOf]; omega
  ·
   skip
   obtain rfl : j = N := by omega
   have hT : xs.take j = xs := List.take_of_length_le (by have := HN.out; omega)
   have hD : xs.drop j = [] := List.drop_of_length_le (by have := HN.out; omega)
   have HT := Lib.hid hT
   have HD := Lib.hid hD
   clear hT hD
   have S7 := Lib.hid (show Sl.Sep W _ [Sv.ownV 161 5 (some ⟨g, 0, none⟩) c j ((mks em_Tx cnt_Tx k xs).flatMap cl_Tx), Bag.bag (rws_Tx (mks em_Tx cnt_Tx k xs)), Run.restL W w fps] from (by have h := S6.out; rw [HT.out, HD.out, List.append_nil, ← rws_Tx_app, List.append_nil] at h; exact h))
   clear S6
   have S8 := Lib.hid (show Sl.Sep W _ [Bag.bag ([row_Tx (some ⟨g, 0, none⟩) c (mks em_Tx cnt_Tx k xs)]), _, _] from Bag.bag_of_one S7.out 0 (r := row_Tx (some ⟨g, 0, none⟩) c (mks em_Tx cnt_Tx k xs)) (by unfold RowS.res row_Tx; dsimp only; rw [mks_len, ← HN.out]; rfl))
   clear S7
   have S9 := Lib.hid (show Sl.Sep W _ [Bag.bag ([row_Tx (some ⟨g, 0, none⟩) c (mks em_Tx cnt_Tx k xs)] ++ (rws_Tx (mks em_Tx cnt_Tx k xs))), Bag.bag ([]), _] from Bag.bag_join S8.out 0 1 (by decide) rfl rfl)
   clear S8
   have S10 := Lib.hid (show Sl.Sep W _ [_, _] from Bag.take S9.out [0, 2] (by rfl) (by decide))
   clear S9
   go_wp2_with fail
   go_ret
   exact ⟨by have h := HM.out; rw [HT.out] at h; rw [← h] <;> rfl, S10.out⟩
theorem mark_TxS {W w : World} {rs : List Res} (h : Sl.Sep W w rs) (i : Nat) {a : Option Addr} {c : Nat} {xs : List Y_Tx} (hi : rs[i]? = some (bag (rs_Tx a c xs))) (k : Int) (hf : wsum wt_Tx (coS_Tx xs) ≤ 1125899906842624) (hk0 : 0 < k) (hk1 : k + (fsum cnt_Tx xs : Int) ≤ 2305843009213693952) :
  Calls Try.prog 142 #[.slice a xs.length c, .int .i64 k] w fun e w' => e = .returned (.int .i64 (k + (fsum cnt_Tx xs : Int))) ∧ Sl.Sep W w' (rs.set i (bag (rs_Tx a c (mks em_Tx cnt_Tx k xs)))) :=
 (mark_TxS_sep a c xs k W w (Run.restL_start h i hi) hf hk0 hk1).mono fun _ _ ⟨he, hs⟩ => ⟨he, Run.restL_back h i hi hs (rs_Tx_fp a c xs k)⟩
set_option maxHeartbeats 8000000 in
theorem held_TxS (a : Option Addr) (c : Nat) (xs : List Y_Tx) (k : Int) (hf : wsum wt_Tx (coS_Tx xs) ≤ 1125899906842624) (hk0 : 0 < k) (hk1 : k + (fsum cnt_Tx xs : Int) ≤ 2305843009213693952) (w : World) (hr : Reads w w.heap.size a ((mks em_Tx cnt_Tx k xs).flatMap cl_Tx)) (hx : RowsRd w w.heap.size (rws_Tx (mks em_Tx cnt_Tx k xs))) :
  Calls Try.prog 143 #[.slice a xs.length c, .int .i64 k] w fun e w' => e = .returned (.int .i64 (k + (fsum cnt_Tx xs : Int))) ∧ Below w.heap.size w w' := by
 have HF := Lib.hid hf
 have hl : xs.length ≤ 1125899906842624 := by have := wsum_len wt_Tx (coS_Tx xs); rw [coS_Tx_eq, List.length_map] at this; rw [coS_Tx_eq] at hf; omega
 clear hf
 have HR := Lib.hid (fun w' (h : Below w.heap.size w w') => hr.below h)
 have HX := Lib.hid (fun w' (h : Below w.heap.size w w') => (hx.below h).more h.size)
 obtain ⟨N, hN⟩ : ∃ n, n = xs.length := ⟨_, rfl⟩
 rw [← hN] at hl ⊢
 have hl' : (N : Int) ≤ 1125899906842624 := by omega
 have HN := Lib.hid hN
 have HK1 := Lib.hid hk1
 have hk2 : k ≤ 2305843009213693952 := by omega
 clear hN hr hx hk1
 have S1 := Lib.hid (show Sl.Sep w w [] from Sl.Sep.start w)
 go_enter Try.func143, Try.ntmps143
 go_wp2_with fail
 go_loopw [1, 5] (fun v i wr => ∃ (j : Nat) (m : Int), j ≤ N ∧ i = .int .i64 j ∧ v = .int .i64 m ∧ k ≤ m ∧ m ≤ 2305843009213693952 ∧ Hid (m = k + (fsum cnt_Tx (xs.take j) : Int) ∧ Sl.Sep w wr [])) (fun _ i _ => N - (intOf i).toNat)
 case atStart => exact ⟨0, k, Nat.zero_le _, rfl, rfl, by omega, by omega, And.intro (by rw [List.take_zero, fsum_nil]; omega) S1.out⟩
 case round =>
  obtain ⟨j, m, hj, rfl, rfl, hm0, hm1, hrel⟩ := hrel
  have HM := Lib.hid hrel.out.1
  have S2 := Lib.hid hrel.out.2
  clear hrel S1
  by_cases hlt : (j : Int) < (N : Int)
  ·
   skip
   have hjl : j < xs.length := by have := HN.out; omega
   obtain ⟨x, hx⟩ : ∃ x, xs[j]? = some x := ⟨_, List.getElem?_eq_getElem hjl⟩
   have HFT := Lib.hid (fsum_take (f := cnt_Tx) hx)
   have hfa := fsum_at (f := cnt_Tx) hx
   have hcx : cnt_Tx x = 1 + (fsum cnt_Op x.f_Ops + (1 + (1 + (fsum cnt_Store x.f_Backup)))) := rfl
   have hmx : (mks em_Tx cnt_Tx k xs)[j]? = some (em_Tx m x) := by rw [mks_at em_Tx cnt_Tx k hx, ← HM.out]
   obtain ⟨ad, e'⟩ := el_some cl_Tx_len (by decide) (HR.out _ S2.out.old) (List.getElem?_eq_some_iff.1 hmx).1
   subst e'
   have HK := fun w' (h : Below w.heap.size w w') => el5 cl_Tx_len (HR.out _ h) hmx rfl
   dsimp only [em_Tx] at HK
   have hwm : wt_Tx (co_Tx x) + 1 ≤ 1125899906842624 := by have h1 := wsum_mem (f := wt_Tx) (List.mem_map.2 ⟨x, List.mem_of_getElem? hx, rfl⟩ : co_Tx x ∈ xs.map co_Tx); have h2 := HF.out; rw [coS_Tx_eq] at h2; omega
   have HFW1 := Lib.hid (show wsum wt_Op (coS_Op x.f_Ops) ≤ 1125899906842624 from by have h2 : wt_Tx (co_Tx x) = wsum wt_Op (coS_Op x.f_Ops) + (wsum wt_Store (coS_Store x.f_Backup)) := rfl; omega)
   have HFW4 := Lib.hid (show wsum wt_Store (coS_Store x.f_Backup) ≤ 1125899906842624 from by have h2 : wt_Tx (co_Tx x) = wsum wt_Op (coS_Op x.f_Ops) + (wsum wt_Store (coS_Store x.f_Backup)) := rfl; omega)
   clear hwm
   obtain ⟨s1, hs1⟩ : ∃ u, u = fsum cnt_Op x.f_Ops := ⟨_, rfl⟩
   obtain ⟨s4, hs4⟩ : ∃ u, u = fsum cnt_Store x.f_Backup := ⟨_, rfl⟩
   rw [← hs1, ← hs4] at hcx
   have hmc : m + (cnt_Tx x : Int) ≤ 2305843009213693952 := by have := HM.out; have := HK1.out; omega
   have HCX := Lib.hid hcx
   have hcx' : (cnt_Tx x : Int) = 1 + (s1 : Int) + 1 + 1 + (s4 : Int) := by omega
   rw [hcx'] at hmc
   clear hcx' hcx hfa
   obtain ⟨m1', hm⟩ : ∃ u : Int, u = m + 1 := ⟨_, rfl⟩
   have bd0 : 0 < m1' ∧ m1' ≤ 2305843009213693952 := by omega
   have bl0 : m ≤ m1' := by omega
   have HM1 := Lib.hid hm
   have hme1 := hm
   clear hm
   obtain ⟨m2', hm⟩ : ∃ u : Int, u = m1' + (s1 : Int) := ⟨_, rfl⟩
   have bd1 : 0 < m2' ∧ m2' ≤ 2305843009213693952 := by omega
   have bl1 : m1' ≤ m2' := by omega
   have HM2 := Lib.hid hm
   have hme2 := hm
   clear hm
   obtain ⟨m3', hm⟩ : ∃ u : Int, u = m2' + 1 := ⟨_, rfl⟩
   have bd2 : 0 < m3' ∧ m3' ≤ 2305843009213693952 := by omega
   have bl2 : m2' ≤ m3' := by omega
   have HM3 := Lib.hid hm
   have hme3 := hm
   clear hm
   obtain ⟨m4', hm⟩ : ∃ u : Int, u = m3' + 1 := ⟨_, rfl⟩
   have bd3 : 0 < m4' ∧ m4' ≤ 2305843009213693952 := by omega
   have bl3 : m3' ≤ m4' := by omega
   have HM4 := Lib.hid hm
   have hme4 := hm
   clear hm
   obtain ⟨m5', hm⟩ : ∃ u : Int, u = m4' + (s4 : Int) := ⟨_, rfl⟩
   have bd4 : 0 < m5' ∧ m5' ≤ 2305843009213693952 := by omega
   have bl4 : m4' ≤ m5' := by omega
   have HM5 := Lib.hid hm
   have hme5 := hm
   clear hm
   have HRX := fun w' (h : Below w.heap.size w w') => rd_el (rw_ := rw_Tx) (by rw [← rws_Tx_eq]; exact HX.out w' h) hmx
   have hpt1 : rw_Tx (em_Tx m x) = rs_Op x.f_Ops_a x.f_Ops_c (mks em_Op cnt_Op (m + 1) x.f_Ops) ++ (rs_Store x.f_Backup_a x.f_Backup_c (mks em_Store cnt_Store ((((m + 1) + (fsum cnt_Op x.f_Ops : Int)) + 1) + 1) x.f_Backup)) := rfl
   have HD1 := fun w' (h : Below w.heap.size w w') => (show RowsRd w' w'.heap.size (rs_Op x.f_Ops_a x.f_Ops_c (mks em_Op cnt_Op (m + 1) x.f_Ops)) from (rd_left (by have h1 := HRX w' h; rw [hpt1] at h1; exact h1)))
   have hpt4 : rw_Tx (em_Tx m x) = rs_Op x.f_Ops_a x.f_Ops_c (mks em_Op cnt_Op (m + 1) x.f_Ops) ++ (rs_Store x.f_Backup_a x.f_Backup_c (mks em_Store cnt_Store ((((m + 1) + (fsum cnt_Op x.f_Ops : Int)) + 1) + 1) x.f_Backup)) := rfl
   have HD4 := fun w' (h : Below w.heap.size w w') => (show RowsRd w' w'.heap.size (rs_Store x.f_Backup_a x.f_Backup_c (mks em_Store cnt_Store ((((m + 1) + (fsum cnt_Op x.f_Ops : Int)) + 1) + 1) x.f_Backup)) from (rd_right (by have h1 := HRX w' h; rw [hpt4] at h1; exact h1)))
   try simp only [← hs1] at HK HD1 HD4
   try simp only [← hs4] at HK HD1 HD4
   try simp only [mks_len] at HK
   try simp only [← hme1] at HK HD1 HD4
   try simp only [← hme2] at HK HD1 HD4
   try simp only [← hme3] at HK HD1 HD4
   try simp only [← hme4] at HK HD1 HD4
   try simp only [← hme5] at HK HD1 HD4
   have HC1 := fun w' (h : Below w.heap.size w w') => held_OpS x.f_Ops_a x.f_Ops_c x.f_Ops m1' HFW1.out (by omega) (by have := bd1.2; omega) w' (rd_head (HD1 w' h)).reads (rd_tail (HD1 w' h))
   rw [← hs1, ← hme2] at HC1
   replace HC1 := Lib.hid HC1
   have HC4 := fun w' (h : Below w.heap.size w w') => held_StoreS x.f_Backup_a x.f_Backup_c x.f_Backup m4' HFW4.out (by omega) (by have := bd4.2; omega) w' (rd_head (HD4 w' h)).reads (rd_tail (HD4 w' h))
   rw [← hs4, ← hme5] at HC4
   replace HC4 := Lib.hid HC4
   replace HK := Lib.hid HK
   clear hmx hx hme1 hme2 hme3 hme4 hme5 hs1 HD1 hs4 HD4 HRX hpt1 hpt4 hmc
   obtain ⟨f0, f1, f2, f3, f4⟩ := HK.out _ S2.out.old
   go_upto_region 7 with fail
   try simp only [← HM1.out]
   go_wp2_with fail
   go_at_call 199
   refine (HC1.out _ S2.out.old).mono ?_
   rintro e w1 ⟨rfl, hb⟩
   clear f0 f1 f2 f3 f4
   have S3 := Lib.hid (S2.out.keep hb)
   clear S2
   clear hb
   obtain ⟨f0, f1, f2, f3, f4⟩ := HK.out _ S3.out.old
   have hneg1 : ¬ (m2' < 0) := by omega
   go_upto_region 10 with fail
   go_upto_region 13 with fail
   try simp only [← HM3.out]
   go_upto_region 16 with fail
   try simp only [← HM4.out]
   go_wp2_with fail
   go_at_call 200
   refine (HC4.out _ S3.out.old).mono ?_
   rintro e w2 ⟨rfl, hb⟩
   clear f0 f1 f2 f3 f4
   have S4 := Lib.hid (S3.out.keep hb)
   clear S3
   clear hb
   obtain ⟨f0, f1, f2, f3, f4⟩ := HK.out _ S4.out.old
   have hneg4 : ¬ (m5' < 0) := by omega
   go_wp2_with fail
   go_roundw
   case rel => exact ⟨j + 1, m5', by omega, by go_num, by first | rfl | go_num, by omega, by omega, And.intro (by have h1 := HFT.out; have h2 := HCX.out; have h3 := HM.out; have := HM1.out; have := HM2.out; have := HM3.out; have := HM4.out; have := HM5.out; omega) S4.out⟩
   case measure => simp [intOf]; omega
  ·
   skip
   obtain rfl : j = N := by omega
   have hT : xs.take j = xs := List.take_of_length_le (by have := HN.out; omega)
   have HT := Lib.hid hT
   clear hT
   go_wp2_with fail
   go_ret
   exact ⟨by have h := HM.out; rw [HT.out] at h; rw [← h] <;> rfl, S2.out.old⟩
end Go.Proofs.Ytojcdmgcbgpdmaa.V

namespace Go.Proofs.Ytojcdmgcbgpdmaa.V
open Go.ChangeShapes Go.WideShapes Go.ChangeAt Go.RowKit Mem Sl Sv Bag
open L5 (markT)
structure X_TxQueue where
 f_Txs : List X_Tx
structure Y_TxQueue where
 f_Txs_a : Option Addr
 f_Txs_c : Nat
 f_Txs : List Y_Tx
def co_TxQueue (z : Y_TxQueue) : X_TxQueue := ⟨coS_Tx z.f_Txs⟩
def cl_TxQueue (z : Y_TxQueue) : List Value := [.slice z.f_Txs_a z.f_Txs.length z.f_Txs_c]
def cs_TxQueue (z : Y_TxQueue) : Array Value := #[.slice z.f_Txs_a z.f_Txs.length z.f_Txs_c]
def vv_TxQueue (z : Y_TxQueue) : Value := .agg #[.slice z.f_Txs_a z.f_Txs.length z.f_Txs_c]
def rw_TxQueue (z : Y_TxQueue) : List RowS := rs_Tx z.f_Txs_a z.f_Txs_c z.f_Txs
def wt_TxQueue (c : X_TxQueue) : Nat := wsum wt_Tx c.f_Txs
theorem wt_TxQueue_parts (z : Y_TxQueue) : wt_TxQueue (co_TxQueue z) = wsum wt_Tx (coS_Tx z.f_Txs) := rfl
def Wide_TxQueue (z : Y_TxQueue) : Prop := (z.f_Txs.length ≤ maxLen ∧ ∀ x ∈ z.f_Txs, Wide_Tx x)
section
variable {H : Type} {enc : TypeId × Value → H} {W : World} {b : Nat} {sp : Nat → Bool} {hd : Bool}
theorem trod_TxQueue {fuel : Nat} {cs : List Value} {x : DataW H × List MemPlace} (h : DataW.trod enc Try.prog W b sp hd fuel 94 cs = some x) (hlt : ∀ p ∈ x.2, p.block < W.heap.size) : ∃ z : Y_TxQueue, cs = cl_TxQueue z ∧ RowsRd W W.heap.size (rw_TxQueue z) ∧ Wide_TxQueue z := by
 obtain ⟨xs, n, _, hx, hl, hlen, hf⟩ := DataW.trod_struct Try.underlying94 h
 have hlN : cs.length = 1 := hl.trans (by kernel_rfl)
 match cs, hlN with
 | [c0], _ =>
  have h0 : DataW.trod enc Try.prog W b sp hd n 92 (List.take (Try.prog.cellsOf 92) (List.drop 0 [c0])) = xs[0]? := hf 0 _ rfl
  rw [show Try.prog.cellsOf 92 = 1 by kernel_rfl, List.getElem?_eq_getElem (by rw [hlen]; decide)] at h0
  obtain ⟨a0, x0, c0', e0, r0, v0, l0, w0⟩ := trods_Tx h0 (fun p hp => hlt p (by rw [hx]; exact List.mem_flatMap.2 ⟨_, List.getElem_mem (show 0 < xs.length by rw [hlen]; decide), hp⟩))
  simp only [List.drop_succ_cons, List.drop_zero, List.take_succ_cons, List.take_zero, List.cons.injEq, and_true] at e0
  subst e0
  exact ⟨⟨a0, c0', x0⟩, rfl, rd_cons ⟨r0.1, r0.2.1, r0.2.2⟩ (by rw [rws_Tx_eq]; exact v0), ⟨l0, w0⟩⟩
theorem open_TxQueue {b0 : Nat} {v : Value} {d : DataW H} {ps : List MemPlace} (hval : Value.okWide Try.prog W .any b0 94 v) (h0 : DataW.Trod enc Try.prog W b sp hd 94 v d ps) (hlt : ∀ p ∈ ps, p.block < W.heap.size) : ∃ z : Y_TxQueue, v = vv_TxQueue z ∧ RowsRd W W.heap.size (rw_TxQueue z) ∧ Wide_TxQueue z := by
 obtain ⟨cs, rfl, _⟩ := okWide_struct Try.underlying94 hval
 obtain ⟨fuel, hf0⟩ := h0
 obtain ⟨z, e, h1, h2⟩ := trod_TxQueue hf0 hlt
 obtain ⟨l⟩ := cs
 exact ⟨z, by rw [show l = cl_TxQueue z from e]; rfl, h1, h2⟩
end
set_option maxHeartbeats 4000000 in
theorem to_TxQueue (z : Y_TxQueue) (hf : wt_TxQueue (co_TxQueue z) ≤ 1048576) (w : World) (hr : RowsRd w w.heap.size (rw_TxQueue z)) : Calls Try.prog 66 #[vv_TxQueue z] w fun e w' => ∃ y : Y_TxQueue, e = .returned (vv_TxQueue y) ∧ co_TxQueue y = co_TxQueue z ∧ BagOwn w' w.heap.size (rw_TxQueue y) ∧ Below w.heap.size w w' := by
 have hfp := hf
 rw [wt_TxQueue_parts] at hfp
 have HC0 := Lib.hid (fun w' (h : Below w.heap.size w w') => to_TxS z.f_Txs_a z.f_Txs_c z.f_Txs (by omega) w' (((rd_head hr).reads.below h).more h.size) (((rd_tail hr).below h).more h.size))
 clear hfp hf hr
 unfold vv_TxQueue
 have S1 := Lib.hid (show Sl.Sep w _ [_, _] from L4.push_box (L4.push_box (Sl.Sep.start w) 94 #[.slice z.f_Txs_a z.f_Txs.length z.f_Txs_c] (w.heap.size) (by simp)) 98 #[.slice none 0 0] (w.heap.size + 1) (by simp))
 obtain ⟨wa, hwa⟩ : ∃ w_, w_ = ((w.alloc (.cells #[.slice z.f_Txs_a z.f_Txs.length z.f_Txs_c] 94)).alloc (.cells #[.slice none 0 0] 98)) := ⟨_, rfl⟩
 rw [← hwa] at S1
 go_enter Try.func66, Try.ntmps66
 go_upto_region 1 with fail
 rw [← hwa]
 clear hwa
 go_upto_region 2 with fail
 have S2 := Lib.hid (show Sl.Sep w _ [_, _, _] from L4.push_box S1.out 98 #[.slice none 0 0] wa.heap.size rfl)
 clear S1
 obtain ⟨g1, hg⟩ : ∃ g', g' = wa.heap.size := ⟨_, rfl⟩
 rw [← hg] at S2 ⊢
 clear hg
 generalize wa.alloc (.cells #[.slice none 0 0] 98) = w1 at S2 ⊢
 have f0 := Bag.cs1 S2.out 0 rfl
 go_wp2_with fail
 go_at_call 137
 refine (HC0.out _ S2.out.old).mono ?_
 rintro e w2 ⟨a0', c0', y0, rfl, hc0, ho, hb⟩
 clear f0
 have S3 := Lib.hid (show Sl.Sep w _ [_, _, L4.boxR g1 98 #[.slice none 0 0], Bag.bag (rs_Tx a0' c0' y0)] from Bag.push_bag S2.out hb ho)
 clear S2
 clear hb ho
 have HQ0 := Lib.hid hc0
 clear hc0
 have f0 := Bag.cs1 S3.out 0 rfl
 have f1 := Bag.cs1 S3.out 2 rfl
 have z0 := Bag.free_at S3.out 2 rfl 0
 go_upto_region 3 with fail
 clear f0 f1 z0
 have S4 := Lib.hid (show Sl.Sep w _ [_, _, L4.boxR g1 98 #[.slice a0' y0.length c0'], _] from L5.put_box5 (S3.out) 2 rfl 0 (.slice a0' y0.length c0'))
 clear S3
 have f0 := Bag.cs1 S4.out 1 rfl
 have f1 := Bag.cs1 S4.out 2 rfl
 have z0 := Bag.free_at S4.out 1 rfl 0
 go_wp2_with fail
 clear f0 f1 z0
 have S5 := Lib.hid (show Sl.Sep w _ [_, L4.boxR (w.heap.size + 1) 98 #[.slice a0' y0.length c0'], _, _] from L5.put_box5 (S4.out) 1 rfl 0 (.slice a0' y0.length c0'))
 clear S4
 have f0 := Bag.cs1 S5.out 1 rfl
 refine bodyPost_ret (v := .agg #[.slice a0' y0.length c0']) (by simp [results, Try.results66, go_sem, *]) rfl ?_
 clear f0
 refine ⟨⟨a0', c0', y0⟩, rfl, ?_, Bag.bag_from S5.out 3 rfl, S5.out.old⟩
 show (⟨coS_Tx y0⟩ : X_TxQueue) = (⟨coS_Tx z.f_Txs⟩ : X_TxQueue)
 rw [HQ0.out]
set_option maxHeartbeats 4000000 in
theorem sz_TxQueue (z : Y_TxQueue) (q : Int) (hw : Wide_TxQueue z) (hq0 : -1 ≤ q) (hq1 : q ≤ 1048576) (w : World) (hr : RowsRd w w.heap.size (rw_TxQueue z)) : Calls Try.prog 64 #[vv_TxQueue z, .int .i64 q] w fun e w' => e = .returned (.int .i64 (lft q (wt_TxQueue (co_TxQueue z)))) ∧ Below w.heap.size w w' := by
 have HS0 := Lib.hid (fun (m : Int) (h0 : -1 ≤ m) (h1 : m ≤ 1048576) w' (h : Below w.heap.size w w') => sz_TxS z.f_Txs_a z.f_Txs_c z.f_Txs m hw.2 hw.1 h0 h1 w' (((rd_head hr).reads.below h).more h.size) (((rd_tail hr).below h).more h.size))
 have HW := Lib.hid (wt_TxQueue_parts z)
 clear hw hr
 unfold vv_TxQueue
 have S1 := Lib.hid (show Sl.Sep w _ [_] from L4.push_box (Sl.Sep.start w) 94 #[.slice z.f_Txs_a z.f_Txs.length z.f_Txs_c] (w.heap.size) (by simp))
 obtain ⟨wa, hwa⟩ : ∃ w_, w_ = (w.alloc (.cells #[.slice z.f_Txs_a z.f_Txs.length z.f_Txs_c] 94)) := ⟨_, rfl⟩
 rw [← hwa] at S1
 go_enter Try.func64, Try.ntmps64
 go_upto_region 1 with fail
 rw [← hwa]
 clear hwa
 have f0 := Bag.cs1 S1.out 0 rfl
 obtain ⟨u0, hu⟩ : ∃ u, lft q (wsum wt_Tx (coS_Tx z.f_Txs)) = u := ⟨_, rfl⟩
 have hc0 := lft_cases hu
 have hr0 := lft_range (q := q) (wsum wt_Tx (coS_Tx z.f_Txs)) (by omega)
 rw [hu] at hr0
 have HCU := HS0.out q (by omega) (by omega)
 simp only [hu] at HCU
 replace HCU := Lib.hid HCU
 clear hu
 go_wp2_with fail
 go_at_call 134
 refine (HCU.out _ S1.out.old).mono ?_
 rintro e w1 ⟨rfl, hb⟩
 clear f0
 have S2 := Lib.hid (S1.out.keep hb)
 clear S1
 clear hb
 have f0 := Bag.cs1 S2.out 0 rfl
 clear HCU
 by_cases hn0 : u0 < 0
 ·
  have hm1 : u0 = -1 := by omega
  subst hm1
  go_wp2_with fail
  go_ret
  exact ⟨by rw [HW.out, lft_neg (by omega)] <;> rfl, S2.out.old⟩
 ·
  skip
  go_wp2_with fail
  go_ret
  exact ⟨by rw [HW.out, lft_pos (by omega)] <;> first | rfl | (refine congrArg (fun i => Ending.returned (.int .i64 i)) ?_; omega), S2.out.old⟩
set_option maxHeartbeats 4000000 in
theorem eq_TxQueue (y z : Y_TxQueue) (hc : co_TxQueue y = co_TxQueue z) (hf : wt_TxQueue (co_TxQueue y) ≤ 1125899906842624) (w : World) (hr : RowsRd w w.heap.size (rw_TxQueue y)) (hr2 : RowsRd w w.heap.size (rw_TxQueue z)) : Calls Try.prog 68 #[vv_TxQueue y, vv_TxQueue z] w fun e w' => e = .returned (.bool true) ∧ Below w.heap.size w w' := by
 have hfp := hf
 rw [wt_TxQueue_parts] at hfp
 have ee0 : z.f_Txs.length = y.f_Txs.length := (by have h := congrArg List.length (show coS_Tx y.f_Txs = coS_Tx z.f_Txs from congrArg X_TxQueue.f_Txs (hc)); rw [coS_Tx_eq, coS_Tx_eq, List.length_map, List.length_map] at h; exact h.symm)
 have HE0 := Lib.hid (fun w' (h : Below w.heap.size w w') => eq_TxS y.f_Txs_a z.f_Txs_a y.f_Txs_c z.f_Txs_c y.f_Txs z.f_Txs (congrArg X_TxQueue.f_Txs hc) (by omega) w' (((rd_head hr).reads.below h).more h.size) (((rd_tail hr).below h).more h.size) (((rd_head hr2).reads.below h).more h.size) (((rd_tail hr2).below h).more h.size))
 simp only [ee0] at HE0
 have hv : vv_TxQueue z = .agg #[.slice z.f_Txs_a y.f_Txs.length z.f_Txs_c] := by unfold vv_TxQueue; simp only [ee0]
 rw [hv]
 clear hv hfp hf hc hr hr2 ee0
 unfold vv_TxQueue
 have S1 := Lib.hid (show Sl.Sep w _ [_, _] from L4.push_box (L4.push_box (Sl.Sep.start w) 98 #[.slice y.f_Txs_a y.f_Txs.length y.f_Txs_c] (w.heap.size) (by simp)) 98 #[.slice z.f_Txs_a y.f_Txs.length z.f_Txs_c] (w.heap.size + 1) (by simp))
 obtain ⟨wa, hwa⟩ : ∃ w_, w_ = ((w.alloc (.cells #[.slice y.f_Txs_a y.f_Txs.length y.f_Txs_c] 98)).alloc (.cells #[.slice z.f_Txs_a y.f_Txs.length z.f_Txs_c] 98)) := ⟨_, rfl⟩
 rw [← hwa] at S1
 go_enter Try.func68, Try.ntmps68
 go_upto_region 1 with fail
 rw [← hwa]
 clear hwa
 have f0 := Bag.cs1 S1.out 0 rfl
 have f1 := Bag.cs1 S1.out 1 rfl
 go_wp2_with fail
 go_at_call 141
 refine (HE0.out _ S1.out.old).mono ?_
 rintro e w1 ⟨rfl, hb⟩
 clear f0 f1
 have S2 := Lib.hid (S1.out.keep hb)
 clear S1
 clear hb
 have f0 := Bag.cs1 S2.out 0 rfl
 have f1 := Bag.cs1 S2.out 1 rfl
 go_wp2_with fail
 go_ret
 exact ⟨rfl, S2.out.old⟩
def cnt_TxQueue (z : Y_TxQueue) : Nat := fsum cnt_Tx z.f_Txs
theorem cntS_TxQueue (z : Y_TxQueue) : cnt_TxQueue z ≤ 64 * (wt_TxQueue (co_TxQueue z) + 1) := by
 have h0 := cnt_sum cntS_Tx z.f_Txs
 have hw : wt_TxQueue (co_TxQueue z) = wsum wt_Tx (coS_Tx z.f_Txs) := by rfl
 rw [← coS_Tx_eq] at h0
 unfold cnt_TxQueue
 omega
def md_TxQueue (k : Int) (z : Y_TxQueue) : Y_TxQueue := ⟨z.f_Txs_a, z.f_Txs_c, (mks em_Tx cnt_Tx k z.f_Txs)⟩
def ct_TxQueue (z : Y_TxQueue) : Nat := fsum cnt_Tx z.f_Txs
theorem ctS_TxQueue (z : Y_TxQueue) : ct_TxQueue z ≤ 64 * (wt_TxQueue (co_TxQueue z) + 1) := by
 have h : ct_TxQueue z ≤ cnt_TxQueue z := by unfold ct_TxQueue cnt_TxQueue; omega
 exact Nat.le_trans h (cntS_TxQueue z)
theorem rw_TxQueue_fp (k : Int) (z : Y_TxQueue) : (bag (rw_TxQueue (md_TxQueue k z))).fp = (bag (rw_TxQueue z)).fp := by
 show (rs_Tx z.f_Txs_a z.f_Txs_c (mks em_Tx cnt_Tx k z.f_Txs)).flatMap RowS.fp = (rs_Tx z.f_Txs_a z.f_Txs_c z.f_Txs).flatMap RowS.fp
 simp only [List.flatMap_append, rs_Tx_fp]
set_option maxHeartbeats 8000000 in
theorem mark_TxQueue_sep (z : Y_TxQueue) (k : Int) (W w : World) (S : Sl.Sep W w [bag (rw_TxQueue z), Run.restL W w (bag (rw_TxQueue z)).fp]) (hf : wt_TxQueue (co_TxQueue z) ≤ 1125899906842624) (hk0 : 0 < k) (hk1 : k + (ct_TxQueue z : Int) ≤ 2305843009213693952) :
  Calls Try.prog 69 #[vv_TxQueue z, .int .i64 k] w fun e w' => e = .returned (.int .i64 (k + (ct_TxQueue z : Int))) ∧ Sl.Sep W w' [bag (rw_TxQueue (md_TxQueue k z)), Run.restL W w (bag (rw_TxQueue z)).fp] := by
 have hct : ct_TxQueue z = fsum cnt_Tx z.f_Txs := rfl
 rw [wt_TxQueue_parts] at hf
 have HFW0 := Lib.hid (show wsum wt_Tx (coS_Tx z.f_Txs) ≤ 1125899906842624 from by omega)
 obtain ⟨s0, hs0⟩ : ∃ u, u = fsum cnt_Tx z.f_Txs := ⟨_, rfl⟩
 rw [← hs0] at hct
 obtain ⟨m1', hm1⟩ : ∃ u : Int, u = k + (s0 : Int) := ⟨_, rfl⟩
 have bd0 : 0 < m1' ∧ m1' ≤ 2305843009213693952 := by omega
 have HM1 := Lib.hid hm1
 have HS0 := Lib.hid hs0
 have HCT := Lib.hid (show k + (ct_TxQueue z : Int) = m1' by omega)
 obtain ⟨fps, hfps⟩ : ∃ f, f = (bag (rw_TxQueue z)).fp := ⟨_, rfl⟩
 rw [← hfps] at S ⊢
 have S1 := Lib.hid S
 clear hf hct hfps S hk1 hs0 hm1
 unfold vv_TxQueue
 have S2 := Lib.hid (show Sl.Sep W _ [Bag.bag (rs_Tx z.f_Txs_a z.f_Txs_c z.f_Txs), Run.restL W w fps] from S1.out)
 clear S1
 have S3 := Lib.hid (show Sl.Sep W _ [_, _, _] from L4.push_box S2.out 98 #[.slice z.f_Txs_a z.f_Txs.length z.f_Txs_c] w.heap.size rfl)
 clear S2
 obtain ⟨wa, hwa⟩ : ∃ u, u = (w.alloc (.cells #[.slice z.f_Txs_a z.f_Txs.length z.f_Txs_c] 98)) := ⟨_, rfl⟩
 rw [← hwa] at S3
 go_enter Try.func69, Try.ntmps69
 go_upto_region 1 with fail
 rw [← hwa]
 clear hwa
 have f0 := Bag.cs1 S3.out 2 rfl
 go_wp2_with fail
 go_at_call 142
 have HC := mark_TxS S3.out 0 (a := z.f_Txs_a) (c := z.f_Txs_c) (xs := z.f_Txs) rfl k HFW0.out (by omega) (by have := HS0.out; have := bd0.2; have := HM1.out; omega)
 try dsimp only [vv_TxS] at HC
 rw [← HS0.out, ← HM1.out] at HC
 refine HC.mono ?_
 clear HC
 rintro e w1 ⟨rfl, hS⟩
 clear f0
 have S4 := Lib.hid (show Sl.Sep W _ [Bag.bag (rs_Tx z.f_Txs_a z.f_Txs_c (mks em_Tx cnt_Tx k z.f_Txs)), _, _] from hS)
 clear S3
 clear hS
 have f0 := Bag.cs1 S4.out 2 rfl
 clear f0
 have HEM := Lib.hid (show rw_TxQueue (md_TxQueue k z) = (rs_Tx z.f_Txs_a z.f_Txs_c (mks em_Tx cnt_Tx k z.f_Txs)) from by first | rfl | (simp only [HM1.out, HS0.out]; rfl))
 have S5 := Lib.hid (show Sl.Sep W _ [Bag.bag (rw_TxQueue (md_TxQueue k z)), _, _] from (by rw [HEM.out]; exact S4.out))
 clear S4
 have S6 := Lib.hid (show Sl.Sep W _ [_, _] from Bag.take S5.out [0, 1] (by rfl) (by decide))
 clear S5
 go_wp2_with fail
 go_ret
 exact ⟨by rw [HCT.out] <;> rfl, S6.out⟩
theorem mark_TxQueue {W w : World} {rs : List Res} (h : Sl.Sep W w rs) (i : Nat) {z : Y_TxQueue} (hi : rs[i]? = some (bag (rw_TxQueue z))) (k : Int) (hf : wt_TxQueue (co_TxQueue z) ≤ 1125899906842624) (hk0 : 0 < k) (hk1 : k + (ct_TxQueue z : Int) ≤ 2305843009213693952) :
  Calls Try.prog 69 #[vv_TxQueue z, .int .i64 k] w fun e w' => e = .returned (.int .i64 (k + (ct_TxQueue z : Int))) ∧ Sl.Sep W w' (rs.set i (bag (rw_TxQueue (md_TxQueue k z)))) :=
 (mark_TxQueue_sep z k W w (Run.restL_start h i hi) hf hk0 hk1).mono fun _ _ ⟨he, hs⟩ => ⟨he, Run.restL_back h i hi hs (rw_TxQueue_fp k z)⟩
set_option maxHeartbeats 4000000 in
theorem held_TxQueue (z : Y_TxQueue) (k : Int) (hf : wt_TxQueue (co_TxQueue z) ≤ 1125899906842624) (hk0 : 0 < k) (hk1 : k + (ct_TxQueue z : Int) ≤ 2305843009213693952) (w : World) (hr : RowsRd w w.heap.size (rw_TxQueue (md_TxQueue k z))) :
  Calls Try.prog 70 #[vv_TxQueue z, .int .i64 k] w fun e w' => e = .returned (.int .i64 (k + (ct_TxQueue z : Int))) ∧ Below w.heap.size w w' := by
 have hct : ct_TxQueue z = fsum cnt_Tx z.f_Txs := rfl
 rw [wt_TxQueue_parts] at hf
 have hr' : RowsRd w w.heap.size (rs_Tx z.f_Txs_a z.f_Txs_c (mks em_Tx cnt_Tx k z.f_Txs)) := hr
 have hp0 : RowsRd w w.heap.size (rs_Tx z.f_Txs_a z.f_Txs_c (mks em_Tx cnt_Tx k z.f_Txs)) := hr'
 have HFW0 := Lib.hid (show wsum wt_Tx (coS_Tx z.f_Txs) ≤ 1125899906842624 from by omega)
 obtain ⟨s0, hs0⟩ : ∃ u, u = fsum cnt_Tx z.f_Txs := ⟨_, rfl⟩
 try simp only [← hs0] at hct hp0
 obtain ⟨m1', hm1⟩ : ∃ u : Int, u = k + (s0 : Int) := ⟨_, rfl⟩
 have bd0 : 0 < m1' ∧ m1' ≤ 2305843009213693952 := by omega
 have hneg0 : ¬ (m1' < 0) := by omega
 try simp only [← hm1] at hp0
 have HC0 := fun w' (h : Below w.heap.size w w') => held_TxS z.f_Txs_a z.f_Txs_c z.f_Txs k HFW0.out (by omega) (by have := bd0.2; omega) w' (((rd_head hp0).reads.below h).more h.size) (((rd_tail hp0).below h).more h.size)
 rw [← hs0, ← hm1] at HC0
 replace HC0 := Lib.hid HC0
 have HCT := Lib.hid (show k + (ct_TxQueue z : Int) = m1' by omega)
 clear hf hct hr hr' hk1 hs0 hm1 hp0
 unfold vv_TxQueue
 have S1 := Lib.hid (show Sl.Sep w _ [_] from L4.push_box (Sl.Sep.start w) 98 #[.slice z.f_Txs_a z.f_Txs.length z.f_Txs_c] (w.heap.size) (by simp))
 obtain ⟨wa, hwa⟩ : ∃ w_, w_ = (w.alloc (.cells #[.slice z.f_Txs_a z.f_Txs.length z.f_Txs_c] 98)) := ⟨_, rfl⟩
 rw [← hwa] at S1
 go_enter Try.func70, Try.ntmps70
 go_upto_region 1 with fail
 rw [← hwa]
 clear hwa
 have f0 := Bag.cs1 S1.out 0 rfl
 go_wp2_with fail
 go_at_call 143
 refine (HC0.out _ S1.out.old).mono ?_
 rintro e w1 ⟨rfl, hb⟩
 clear f0
 have S2 := Lib.hid (S1.out.keep hb)
 clear S1
 clear hb
 have f0 := Bag.cs1 S2.out 0 rfl
 go_wp2_with fail
 go_ret
 exact ⟨by rw [HCT.out] <;> rfl, S2.out.old⟩
end Go.Proofs.Ytojcdmgcbgpdmaa.V

namespace Go.Proofs.Ytojcdmgcbgpdmaa.L10
theorem any_no {α : Type} {p : α → Bool} {xs : List α} (h : ∀ j (hj : j < xs.length), p xs[j] = false) : xs.any p = false := by
 rw [List.any_eq_false]
 intro x hx
 obtain ⟨j, hj, rfl⟩ := List.mem_iff_getElem.1 hx
 rw [h j hj]; decide
theorem any_yes {α : Type} {p : α → Bool} {xs : List α} {k : Nat} {x : α} (hx : xs[k]? = some x) (h : p x = true) : xs.any p = true :=
 List.any_eq_true.2 ⟨x, List.mem_of_getElem? hx, h⟩
end Go.Proofs.Ytojcdmgcbgpdmaa.L10

namespace Go.Proofs.Ytojcdmgcbgpdmaa.L10
open V L6 L9
open L4 (K isK cmpK R)
open Go.ChangeShapes Go.WideShapes Go.ChangeAt Go.RowKit Mem Sl Sv Bag

def newB (q : List X_Tx) (ops : List X_Op) : Bool := decide (q.length < 6) && okL ops
def idQ (q : List X_Tx) : Int := match q.getLast? with
 | none => 1
 | some t => IntKind.i64.wrap (t.f_Id + 1)
def newN (q : List X_Tx) (ops : List X_Op) : Int := if newB q ops then idQ q else 0
def newX (q : List X_Tx) (ops : List X_Op) : List X_Tx := if newB q ops then q ++ [⟨idQ q, ops, 0, 0, []⟩] else q

structure FitT (t : X_Tx) : Prop where
 ops : ∀ o ∈ t.f_Ops, FitO o
 len : t.f_Ops.length ≤ 1048576
 back : ∀ s ∈ t.f_Backup, FitS s
 blen : t.f_Backup.length ≤ 1048576
structure FitQ (q : List X_Tx) : Prop where
 txs : ∀ t ∈ q, FitT t
 len : q.length ≤ 1048576

theorem coT_len {ts : List Y_Tx} : (coS_Tx ts).length = ts.length := by rw [coS_Tx_eq, List.length_map]
theorem coT_at {ts : List Y_Tx} {k : Nat} {x : Y_Tx} (h : ts[k]? = some x) : (coS_Tx ts)[k]? = some (co_Tx x) := by rw [coS_Tx_eq, List.getElem?_map, h]; rfl
section
variable {w : World} {B : Nat} {z : Y_Tx}
theorem rdTs {ts : List Y_Tx} {k : Nat} {x : Y_Tx} (h : RowsRd w B (rws_Tx ts)) (hx : ts[k]? = some x) : RowsRd w B (rw_Tx x) := rd_el (rw_ := rw_Tx) h hx
theorem rdTo (h : RowsRd w B (rw_Tx z)) : Reads w B z.f_Ops_a (z.f_Ops.flatMap cl_Op) := (rd_head (rd_left h)).reads
theorem rdTox (h : RowsRd w B (rw_Tx z)) : RowsRd w B (rws_Op z.f_Ops) := rd_tail (rd_left h)
theorem rdTb (h : RowsRd w B (rw_Tx z)) : Reads w B z.f_Backup_a (z.f_Backup.flatMap cl_Store) := (rd_head (rd_right h)).reads
theorem rdTbx (h : RowsRd w B (rw_Tx z)) : RowsRd w B (rws_Store z.f_Backup) := rd_tail (rd_right h)
end
section
variable {w : World} {B : Nat} {z : Y_TxQueue}
theorem rdQ (h : RowsRd w B (rw_TxQueue z)) : Reads w B z.f_Txs_a (z.f_Txs.flatMap cl_Tx) := (rd_head h).reads
theorem rdQx (h : RowsRd w B (rw_TxQueue z)) : RowsRd w B (rws_Tx z.f_Txs) := rd_tail h
end

end Go.Proofs.Ytojcdmgcbgpdmaa.L10

namespace Go.Proofs.Ytojcdmgcbgpdmaa.V
open Go.ChangeShapes Go.WideShapes Go.ChangeAt Go.RowKit Mem Sl Sv Bag
structure Y_OpZ where
 a : Option Addr
 c : Nat
 xs : List Y_Op
def co_OpZ (z : Y_OpZ) : List X_Op := coS_Op z.xs
def wt_OpZ (c : List X_Op) : Nat := wsum wt_Op c
def vv_OpZ (z : Y_OpZ) : Value := .slice z.a z.xs.length z.c
def rw_OpZ (z : Y_OpZ) : List RowS := rs_Op z.a z.c z.xs
def md_OpZ (k : Int) (z : Y_OpZ) : Y_OpZ := ⟨z.a, z.c, mks em_Op cnt_Op k z.xs⟩
def ct_OpZ (z : Y_OpZ) : Nat := fsum cnt_Op z.xs
def Wide_OpZ (z : Y_OpZ) : Prop := z.xs.length ≤ maxLen ∧ ∀ x ∈ z.xs, Wide_Op x
theorem ctS_OpZ (z : Y_OpZ) : ct_OpZ z ≤ 64 * (wt_OpZ (co_OpZ z) + 1) := by
 have h := cnt_sum cntS_Op z.xs
 unfold ct_OpZ wt_OpZ co_OpZ
 rw [coS_Op_eq]
 omega
theorem rd_OpZ {w : World} {B : Nat} {z : Y_OpZ} (h : RowsRd w B (rw_OpZ z)) : Reads w B z.a (z.xs.flatMap cl_Op) := (rd_head h).reads
theorem rx_OpZ {w : World} {B : Nat} {z : Y_OpZ} (h : RowsRd w B (rw_OpZ z)) : RowsRd w B (rws_Op z.xs) := rd_tail h
section
variable {H : Type} {enc : TypeId × Value → H} {W : World} {b : Nat} {sp : Nat → Bool} {hd : Bool}
theorem open_OpZ {b0 : Nat} {v : Value} {d : DataW H} {ps : List MemPlace} (hval : Value.okWide Try.prog W .any b0 78 v) (h0 : DataW.Trod enc Try.prog W b sp hd 78 v d ps) (hlt : ∀ p ∈ ps, p.block < W.heap.size) : ∃ z : Y_OpZ, v = vv_OpZ z ∧ RowsRd W W.heap.size (rw_OpZ z) ∧ Wide_OpZ z := by
 obtain ⟨a0, len, cap, rfl⟩ := okWide_slice Try.underlying78 hval
 obtain ⟨fuel, hf0⟩ := h0
 obtain ⟨a, xs, c, e, r, v, l, w⟩ := trods_Op hf0 hlt
 simp only [Value.cells, List.cons.injEq, and_true] at e
 exact ⟨⟨a, c, xs⟩, e, rd_cons ⟨r.1, r.2.1, r.2.2⟩ (by rw [rws_Op_eq]; exact v), ⟨l, w⟩⟩
end
theorem to_OpZ (z : Y_OpZ) (hf : wt_OpZ (co_OpZ z) ≤ 1048576) (w : World) (hr : RowsRd w w.heap.size (rw_OpZ z)) : Calls Try.prog 52 #[vv_OpZ z] w fun e w' => ∃ y : Y_OpZ, e = .returned (vv_OpZ y) ∧ co_OpZ y = co_OpZ z ∧ BagOwn w' w.heap.size (rw_OpZ y) ∧ Below w.heap.size w w' :=
 (to_OpS z.a z.c z.xs hf w (rd_OpZ hr) (rx_OpZ hr)).mono fun _ _ ⟨a, c, ys, he, hc, ho, hb⟩ => ⟨⟨a, c, ys⟩, he, hc, ho, hb⟩
theorem sz_OpZ (z : Y_OpZ) (q : Int) (hw : Wide_OpZ z) (hq0 : -1 ≤ q) (hq1 : q ≤ 1048576) (w : World) (hr : RowsRd w w.heap.size (rw_OpZ z)) : Calls Try.prog 50 #[vv_OpZ z, .int .i64 q] w fun e w' => e = .returned (.int .i64 (lft q (wt_OpZ (co_OpZ z)))) ∧ Below w.heap.size w w' :=
 sz_OpS z.a z.c z.xs q hw.2 hw.1 hq0 hq1 w (rd_OpZ hr) (rx_OpZ hr)
theorem eq_OpZ (y z : Y_OpZ) (hc : co_OpZ y = co_OpZ z) (hf : wt_OpZ (co_OpZ y) ≤ 1125899906842624) (w : World) (hr : RowsRd w w.heap.size (rw_OpZ y)) (hr2 : RowsRd w w.heap.size (rw_OpZ z)) : Calls Try.prog 55 #[vv_OpZ y, vv_OpZ z] w fun e w' => e = .returned (.bool true) ∧ Below w.heap.size w w' :=
 eq_OpS y.a z.a y.c z.c y.xs z.xs hc hf w (rd_OpZ hr) (rx_OpZ hr) (rd_OpZ hr2) (rx_OpZ hr2)
theorem mark_OpZ {W w : World} {rs : List Res} (h : Sl.Sep W w rs) (i : Nat) {z : Y_OpZ} (hi : rs[i]? = some (bag (rw_OpZ z))) (k : Int) (hf : wt_OpZ (co_OpZ z) ≤ 1125899906842624) (hk0 : 0 < k) (hk1 : k + (ct_OpZ z : Int) ≤ 2305843009213693952) :
  Calls Try.prog 56 #[vv_OpZ z, .int .i64 k] w fun e w' => e = .returned (.int .i64 (k + (ct_OpZ z : Int))) ∧ Sl.Sep W w' (rs.set i (bag (rw_OpZ (md_OpZ k z)))) :=
 mark_OpS h i hi k hf hk0 hk1
end Go.Proofs.Ytojcdmgcbgpdmaa.V

namespace Go.Proofs.Ytojcdmgcbgpdmaa.L9
open V L6
open L4 (K isK cmpK)
open L5 (F isR isN Small)
open Go.ChangeShapes Go.WideShapes Go.ChangeAt Go.RowKit Mem Sl Ex L2 Sv Bag

theorem fitR_wt {l : List F} (h : wt_Record l ≤ 1048576) : l.length ≤ 1048576 ∧ Small l := by
 have h1 : l.length ≤ wt_Record l := wsum_len wt_Field l
 refine ⟨by omega, fun f hf => ?_⟩
 have h2 : wt_Field f + 1 ≤ wt_Record l := wsum_mem hf
 have h3 : wt_Field f = f.name.size := rfl
 omega
theorem fitO_wt {o : X_Op} (h : wt_Op o ≤ 1048576) : FitO o := by
 have h1 : wt_Op o = o.f_Store.size + (o.f_Key.text.size + (wt_Record o.f_Record + o.f_Field.size)) := rfl
 obtain ⟨h2, h3⟩ := fitR_wt (l := o.f_Record) (by omega)
 exact ⟨by omega, by omega, h2, h3, by omega⟩
theorem fitOs_wt {l : List X_Op} (h : wsum wt_Op l ≤ 1048576) : l.length ≤ 1048576 ∧ ∀ o ∈ l, FitO o := by
 have h1 := wsum_len wt_Op l
 refine ⟨by omega, fun o ho => fitO_wt ?_⟩
 have h2 : wt_Op o + 1 ≤ wsum wt_Op l := wsum_mem ho
 omega
theorem fitZ {z : Y_OpZ} (h : wt_OpZ (co_OpZ z) ≤ 1048576) : z.xs.length ≤ 1048576 ∧ ∀ o ∈ coS_Op z.xs, FitO o := by
 obtain ⟨h1, h2⟩ := fitOs_wt (l := coS_Op z.xs) h
 exact ⟨by rwa [coS_len] at h1, h2⟩
end Go.Proofs.Ytojcdmgcbgpdmaa.L9

namespace Go.Proofs.Ytojcdmgcbgpdmaa.L10
open V L6 L9
open Go.ChangeShapes Go.WideShapes Go.ChangeAt Go.RowKit Mem Sl Sv Bag

theorem fitI_wt {x : It} (h : wt_Item x ≤ 1048576) : FitI x := by
 have h1 : wt_Item x = x.k.text.size + wt_Record x.l := rfl
 obtain ⟨h2, h3⟩ := fitR_wt (l := x.l) (by omega)
 exact ⟨by omega, h2, h3⟩
theorem fitS_wt {s : S6} (h : wt_Store s ≤ 1048576) : FitS s := by
 have h1 : wt_Store s = s.name.size + wsum wt_Item s.items := rfl
 have h2 := wsum_len wt_Item s.items
 refine ⟨by omega, by omega, fun x hx => fitI_wt ?_⟩
 have h3 : wt_Item x + 1 ≤ wsum wt_Item s.items := wsum_mem hx
 omega
theorem fitT_wt {t : X_Tx} (h : wt_Tx t ≤ 1048576) : FitT t := by
 have h1 : wt_Tx t = wsum wt_Op t.f_Ops + wsum wt_Store t.f_Backup := rfl
 have h2 := fitOs_wt (l := t.f_Ops) (by omega)
 have h3 := wsum_len wt_Store t.f_Backup
 refine ⟨h2.2, h2.1, fun s hs => fitS_wt ?_, by omega⟩
 have h4 : wt_Store s + 1 ≤ wsum wt_Store t.f_Backup := wsum_mem hs
 omega
theorem fitQ_wt {z : Y_TxQueue} (h : wt_TxQueue (co_TxQueue z) ≤ 1048576) : z.f_Txs.length ≤ 1048576 ∧ ∀ t ∈ coS_Tx z.f_Txs, FitT t := by
 have h1 : wt_TxQueue (co_TxQueue z) = wsum wt_Tx (coS_Tx z.f_Txs) := rfl
 have h2 := wsum_len wt_Tx (coS_Tx z.f_Txs)
 rw [coT_len] at h2
 refine ⟨by omega, fun t ht => fitT_wt ?_⟩
 have h4 : wt_Tx t + 1 ≤ wsum wt_Tx (coS_Tx z.f_Txs) := wsum_mem ht
 omega
theorem wsum_snoc {α : Type} (f : α → Nat) (xs : List α) (x : α) : wsum f (xs ++ [x]) = wsum f xs + f x + 1 := by
 unfold wsum
 rw [List.length_append, fsum_app, fsum_cons, fsum_nil]
 show xs.length + 1 + (fsum f xs + (f x + 0)) = _
 omega
theorem new_wt (q : List X_Tx) (ops : List X_Op) : wsum wt_Tx (newX q ops) ≤ wsum wt_Tx q + wsum wt_Op ops + 1 := by
 unfold newX
 split
 ·
  rw [wsum_snoc]
  have h : wt_Tx ⟨idQ q, ops, 0, 0, []⟩ = wsum wt_Op ops + wsum wt_Store [] := rfl
  have h2 : wsum wt_Store [] = 0 := rfl
  omega
 ·
  omega
end Go.Proofs.Ytojcdmgcbgpdmaa.L10

namespace Go.Proofs.Ytojcdmgcbgpdmaa.L10
open V L6 L9
open Go.ChangeShapes Go.WideShapes Go.ChangeAt Go.RowKit Mem Sl Sv Bag
theorem new_no {q : List X_Tx} {ops : List X_Op} (h : newB q ops = false) : newX q ops = q ∧ newN q ops = 0 ∧ newB q ops = false := by
 unfold newX newN
 rw [h]
 exact ⟨rfl, rfl, rfl⟩
theorem new_yes {q : List X_Tx} {ops : List X_Op} (h : newB q ops = true) : newX q ops = q ++ [⟨idQ q, ops, 0, 0, []⟩] ∧ newN q ops = idQ q ∧ newB q ops = true := by
 unfold newX newN
 rw [h]
 exact ⟨rfl, rfl, rfl⟩
theorem new_bad {q : List X_Tx} {ops : List X_Op} (h : okL ops = false) : newB q ops = false := by unfold newB; rw [h, Bool.and_false]
theorem okL_long {l : List X_Op} (h : ¬ l.length ≤ 6) : okL l = false := by unfold okL; rw [decide_eq_false h]; rfl
theorem okL_out {l : List X_Op} {k : Nat} {o : X_Op} (h : l[k]? = some o) (hb : isO o = false) : okL l = false := by
 cases hc : okL l with
 | false => rfl
 | true =>
  have h1 := (okL_parts hc).2 o (List.mem_of_getElem? h)
  rw [hb] at h1
  cases h1
theorem okL_all {l : List X_Op} (h : l.length ≤ 6) (ha : ∀ k (hk : k < l.length), isO l[k] = true) : okL l = true := by
 unfold okL
 rw [decide_eq_true h, Bool.true_and, List.all_eq_true]
 intro o ho
 obtain ⟨k, hk, rfl⟩ := List.mem_iff_getElem.1 ho
 exact ha k hk
theorem idQ_none {q : List X_Tx} (h : q.length = 0) : idQ q = 1 := by
 obtain rfl : q = [] := List.eq_nil_of_length_eq_zero h
 rfl
theorem idQ_last {q : List X_Tx} {m : Nat} {t : X_Tx} (h : q[m]? = some t) (hl : q.length = m + 1) : idQ q = IntKind.i64.wrap (t.f_Id + 1) := by
 unfold idQ
 rw [List.getLast?_eq_getElem?, hl, Nat.add_sub_cancel, h]
def GaveQNB (w : World) (l : List X_Tx) (n : Int) (b : Bool) (e : Ending) (w' : World) : Prop :=
 ∃ (a : Option Addr) (c : Nat) (ys : List Y_Tx), e = .returned (.tuple #[.agg #[.slice a ys.length c], .int .i64 n, .bool b]) ∧ coS_Tx ys = l ∧ BagOwn w' w.heap.size (rs_Tx a c ys) ∧ Below w.heap.size w w'
end Go.Proofs.Ytojcdmgcbgpdmaa.L10

namespace Go.Proofs.Ytojcdmgcbgpdmaa.Reg
section
variable {P : Program} {ops : Array Oper} {Q : Exit → Act → World → Prop} {md : Region.Mode} {S0 S1 : World → Prop} {q : Nat}
def Tier (S0 S1 : World → Prop) (q : Nat) (listed : Array Bool) (i : Nat) (w : World) : Prop := S0 w ∧ (i ≠ q → listed.getD q true = false → S1 w)
def anyL (P : Program) (md : Region.Mode) (ops : Array Oper) (Q : Exit → Act → World → Prop) (S0 S1 : World → Prop) (q : Nat) : Nat → Array Bool → Act → World → Prop
 | 0, L, a, w => Region.ready md ops L = [] ∧ Q .normal a w
 | n + 1, L, a, w => (Region.ready md ops L = [] → Q .normal a w) ∧ ∀ i, i ∈ Region.ready md ops L → wpOp P ops Q i (fun a' w' => Tier S0 S1 q L i w' ∧ anyL P md ops Q S0 S1 q n (L.setIfInBounds i true) a' w') a w
theorem anyL_plain : ∀ (n : Nat) (L : Array Bool) (a : Act) (w : World), anyL P md ops Q S0 S1 q n L a w → wpAny P md ops Q n L a w
 | 0, _, _, _, h => h
 | n + 1, _, _, _, h => ⟨h.1, fun i hi => wpOp_mono (fun a' w' h' => anyL_plain n _ a' w' h'.2) (h.2 i hi)⟩
theorem anyL_first {i : Nat} {oi : Oper} {v : Value} {T : World → Prop} (hi : ops[i]? = some oi) (hsel : ∀ (j : Nat) (o : Oper) cs b, ops[j]? = some o → o.op ≠ .select cs b) (hQ : ∀ c a w, Q (.panic c) (a.put oi.dst v) w → Q (.panic c) a w)
  (hiq : i ≠ q)
  (hT : (∀ w, S0 w → T w) ∨ ((∀ w, S0 w → S1 w → T w) ∧ ∃ oq, ops[q]? = some oq ∧ ∃ e ∈ oq.after, Region.binds md e = true ∧ e.on = i)) :
  ∀ (n : Nat) (L : Array Bool) (a : Act) (w : World), ((∀ w, S0 w → T w) ∨ L.getD q true = false) →
   (∀ j oj, ops[j]? = some oj → j ≠ i → L.getD j true = false → (∀ e ∈ oj.after, Region.binds md e = true → e.on ≠ i) → oi.apart ops oj = true) →
   i ∈ Region.ready md ops L → YieldsIf P ops T oi v a → (S0 w ∧ (L.getD q true = false → S1 w)) →
   anyL P md ops Q S0 S1 q n (L.setIfInBounds i true) (a.put oi.dst v) w → anyL P md ops Q S0 S1 q (n + 1) L a w := by
 have hTw : ∀ (L : Array Bool) (w : World), ((∀ w, S0 w → T w) ∨ L.getD q true = false) → S0 w → (L.getD q true = false → S1 w) → T w := fun L w hL h0 h1 => by
  rcases hT with h | ⟨h, _⟩
  ·
   exact h w h0
  ·
   rcases hL with h2 | h2
   ·
    exact h2 w h0
   ·
    exact h w h0 (h1 h2)
 intro n
 induction n with
 | zero =>
  intro L a w hL hfree hr hy hS H
  refine ⟨fun h => (by rw [h] at hr; cases hr), fun j hj => ?_⟩
  by_cases hji : j = i
  ·
   subst hji
   exact hy.wpOp hi (hTw L w hL hS.1 hS.2) ⟨⟨hS.1, fun _ => hS.2⟩, H⟩
  ·
   have := ready_mono hj hji
   rw [H.1] at this
   cases this
 | succ n ih =>
  intro L a w hL hfree hr hy hS H
  refine ⟨fun h => (by rw [h] at hr; cases hr), fun j hj => ?_⟩
  by_cases hji : j = i
  ·
   subst hji
   exact hy.wpOp hi (hTw L w hL hS.1 hS.2) ⟨⟨hS.1, fun _ => hS.2⟩, H⟩
  ·
   have h1 := H.2 j (ready_mono hj hji)
   obtain ⟨hjun, oj, hoj, hall⟩ := mem_ready.1 hj
   have hnot : ∀ e ∈ oj.after, Region.binds md e = true → e.on ≠ i := fun e he hb heq => by
    have g1 := hall e he hb
    have g0 := (mem_ready.1 hr).1
    rw [heq] at g1
    rcases Nat.lt_or_ge i L.size with h' | h'
    ·
     simp [h'] at g0 g1; rw [g0] at g1; cases g1
    ·
     simp [Array.getElem?_eq_none h'] at g1
   have h2 := wpOp_putIf hoj (hfree j oj hoj hji hjun hnot) (fun cs b => hsel i oi cs b hi) (fun cs b => hsel j oj cs b hoj) hQ hy h1
   have hfree' : ∀ k ok, ops[k]? = some ok → k ≠ i → (L.setIfInBounds j true).getD k true = false → (∀ e ∈ ok.after, Region.binds md e = true → e.on ≠ i) → oi.apart ops ok = true := fun k ok hk hki hun hno => by
    refine hfree k ok hk hki ?_ hno
    by_cases hjk : j = k
    ·
     subst hjk; exact hjun
    ·
     rw [getD_set_ne true hjk] at hun; exact hun
   -- the late one is not j, where it waits for i
   have hL' : (∀ w, S0 w → T w) ∨ (L.setIfInBounds j true).getD q true = false := by
    rcases hT with h | ⟨_, oq, hoq, e, he, hb, hei⟩
    ·
     exact .inl h
    ·
     rcases hL with h | h
     ·
      exact .inl h
     ·
      by_cases hjq : j = q
      ·
       subst hjq
       rw [hoj] at hoq
       injection hoq with hoq
       subst hoq
       exact absurd hei (hnot e he hb)
      ·
       exact .inr (by rw [getD_set_ne true hjq]; exact h)
   refine wpOp_mono (fun a' w' h3 => ?_) h2
   obtain ⟨hy', ⟨t0, t1⟩, hrest⟩ := h3
   have hS' : S0 w' ∧ ((L.setIfInBounds j true).getD q true = false → S1 w') := ⟨t0, fun hq => by
    by_cases hjq : j = q
    ·
     subst hjq
     rcases Nat.lt_or_ge j L.size with h' | h'
     ·
      simp [h'] at hq
     ·
      simp at hq
    ·
     rw [getD_set_ne true hjq] at hq
     exact t1 hjq (by rw [getD_set_ne true hiq]; exact hq)⟩
   refine ⟨⟨t0, fun hjq hq => ?_⟩, ih (L.setIfInBounds j true) a' w' hL' hfree' (ready_mono hr (Ne.symm hji)) hy' hS' ?_⟩
   ·
    exact hS'.2 (by rw [getD_set_ne true hjq]; exact hq)
   ·
    rw [Array.setIfInBounds_comm _ _ hji]
    exact hrest
theorem wp_region_late {id : Nat} {a : Act} {w : World} (S0 S1 : World → Prop) (q : Nat) (hm : P.follows .mixedOrders = true) (h0 : S0 w.drew) (h1 : S1 w.drew)
  (h : S0 w.drew → S1 w.drew → anyL P .any ops Q S0 S1 q ops.size (Array.replicate ops.size false) a w.drew) : (Code.region id ops true).wp P Q a w :=
 wp_region_any hm (anyL_plain _ _ _ _ (h h0 h1))
end
section
variable {P : Program} {l : List Oper} {Q : Exit → Act → World → Prop} {md : Region.Mode} {S0 S1 : World → Prop} {q fuel i : Nat} {oi : Oper} {v : Value} {listed : Array Bool} {a : Act} {w : World}
def waits (md : Region.Mode) (l : List Oper) (q i : Nat) : Bool := match nthO q l with
 | none => false
 | some o => o.after.any fun e => Region.binds md e && e.on == i
theorem early_op (hi : nthO i l = some oi) (hs : Region.noSelect l.toArray = true) (hf : Region.free md l.toArray listed i = true) (hr : (Region.ready md l.toArray listed).contains i = true) (hiq : (i == q) = false) (hq : waits md l q i = true) (hl : listed.getD q true = false)
  (hQ : ∀ c a w, Q (.panic c) (a.put oi.dst v) w → Q (.panic c) a w) (hw : Region.wanted oi (yielded l.toArray a.tmps) = true) (hy : ∀ w, S0 w → S1 w → (execOp a.eval oi).run P w = .ok (.value v) w) (h0 : S0 w) (h1 : S1 w)
  (h : anyL P md l.toArray Q S0 S1 q fuel (listed.setIfInBounds i true) (a.put oi.dst v) w) : anyL P md l.toArray Q S0 S1 q (fuel + 1) listed a w := by
 refine anyL_first (T := fun w => S0 w ∧ S1 w) (by rw [nthO_eq]; exact hi) (Region.noSelect_spec hs) hQ (by simpa using hiq) (.inr ⟨fun w a b => ⟨a, b⟩, ?_⟩) fuel listed a w (.inr hl) (Region.free_spec (by rw [nthO_eq]; exact hi) hf) (by simpa using hr) (.inl ⟨hw, fun w hh => hy w hh.1 hh.2⟩) ⟨h0, fun _ => h1⟩ h
 unfold waits at hq
 cases ho : nthO q l with
 | none => rw [ho] at hq; cases hq
 | some o =>
  rw [ho] at hq
  simp only [Array.any_eq_true, Bool.and_eq_true, beq_iff_eq] at hq
  obtain ⟨j, hj, h2, h3⟩ := hq
  exact ⟨o, by rw [nthO_eq]; exact ho, _, Array.getElem_mem hj, h2, h3⟩
theorem only_op (hi : nthO i l = some oi) (hr : Region.ready md l.toArray listed = [i])
  (h : ∀ K' : Act → World → Prop, Shut (∀ a w, S0 w → S1 w → (S0 w → S1 w → anyL P md l.toArray Q S0 S1 q fuel (listed.setIfInBounds i true) a w) → K' a w) → if Region.wanted oi (yielded l.toArray a.tmps) = true then Oper.wp P oi a w K' Q else K' (a.put oi.dst undef) w) :
  anyL P md l.toArray Q S0 S1 q (fuel + 1) listed a w := by
 refine ⟨fun h0 => (by rw [hr] at h0; cases h0), fun j hj => ?_⟩
 rw [hr] at hj
 obtain rfl := List.mem_singleton.1 hj
 exact wpOp_step (by rw [nthO_eq]; exact hi) (fun K' hK => h K' (fun a w h0 h1 hW => hK a w ⟨⟨h0, fun _ _ => h1⟩, hW h0 h1⟩))
theorem late_op (hi : nthO i l = some oi) (hr : Region.ready md l.toArray listed = [i]) (hiq : (i == q) = true)
  (h : ∀ K' : Act → World → Prop, Shut (∀ a w, S0 w → (S0 w → anyL P md l.toArray Q S0 S1 q fuel (listed.setIfInBounds i true) a w) → K' a w) → if Region.wanted oi (yielded l.toArray a.tmps) = true then Oper.wp P oi a w K' Q else K' (a.put oi.dst undef) w) :
  anyL P md l.toArray Q S0 S1 q (fuel + 1) listed a w := by
 refine ⟨fun h0 => (by rw [hr] at h0; cases h0), fun j hj => ?_⟩
 rw [hr] at hj
 obtain rfl := List.mem_singleton.1 hj
 exact wpOp_step (by rw [nthO_eq]; exact hi) (fun K' hK => h K' (fun a w h0 hW => hK a w ⟨⟨h0, fun hn => absurd (by simpa using hiq) hn⟩, hW h0⟩))
theorem anyL_done {l : Array Oper} {listed : Array Bool} {a : Act} {w : World} (hr : Region.ready md l listed = []) (h : Q .normal a w) : ∀ fuel, anyL P md l Q S0 S1 q fuel listed a w
 | 0 => ⟨hr, h⟩
 | _ + 1 => ⟨fun _ => h, by rw [hr]; simp⟩
end
end Go.Proofs.Ytojcdmgcbgpdmaa.Reg

set_option linter.unusedSimpArgs false
namespace Go.Proofs.Ytojcdmgcbgpdmaa.L6
open L4 (K isK cmpK R inR encU)
open L5 (F isR isN cellsF encR eqR Small)
open Go.ChangeShapes Go.WideShapes Go.ChangeAt Go.RowKit Mem Sl Ex L2 Sv Bag

set_option maxHeartbeats 2000000 in
theorem l6Item_any (kd n : Int) (s : ByteArray) (a : Option Addr) (c : Nat) (l : List F) (hl : l.length ≤ 1048576) (w : World) (hr : Reads w w.heap.size a (cellsF l)) :
  Calls Try.prog 123 #[.agg #[.int .i64 kd, .int .i64 n, .string s, .slice a l.length c]] w (GaveI w ⟨⟨kd, n, s⟩, l⟩) := by
 have HC := Lib.hid (fun w' (h : Below w.heap.size w w') => L5.l5Copy_any a c l (by have := hl; omega) w' ((hr.below h).more h.size))
 obtain ⟨N, hN⟩ : ∃ n, n = l.length := ⟨_, rfl⟩
 rw [← hN] at HC ⊢
 have HN := Lib.hid hN
 clear hN hr hl
 have S1 := Lib.hid (show Sl.Sep w _ [_, _] from L4.push_box (L4.push_box (Sl.Sep.start w) 40 #[.int .i64 kd, .int .i64 n, .string s, .slice a N c] (w.heap.size) (by simp)) 40 #[.int .i64 0, .int .i64 0, .string ⟨#[]⟩, .slice none 0 0] (w.heap.size + 1) (by simp))
 obtain ⟨wa, hwa⟩ : ∃ u, u = ((w.alloc (.cells #[.int .i64 kd, .int .i64 n, .string s, .slice a N c] 40)).alloc (.cells #[.int .i64 0, .int .i64 0, .string ⟨#[]⟩, .slice none 0 0] 40)) := ⟨_, rfl⟩
 rw [← hwa] at S1
 go_enter Try.func123, Try.ntmps123
 go_upto_region 1 with fail
 rw [← hwa]
 clear hwa
 go_upto_region 1 with fail
 refine wp_region_held_drew (S := (fun w' => (w'.cell? ⟨w.heap.size, 0, none⟩ = some (.int .i64 kd) ∧ w'.cell? ⟨w.heap.size, 1, none⟩ = some (.int .i64 n) ∧ w'.cell? ⟨w.heap.size, 2, none⟩ = some (.string s) ∧ w'.cell? ⟨w.heap.size, 3, none⟩ = some (.slice a N c)))) (by kernel_rfl) (Bag.cs4 (Bag.drew1 S1.out) 0 rfl) (fun hS => ?_)
 have S2 := Lib.hid (Bag.drew1 S1.out)
 clear S1
 generalize World.drew _ = w1 at hS S2 ⊢
 refine tk 0 rfl ?_
 try simp only [zp0, zp1, zp2, zp3, zp4]
 refine tk 1 rfl ?_
 try simp only [zp0, zp1, zp2, zp3, zp4]
 refine tk 2 rfl ?_
 try simp only [zp0, zp1, zp2, zp3, zp4]
 refine tk 3 rfl ?_
 try simp only [zp0, zp1, zp2, zp3, zp4]
 refine Reg.one_op (i := 4) rfl (by kernel_rfl) (fun K hK => ?_)
 go_simp
 go_at_call 89
 refine (HC.out _ S2.out.old).mono ?_
 rintro e w2 ⟨a1, c1, rfl, ho, hb⟩
 have S3 := Lib.hid (show Sl.Sep w _ [_, _, Sv.ownV 128 2 a1 c1 N (cellsF l)] from Sv.push_own S2.out hb ho)
 clear S2
 clear hb ho
 go_wp2_with fail
 refine hK.out _ _ (Bag.cs4 S3.out 0 rfl) (fun hS => ?_)
 clear hK K
 try simp only [zp0, zp1, zp2, zp3, zp4]
 refine tk 5 rfl ?_
 try simp only [zp0, zp1, zp2, zp3, zp4]
 refine Reg.one_op (i := 6) rfl (by kernel_rfl) (fun K hK => ?_)
 obtain ⟨f0, f1, f2, f3⟩ := Bag.cs4 S3.out 1 rfl
 obtain ⟨z0, z1, z2, z3⟩ := Bag.fs4 S3.out 1 rfl
 go_simp
 clear f0 f1 f2 f3 z0 z1 z2 z3
 have S4 := Lib.hid (show Sl.Sep w _ [_, L4.boxR (w.heap.size + 1) 40 #[.int .i64 kd, .int .i64 n, .string s, .slice a1 N c1], _] from L5.put_box5 (L5.put_box5 (L5.put_box5 (L5.put_box5 (S3.out) 1 rfl 0 (.int .i64 kd)) 1 rfl 1 (.int .i64 n)) 1 rfl 2 (.string s)) 1 rfl 3 (.slice a1 N c1))
 clear S3
 refine hK.out _ _ (Bag.cs4 S4.out 0 rfl) (fun hS => ?_)
 clear hK K
 try simp only [zp0, zp1, zp2, zp3, zp4]
 refine wpAnyH_done (by kernel_rfl) ?_ _
 obtain ⟨f0, f1, f2, f3⟩ := Bag.cs4 S4.out 0 rfl
 obtain ⟨f4, f5, f6, f7⟩ := Bag.cs4 S4.out 1 rfl
 go_wp2_with fail
 refine bodyPost_ret (v := .agg #[.int .i64 kd, .int .i64 n, .string s, .slice a1 N c1]) (by simp [results, Try.results123, go_sem, *]) rfl ?_
 have hb := Bag.bag_from (Bag.bag_of_one S4.out 2 (r := (LI.mk ⟨kd, n, s⟩ a1 c1 l).row) (by show some _ = some _; rw [HN.out]; rfl)) 2 rfl
 exact ⟨a1, c1, by rw [HN.out], hb, S4.out.old⟩
theorem infoItem : (Try.prog.info? 40).map (fun i => (i.zero, i.size, i.bytes)) = some (some (.agg #[.int .i64 0, .int .i64 0, .string ⟨#[]⟩, .slice none 0 0]), 4, 56) := by kernel_rfl
theorem itemInfo : ∃ i, Try.prog.info? 40 = some i ∧ i.zero = some (.agg #[.int .i64 0, .int .i64 0, .string ⟨#[]⟩, .slice none 0 0]) ∧ i.size = 4 ∧ i.bytes = 56 := by
 have h := infoItem
 rw [Option.map_eq_some_iff] at h
 obtain ⟨i, h1, h2⟩ := h
 simp only [Prod.mk.injEq] at h2
 exact ⟨i, h1, h2⟩
theorem readsI_at {w : World} {B : Nat} {ad : Addr} {xs : List LI} (h : Reads w B (some ad) (cellsI xs)) (j : Nat) (x : LI) (hx : xs[j]? = some x) :
  w.cell? (ad.add (j * 4)) = some (.int .i64 x.k.kind) ∧ w.cell? ⟨(ad.add (j * 4)).block, (ad.add (j * 4)).off + 1, none⟩ = some (.int .i64 x.k.n) ∧ w.cell? ⟨(ad.add (j * 4)).block, (ad.add (j * 4)).off + 2, none⟩ = some (.string x.k.text) ∧ w.cell? ⟨(ad.add (j * 4)).block, (ad.add (j * 4)).off + 3, none⟩ = some (.slice x.a x.l.length x.c) := by
 obtain ⟨hj, rfl⟩ := List.getElem?_eq_some_iff.1 hx
 obtain ⟨ad', e, _, h1⟩ := readsI h j hj
 injection e with e
 subst e
 exact h1
theorem readsI_some {w : World} {B : Nat} {a : Option Addr} {xs : List LI} (h : Reads w B a (cellsI xs)) (j : Nat) (hj : j < xs.length) : ∃ ad x, a = some ad ∧ xs[j]? = some x := by
 obtain ⟨ad, e, _⟩ := readsI h j hj
 exact ⟨ad, _, e, List.getElem?_eq_getElem hj⟩
theorem conI_take {xs : List LI} {j : Nat} {x : LI} (hx : xs[j]? = some x) : (conI xs).take (j + 1) = (conI xs).take j ++ [x.con] := by
 obtain ⟨hj, rfl⟩ := List.getElem?_eq_some_iff.1 hx
 rw [List.take_succ_eq_append_getElem (by simpa using hj), conI_get _ _ hj]
theorem rowsI_mem {xs : List LI} {j : Nat} {x : LI} (hx : xs[j]? = some x) : x.row ∈ rowsI xs := by
 obtain ⟨hj, rfl⟩ := List.getElem?_eq_some_iff.1 hx
 exact rowsI_at xs j hj
theorem fit_at {xs : List LI} {j : Nat} {x : LI} (h : ∀ y ∈ conI xs, FitI y) (hx : xs[j]? = some x) : FitI x.con := by
 obtain ⟨hj, rfl⟩ := List.getElem?_eq_some_iff.1 hx
 exact h _ (List.mem_map.2 ⟨_, List.getElem_mem hj, rfl⟩)
set_option maxHeartbeats 4000000 in
theorem l6Copy_any (y : LS) (hf : FitS y.con) (w : World) (hr : RowsRd w w.heap.size y.rows) :
  Calls Try.prog 87 #[y.v] w (GaveS w y.con) := by
 obtain ⟨i0, hi1, hi2, hi3, hi4⟩ := itemInfo
 have HI := Lib.hid (And.intro hi1 (And.intro hi2 (And.intro hi3 hi4)))
 clear hi1 hi2 hi3 hi4
 obtain ⟨name, a, c, xs, auto⟩ := y
 have HR := Lib.hid (fun w' (h : Below w.heap.size w w') => LS.outer (hr.below h))
 have HX := Lib.hid (fun w' (h : Below w.heap.size w w') => (LS.inner (hr.below h)).more h.size)
 have HF := Lib.hid hf.items
 have hl := hf.len
 simp only [LS.con, conI_length] at hl
 unfold LS.v LS.cells LS.con
 dsimp only at HR HX HF hl ⊢
 obtain ⟨N, hN⟩ : ∃ n, n = xs.length := ⟨_, rfl⟩
 rw [← hN] at hl ⊢
 have hl' : (N : Int) ≤ 1048576 := by omega
 have HN := Lib.hid hN
 clear hN hr hf
 have S1 := Lib.hid (show Sl.Sep w _ [_, _] from L4.push_box (L4.push_box (Sl.Sep.start w) 26 #[.string name, .slice a N c, .int .i64 auto] (w.heap.size) (by simp)) 26 #[.string ⟨#[]⟩, .slice none 0 0, .int .i64 0] (w.heap.size + 1) (by simp))
 obtain ⟨wa, hwa⟩ : ∃ u, u = ((w.alloc (.cells #[.string name, .slice a N c, .int .i64 auto] 26)).alloc (.cells #[.string ⟨#[]⟩, .slice none 0 0, .int .i64 0] 26)) := ⟨_, rfl⟩
 rw [← hwa] at S1
 go_enter Try.func87, Try.ntmps87
 go_upto_region 1 with fail
 rw [← hwa]
 clear hwa
 obtain ⟨f0, f1, f2⟩ := Bag.cs3 S1.out 0 rfl
 obtain ⟨f3, f4, f5⟩ := Bag.cs3 S1.out 1 rfl
 go_upto_region 2 with fail
 clear f0 f1 f2 f3 f4 f5
 have S2 := Lib.hid (show Sl.Sep w _ [_, _, _] from L4.push_box S1.out 26 #[.string name, .slice none 0 0, .int .i64 auto] wa.heap.size rfl)
 clear S1
 obtain ⟨g1, hg⟩ : ∃ g', g' = wa.heap.size := ⟨_, rfl⟩
 rw [← hg] at S2 ⊢
 clear hg
 generalize wa.alloc (.cells #[.string name, .slice none 0 0, .int .i64 auto] 26) = w1 at S2 ⊢
 have S3 := Lib.hid (show Sl.Sep w _ [_, _, L4.boxR g1 26 #[.string name, .slice none 0 0, .int .i64 auto], Sv.ownV 40 4 none 0 0 (cellsI [])] from Sv.push_own S2.out (Below.refl _ _) (OwnV.nil _ _ _ _))
 clear S2
 have S4 := Lib.hid (show Sl.Sep w _ [_, _, _, _, Bag.bag (rowsI [])] from Bag.push_bag S3.out (Below.refl _ _) (Bag.BagOwn.nil _ _))
 clear S3
 go_wp2_with fail
 go_loopw [4] (fun i wr => ∃ (k : Nat) (A : Option Addr) (C : Nat) (ys : List LI), k ≤ N ∧ i = .int .i64 k ∧ Hid (conI ys = (conI xs).take k ∧ Sl.Sep w wr [L4.boxR w.heap.size 26 #[.string name, .slice a N c, .int .i64 auto], L4.boxR (w.heap.size + 1) 26 #[.string ⟨#[]⟩, .slice none 0 0, .int .i64 0], L4.boxR g1 26 #[.string name, .slice A k C, .int .i64 auto], Sv.ownV 40 4 A C k (cellsI ys), Bag.bag (rowsI ys)])) (fun i _ => N - (intOf i).toNat)
 case atStart => exact ⟨0, none, 0, [], Nat.zero_le _, rfl, rfl, S4.out⟩
 case round =>
  obtain ⟨k, A, C, ys, hk, rfl, hrel⟩ := hrel
  have HC := Lib.hid hrel.out.1
  have S5 := Lib.hid hrel.out.2
  clear hrel S4
  by_cases hlt : (k : Int) < (N : Int)
  ·
   skip
   have hkl : k < xs.length := by have := HN.out; omega
   obtain ⟨ad, x, rfl, hx⟩ := readsI_some (HR.out _ S5.out.old) k hkl
   obtain ⟨⟨kd, n, t⟩, ia, ic, l⟩ := x
   have HK := Lib.hid (fun w' (h : Below w.heap.size w w') => readsI_at (HR.out _ h) k _ hx)
   try dsimp only at HK
   have HCI := Lib.hid (fun w' (h : Below w.heap.size w w') => l6Item_any kd n t ia ic l (fit_at HF.out hx).len w' (((HX.out _ h).at_ (rowsI_mem hx)).reads))
   try dsimp only at HCI
   have HT := Lib.hid (conI_take hx)
   clear hx
   obtain ⟨f0, f1, f2⟩ := Bag.cs3 S5.out 0 rfl
   obtain ⟨f3, f4, f5⟩ := Bag.cs3 S5.out 1 rfl
   obtain ⟨f6, f7, f8⟩ := Bag.cs3 S5.out 2 rfl
   obtain ⟨f9, f10, f11, f12⟩ := HK.out _ S5.out.old
   go_upto_region 5 with fail
   clear f0 f1 f2 f3 f4 f5 f6 f7 f8 f9 f10 f11 f12
   refine Reg.wp_region_late (fun w' => (w'.cell? ⟨w.heap.size, 0, none⟩ = some (.string name) ∧ w'.cell? ⟨w.heap.size, 1, none⟩ = some (.slice (some ad) N c) ∧ w'.cell? ⟨w.heap.size, 2, none⟩ = some (.int .i64 auto)) ∧ (w'.cell? (ad.add (k * 4)) = some (.int .i64 kd) ∧ w'.cell? (⟨(ad.add (k * 4)).block, (ad.add (k * 4)).off + 1, none⟩) = some (.int .i64 n) ∧ w'.cell? (⟨(ad.add (k * 4)).block, (ad.add (k * 4)).off + 2, none⟩) = some (.string t) ∧ w'.cell? (⟨(ad.add (k * 4)).block, (ad.add (k * 4)).off + 3, none⟩) = some (.slice ia l.length ic))) (fun w' => (w'.cell? ⟨g1, 0, none⟩ = some (.string name) ∧ w'.cell? ⟨g1, 1, none⟩ = some (.slice A k C) ∧ w'.cell? ⟨g1, 2, none⟩ = some (.int .i64 auto))) 11 (by kernel_rfl) ⟨Bag.cs3 (Bag.drew1 S5.out) 0 rfl, HK.out _ (Bag.drew1 S5.out).old⟩ (Bag.cs3 (Bag.drew1 S5.out) 2 rfl) (fun hS hL => ?_)
   have S6 := Lib.hid (Bag.drew1 S5.out)
   clear S5
   generalize World.drew _ = w2 at hS hL S6 ⊢
   refine Reg.early_op (i := 0) (v := ?_) rfl (by kernel_rfl) (by kernel_rfl) (by kernel_rfl) rfl (by kernel_rfl) (by kernel_rfl) (fun _ _ _ h => h) (by rfl) ?_ hS hL ?_
   rotate_left
   ·
    (intro w hSw hSv; (try dsimp only at hSw); (try dsimp only at hSv); go_simp; try with_reducible rfl)
   try simp only [zp0, zp1, zp2, zp3, zp4]
   refine Reg.early_op (i := 1) (v := ?_) rfl (by kernel_rfl) (by kernel_rfl) (by kernel_rfl) rfl (by kernel_rfl) (by kernel_rfl) (fun _ _ _ h => h) (by rfl) ?_ hS hL ?_
   rotate_left
   ·
    (intro w hSw hSv; (try dsimp only at hSw); (try dsimp only at hSv); go_simp; try with_reducible rfl)
   try simp only [zp0, zp1, zp2, zp3, zp4]
   refine Reg.early_op (i := 2) (v := ?_) rfl (by kernel_rfl) (by kernel_rfl) (by kernel_rfl) rfl (by kernel_rfl) (by kernel_rfl) (fun _ _ _ h => h) (by rfl) ?_ hS hL ?_
   rotate_left
   ·
    (intro w hSw hSv; (try dsimp only at hSw); (try dsimp only at hSv); go_simp; try with_reducible rfl)
   try simp only [zp0, zp1, zp2, zp3, zp4]
   refine Reg.early_op (i := 3) (v := ?_) rfl (by kernel_rfl) (by kernel_rfl) (by kernel_rfl) rfl (by kernel_rfl) (by kernel_rfl) (fun _ _ _ h => h) (by rfl) ?_ hS hL ?_
   rotate_left
   ·
    (intro w hSw hSv; (try dsimp only at hSw); (try dsimp only at hSv); go_simp; try with_reducible rfl)
   try simp only [zp0, zp1, zp2, zp3, zp4]
   refine Reg.early_op (i := 4) (v := ?_) rfl (by kernel_rfl) (by kernel_rfl) (by kernel_rfl) rfl (by kernel_rfl) (by kernel_rfl) (fun _ _ _ h => h) (by rfl) ?_ hS hL ?_
   rotate_left
   ·
    (intro w hSw hSv; (try dsimp only at hSw); (try dsimp only at hSv); go_simp; try with_reducible rfl)
   try simp only [zp0, zp1, zp2, zp3, zp4]
   refine Reg.early_op (i := 5) (v := ?_) rfl (by kernel_rfl) (by kernel_rfl) (by kernel_rfl) rfl (by kernel_rfl) (by kernel_rfl) (fun _ _ _ h => h) (by rfl) ?_ hS hL ?_
   rotate_left
   ·
    (intro w hSw hSv; (try dsimp only at hSw); (try dsimp only at hSv); go_simp; try with_reducible rfl)
   try simp only [zp0, zp1, zp2, zp3, zp4]
   refine Reg.early_op (i := 6) (v := ?_) rfl (by kernel_rfl) (by kernel_rfl) (by kernel_rfl) rfl (by kernel_rfl) (by kernel_rfl) (fun _ _ _ h => h) (by rfl) ?_ hS hL ?_
   rotate_left
   ·
    (intro w hSw hSv; (try dsimp only at hSw); (try dsimp only at hSv); go_simp; try with_reducible rfl)
   try simp only [zp0, zp1, zp2, zp3, zp4]
   refine Reg.only_op (i := 7) rfl (by kernel_rfl) (fun K hK => ?_)
   go_simp
   go_at_call 123
   refine (HCI.out _ S6.out.old).mono ?_
   rintro e w3 ⟨a1, c1, rfl, ho, hb⟩
   have S7 := Lib.hid (show Sl.Sep w _ [_, _, _, _, _, Bag.bag ([(LI.mk ⟨kd, n, t⟩ a1 c1 l).row])] from Bag.push_bag S6.out hb ho)
   clear S6
   clear hb ho
   go_wp2_with fail
   clear hL
   refine hK.out _ _ ⟨Bag.cs3 S7.out 0 rfl, HK.out _ S7.out.old⟩ (Bag.cs3 S7.out 2 rfl) (fun hS hL => ?_)
   clear hK K
   try simp only [zp0, zp1, zp2, zp3, zp4]
   refine Reg.only_op (i := 8) rfl (by kernel_rfl) (fun K hK => ?_)
   go_simp
   have S8 := Lib.hid (show Sl.Sep w _ [_, _, _, _, _, _, Sv.ownV 40 4 (some ⟨w3.heap.size, 0, none⟩) 1 1 (cellsI [⟨⟨kd, n, t⟩, a1, c1, l⟩])] from Sv.push_own S7.out ((Below.refl _ _).alloc (Nat.le_refl _) _) (OwnV.madeAt w3 40 4 1 w3.heap.size #[.int .i64 kd, .int .i64 n, .string t, .slice a1 l.length c1] rfl (Nat.le_refl _) rfl (by decide)))
   clear S7
   obtain ⟨g2, hg⟩ : ∃ g', g' = w3.heap.size := ⟨_, rfl⟩
   rw [← hg] at S8 ⊢
   clear hg
   generalize w3.alloc (.cells #[.int .i64 kd, .int .i64 n, .string t, .slice a1 l.length c1] 40) = w4 at S8 ⊢
   clear hL
   refine hK.out _ _ ⟨Bag.cs3 S8.out 0 rfl, HK.out _ S8.out.old⟩ (Bag.cs3 S8.out 2 rfl) (fun hS hL => ?_)
   clear hK K
   try simp only [zp0, zp1, zp2, zp3, zp4]
   refine Reg.only_op (i := 9) rfl (by kernel_rfl) (fun K hK => ?_)
   refine Sv.step_append_s S8.out 3 rfl rfl _ _ 24 (by rfl) i0 (.agg #[.int .i64 0, .int .i64 0, .string ⟨#[]⟩, .slice none 0 0]) 56 Try.underlying24 HI.out.1 HI.out.2.1 HI.out.2.2.1 HI.out.2.2.2 rfl (by omega) _ (by rfl) rfl _ _ 1 _ _ (cellsI [⟨⟨kd, n, t⟩, a1, c1, l⟩]) (by rfl) rfl ((Sv.own_at S8.out 6 rfl).reads) rfl (cellsI_one _) (by unfold maxLen; omega) (by omega) ?_
   intro a3' c3' w5 hA
   have S9 := Lib.hid (show Sl.Sep w _ [_, _, _, Sv.ownV 40 4 a3' c3' (k + 1) (cellsI ys ++ (cellsI [⟨⟨kd, n, t⟩, a1, c1, l⟩])), _, _, Sv.ownV 40 4 (some ⟨g2, 0, none⟩) 1 1 (cellsI [⟨⟨kd, n, t⟩, a1, c1, l⟩])] from hA)
   clear S8
   clear hA
   clear hL
   refine hK.out _ _ ⟨Bag.cs3 S9.out 0 rfl, HK.out _ S9.out.old⟩ (Bag.cs3 S9.out 2 rfl) (fun hS hL => ?_)
   clear hK K
   try simp only [zp0, zp1, zp2, zp3, zp4]
   refine Reg.early_op (i := 10) (v := ?_) rfl (by kernel_rfl) (by kernel_rfl) (by kernel_rfl) rfl (by kernel_rfl) (by kernel_rfl) (fun _ _ _ h => h) (by rfl) ?_ hS hL ?_
   rotate_left
   ·
    (intro w hSw hSv; (try dsimp only at hSw); (try dsimp only at hSv); go_simp; try with_reducible rfl)
   try simp only [zp0, zp1, zp2, zp3, zp4]
   refine Reg.late_op (i := 11) rfl (by kernel_rfl) rfl (fun K hK => ?_)
   obtain ⟨f0, f1, f2⟩ := Bag.cs3 S9.out 2 rfl
   obtain ⟨z0, z1, z2⟩ := Bag.fs3 S9.out 2 rfl
   go_simp
   clear f0 f1 f2 z0 z1 z2
   have S10 := Lib.hid (show Sl.Sep w _ [_, _, L4.boxR g1 26 #[.string name, .slice a3' (k + 1) c3', .int .i64 auto], _, _, _, _] from L5.put_box5 (S9.out) 2 rfl 1 (.slice a3' (k + 1) c3'))
   clear S9
   refine hK.out _ _ ⟨Bag.cs3 S10.out 0 rfl, HK.out _ S10.out.old⟩ (fun hS => ?_)
   clear hL
   clear hK K
   try simp only [zp0, zp1, zp2, zp3, zp4]
   refine Reg.anyL_done (by kernel_rfl) ?_ _
   obtain ⟨f0, f1, f2⟩ := Bag.cs3 S10.out 0 rfl
   obtain ⟨f3, f4, f5⟩ := Bag.cs3 S10.out 1 rfl
   obtain ⟨f6, f7, f8⟩ := Bag.cs3 S10.out 2 rfl
   obtain ⟨f9, f10, f11, f12⟩ := HK.out _ S10.out.old
   clear f0 f1 f2 f3 f4 f5 f6 f7 f8 f9 f10 f11 f12
   have S11 := Lib.hid (show Sl.Sep w _ [_, _, _, _, Bag.bag (rowsI ys ++ ([(LI.mk ⟨kd, n, t⟩ a1 c1 l).row])), Bag.bag ([]), _] from Bag.bag_join S10.out 4 5 (by decide) rfl rfl)
   clear S10
   have S12 := Lib.hid (show Sl.Sep w _ [_, _, _, _, _] from Bag.take S11.out [0, 1, 2, 3, 4] (by rfl) (by decide))
   clear S11
   obtain ⟨f0, f1, f2⟩ := Bag.cs3 S12.out 0 rfl
   obtain ⟨f3, f4, f5⟩ := Bag.cs3 S12.out 1 rfl
   obtain ⟨f6, f7, f8⟩ := Bag.cs3 S12.out 2 rfl
   obtain ⟨f9, f10, f11, f12⟩ := HK.out _ S12.out.old
   go_wp2_with fail
   go_roundw
   case rel =>
    refine ⟨k + 1, a3', c3', ys ++ [⟨⟨kd, n, t⟩, a1, c1, l⟩], by omega, by go_num, And.intro ?_ ?_⟩
    ·
     rw [HT.out, ← HC.out]; exact List.map_append
    ·
     rw [cellsI_append, rowsI_append]; exact S12.out
   case measure => simp [intOf]; omega
  ·
   skip
   obtain ⟨f0, f1, f2⟩ := Bag.cs3 S5.out 0 rfl
   obtain ⟨f3, f4, f5⟩ := Bag.cs3 S5.out 1 rfl
   obtain ⟨f6, f7, f8⟩ := Bag.cs3 S5.out 2 rfl
   obtain ⟨z0, z1, z2⟩ := Bag.fs3 S5.out 1 rfl
   go_wp2_with fail
   clear f0 f1 f2 f3 f4 f5 f6 f7 f8 z0 z1 z2
   have S6 := Lib.hid (show Sl.Sep w _ [L4.boxR w.heap.size 26 #[.string name, .slice a N c, .int .i64 auto], L4.boxR (w.heap.size + 1) 26 #[.string name, .slice A k C, .int .i64 auto], L4.boxR g1 26 #[.string name, .slice A k C, .int .i64 auto], Sv.ownV 40 4 A C k (cellsI ys), Bag.bag (rowsI ys)] from L5.put_box5 (L5.put_box5 (L5.put_box5 (S5.out) 1 rfl 0 (.string name)) 1 rfl 1 (.slice A k C)) 1 rfl 2 (.int .i64 auto))
   clear S5
   obtain ⟨f0, f1, f2⟩ := Bag.cs3 S6.out 1 rfl
   obtain rfl : k = N := by omega
   refine bodyPost_ret (v := .agg #[.string name, .slice A k C, .int .i64 auto]) (by simp [results, Try.results87, go_sem, *]) rfl ?_
   have hlen : k = ys.length := by have h1 := congrArg List.length HC.out; have := HN.out; simp at h1; omega
   have hcon : conI ys = conI xs := by rw [HC.out, List.take_of_length_le (by have := HN.out; simp; omega)]
   subst hlen
   have S90 := Lib.hid (Bag.bag_of_one S6.out 3 (r := rowI A C ys) rfl)
   have S91 := Lib.hid (Bag.bag_join S90.out 3 4 (by decide) rfl rfl)
   exact ⟨⟨name, A, C, ys, auto⟩, rfl, by unfold LS.con; rw [hcon], Bag.bag_from S91.out 3 rfl, S91.out.old⟩
end Go.Proofs.Ytojcdmgcbgpdmaa.L6

namespace Go.Proofs.Ytojcdmgcbgpdmaa.L10
open V L6 L9
open L4 (K isK cmpK)
open L5 (F isR isN string_geq)
open Go.Op (bytesLess)
open Go.ChangeShapes Go.WideShapes Go.ChangeAt Go.RowKit Mem Sl Ex L2 Sv Bag

theorem infoC_Op : ∃ i, Try.prog.info? 148 = some i ∧ i.zero = some (.agg #[.int .i64 0, .string ⟨#[]⟩, .int .i64 0, .int .i64 0, .string ⟨#[]⟩, .slice none 0 0, .string ⟨#[]⟩]) ∧ i.size = 7 ∧ i.bytes = 96 := Ex.infoOf _ _ _ _ (by kernel_rfl)
theorem infoC_Store : ∃ i, Try.prog.info? 26 = some i ∧ i.zero = some (.agg #[.string ⟨#[]⟩, .slice none 0 0, .int .i64 0]) ∧ i.size = 3 ∧ i.bytes = 48 := Ex.infoOf _ _ _ _ (by kernel_rfl)
theorem infoC_Tx : ∃ i, Try.prog.info? 161 = some i ∧ i.zero = some (.agg #[.int .i64 0, .slice none 0 0, .int .i64 0, .int .i64 0, .slice none 0 0]) ∧ i.size = 5 ∧ i.bytes = 72 := Ex.infoOf _ _ _ _ (by kernel_rfl)
def GaveOps (w : World) (l : List X_Op) (e : Ending) (w' : World) : Prop :=
 ∃ (a : Option Addr) (c : Nat) (ys : List Y_Op), e = .returned (.slice a ys.length c) ∧ coS_Op ys = l ∧ BagOwn w' w.heap.size (rs_Op a c ys) ∧ Below w.heap.size w w'
def GaveSts (w : World) (l : List S6) (e : Ending) (w' : World) : Prop :=
 ∃ (a : Option Addr) (c : Nat) (ys : List LS), e = .returned (.slice a ys.length c) ∧ coS_Store ys = l ∧ BagOwn w' w.heap.size (rs_Store a c ys) ∧ Below w.heap.size w w'
set_option maxHeartbeats 8000000 in
theorem l9Copy_any (a : Option Addr) (c : Nat) (os : List Y_Op) (hl : os.length ≤ 1048576) (hf : ∀ o ∈ coS_Op os, FitO o) (w : World) (hr : Reads w w.heap.size a (os.flatMap cl_Op)) (hx : RowsRd w w.heap.size (rws_Op os)) :
  Calls Try.prog 136 #[.slice a os.length c] w (GaveOps w (coS_Op os)) := by
 have HR := Lib.hid (fun w' (h : Below w.heap.size w w') => hr.below h)
 have HX := Lib.hid (fun w' (h : Below w.heap.size w w') => (hx.below h).more h.size)
 have HF := Lib.hid hf
 obtain ⟨N, hN⟩ : ∃ n, n = os.length := ⟨_, rfl⟩
 rw [← hN] at hl ⊢
 have hl' : (N : Int) ≤ 1048576 := by omega
 have HN := Lib.hid hN
 clear hN hr hx hf
 obtain ⟨iO, hi1, hi2, hi3, hi4⟩ := infoC_Op
 have HIO := Lib.hid (And.intro hi1 (And.intro hi2 (And.intro hi3 hi4)))
 clear hi1 hi2 hi3 hi4
 have S1 := Lib.hid (show Sl.Sep w w [] from Sl.Sep.start w)
 go_enter Try.func136, Try.ntmps136
 go_upto_region 2 with fail
 have S2 := Lib.hid (show Sl.Sep w _ [Sv.ownV 148 7 (some ⟨w.heap.size, 0, none⟩) 0 0 (([] : List Y_Op).flatMap cl_Op)] from Sv.push_own S1.out ((Below.refl _ _).alloc (Nat.le_refl _) _) (OwnV.madeAt w 148 7 0 w.heap.size #[] rfl (Nat.le_refl _) rfl (by decide)))
 clear S1
 obtain ⟨g1, hg⟩ : ∃ g', g' = w.heap.size := ⟨_, rfl⟩
 rw [← hg] at S2 ⊢
 clear hg
 generalize w.alloc (.cells #[] 148) = w1 at S2 ⊢
 have S3 := Lib.hid (show Sl.Sep w _ [Sv.ownV 148 7 (some ⟨g1, 0, none⟩) 0 0 (([] : List Y_Op).flatMap cl_Op), Bag.bag (rws_Op [])] from Bag.push_bag S2.out (Below.refl _ _) (Bag.BagOwn.nil _ _))
 clear S2
 go_wp2_with fail
 go_loopw [3, 4] (fun v i wr => ∃ (k : Nat) (A : Option Addr) (C : Nat) (ys : List Y_Op), k ≤ N ∧ i = .int .i64 k ∧ v = .slice A k C ∧ Hid ((coS_Op ys = (coS_Op os).take k ∧ ys.length = k) ∧ Sl.Sep w wr [Sv.ownV 148 7 A C k (ys.flatMap cl_Op), Bag.bag (rws_Op ys)])) (fun _ i _ => N - (intOf i).toNat)
 case atStart => exact ⟨0, _, _, [], Nat.zero_le _, rfl, rfl, And.intro ⟨rfl, rfl⟩ S3.out⟩
 case round =>
  obtain ⟨k, A, C, ys, hk, rfl, rfl, hrel⟩ := hrel
  have HCC := Lib.hid hrel.out.1
  have S40 := Lib.hid hrel.out.2
  clear hrel S3
  by_cases hlt : (k : Int) < (N : Int)
  ·
   skip
   have hkl : k < os.length := by have := HN.out; omega
   obtain ⟨x, hx⟩ : ∃ x, os[k]? = some x := ⟨_, List.getElem?_eq_getElem hkl⟩
   obtain ⟨oad, e'⟩ := el_some cl_Op_len (by decide) (HR.out _ S40.out.old) hkl
   subst e'
   have hro := fun w' (h : Below w.heap.size w w') => rdOs (HX.out w' h) hx
   have hrr := fun w' (h : Below w.heap.size w w') => rdO (rdOs (HX.out w' h) hx)
   obtain ⟨kd, st, ⟨kk, kn, kt⟩, ⟨ra, rc, rl⟩, fd⟩ := x
   have HK := Lib.hid (fun w' (h : Below w.heap.size w w') => el7 cl_Op_len (HR.out _ h) hx rfl)
   dsimp only at HK hrr
   have HRO := Lib.hid hro
   have HRR := Lib.hid hrr
   have HC := Lib.hid (show (coS_Op os)[k]? = some (⟨kd, st, ⟨kk, kn, kt⟩, rl, fd⟩ : X_Op) from coS_at hx)
   have HFO := Lib.hid (HF.out _ (List.mem_of_getElem? HC.out))
   clear hx hrr hro
   have HCP := Lib.hid (fun w' (h : Below w.heap.size w w') => L5.l5Copy_any ra rc rl (by have h9 := HFO.out.len; exact Nat.le_trans h9 (by decide)) w' (HRR.out w' h))
   have HTK := Lib.hid (V.take_next HC.out)
   have HFLY := Lib.hid (show (ys.flatMap cl_Op).length = k * 7 from by rw [V.flat_len cl_Op_len, HCC.out.2])
   obtain ⟨f0, f1, f2, f3, f4, f5, f6⟩ := HK.out _ S40.out.old
   go_upto_region 6 with fail
   clear f0 f1 f2 f3 f4 f5 f6
   have S41 := Lib.hid (show Sl.Sep w _ [_, _, _] from L4.push_box S40.out 148 #[.int .i64 kd, .string st, .int .i64 kk, .int .i64 kn, .string kt, .slice ra rl.length rc, .string fd] wr.heap.size rfl)
   clear S40
   obtain ⟨g2, hg⟩ : ∃ g', g' = wr.heap.size := ⟨_, rfl⟩
   rw [← hg] at S41 ⊢
   clear hg
   generalize wr.alloc (.cells #[.int .i64 kd, .string st, .int .i64 kk, .int .i64 kn, .string kt, .slice ra rl.length rc, .string fd] 148) = w2 at S41 ⊢
   obtain ⟨f0, f1, f2, f3, f4, f5, f6⟩ := Bag.cs7 S41.out 2 rfl
   obtain ⟨f7, f8, f9, f10, f11, f12, f13⟩ := HK.out _ S41.out.old
   go_wp2_with fail
   go_at_call 89
   refine (HCP.out _ S41.out.old).mono ?_
   rintro e w3 ⟨a1, c1, rfl, ho, hb⟩
   clear f0 f1 f2 f3 f4 f5 f6 f7 f8 f9 f10 f11 f12 f13
   have S42 := Lib.hid (show Sl.Sep w _ [_, _, L4.boxR g2 148 #[.int .i64 kd, .string st, .int .i64 kk, .int .i64 kn, .string kt, .slice ra rl.length rc, .string fd], Sv.ownV 128 2 a1 c1 rl.length (L5.cellsF rl)] from Sv.push_own S41.out hb ho)
   clear S41
   clear hb ho
   obtain ⟨f0, f1, f2, f3, f4, f5, f6⟩ := Bag.cs7 S42.out 2 rfl
   obtain ⟨f7, f8, f9, f10, f11, f12, f13⟩ := HK.out _ S42.out.old
   have z5 := Bag.free_at S42.out 2 rfl 5
   go_upto_region 7 with fail
   clear f0 f1 f2 f3 f4 f5 f6 f7 f8 f9 f10 f11 f12 f13 z5
   have S43 := Lib.hid (show Sl.Sep w _ [_, _, L4.boxR g2 148 #[.int .i64 kd, .string st, .int .i64 kk, .int .i64 kn, .string kt, .slice a1 rl.length c1, .string fd], _] from L5.put_box5 (S42.out) 2 rfl 5 (.slice a1 rl.length c1))
   clear S42
   generalize (w3.setCell ⟨g2, 5, none⟩ (.slice a1 rl.length c1)) = w4 at S43 ⊢
   obtain ⟨f0, f1, f2, f3, f4, f5, f6⟩ := Bag.cs7 S43.out 2 rfl
   have S44 := Lib.hid (show Sl.Sep w _ [_, _, _, _, Sv.ownV 148 7 (some ⟨w4.heap.size, 0, none⟩) 1 1 ([(⟨kd, st, ⟨kk, kn, kt⟩, ⟨a1, c1, rl⟩, fd⟩ : Y_Op)].flatMap cl_Op)] from Sv.push_own S43.out ((Below.refl _ _).alloc (Nat.le_refl _) _) (OwnV.madeAt w4 148 7 1 w4.heap.size #[.int .i64 kd, .string st, .int .i64 kk, .int .i64 kn, .string kt, .slice a1 rl.length c1, .string fd] rfl (Nat.le_refl _) rfl (by decide)))
   clear S43
   go_wp2_with (at_builtin; refine L5.wpList_append_v S44.out 0 rfl rfl _ _ 82 (by rfl) iO (.agg #[.int .i64 0, .string ⟨#[]⟩, .int .i64 0, .int .i64 0, .string ⟨#[]⟩, .slice none 0 0, .string ⟨#[]⟩]) 96 Try.underlying82 HIO.out.1 HIO.out.2.1 HIO.out.2.2.1 HIO.out.2.2.2 rfl (by omega) _ (by rfl) rfl _ _ 1 _ _ ([(⟨kd, st, ⟨kk, kn, kt⟩, ⟨a1, c1, rl⟩, fd⟩ : Y_Op)].flatMap cl_Op) (by rfl) rfl (Sv.own_at S44.out 4 rfl).reads rfl (V.one_flat cl_Op_one _) (by unfold maxLen; omega) (by omega) ?_; intro a3' c3' w5 hA)
   have S45 := Lib.hid (show Sl.Sep w _ [Sv.ownV 148 7 a3' c3' (k + 1) (ys.flatMap cl_Op ++ ([(⟨kd, st, ⟨kk, kn, kt⟩, ⟨a1, c1, rl⟩, fd⟩ : Y_Op)].flatMap cl_Op)), _, _, _, _] from hA)
   clear S44
   clear hA
   clear f0 f1 f2 f3 f4 f5 f6
   have S46 := Lib.hid (show Sl.Sep w _ [_, _, _, Bag.bag ([row_Field a1 c1 rl]), _] from Bag.bag_of_one S45.out 3 (r := row_Field a1 c1 rl) rfl)
   clear S45
   have S47 := Lib.hid (show Sl.Sep w _ [_, Bag.bag (rws_Op ys ++ ([row_Field a1 c1 rl])), _, Bag.bag ([]), _] from Bag.bag_join S46.out 1 3 (by decide) rfl rfl)
   clear S46
   have S48 := Lib.hid (show Sl.Sep w _ [_, _] from Bag.take S47.out [0, 1] (by rfl) (by decide))
   clear S47
   go_roundw
   case rel =>
    refine ⟨k + 1, a3', c3', ys ++ [(⟨kd, st, ⟨kk, kn, kt⟩, ⟨a1, c1, rl⟩, fd⟩ : Y_Op)], by omega, by go_num, rfl, And.intro ⟨?_, ?_⟩ ?_⟩
    ·
     rw [HTK.out, ← HCC.out.1, coS_Op_eq, coS_Op_eq, List.map_append]; rfl
    ·
     rw [List.length_append, HCC.out.2]; rfl
    ·
     rw [List.flatMap_append, rws_Op_app]; exact S48.out
   case measure => simp [intOf]; omega
  ·
   skip
   obtain rfl : k = N := by omega
   go_wp2_with fail
   go_ret
   have hc1 := HCC.out.1
   rw [List.take_of_length_le (show (coS_Op os).length ≤ k by rw [coS_len]; have := HN.out; omega)] at hc1
   have S90 := Lib.hid (Bag.bag_of_one S40.out 0 (r := row_Op A C ys) (by unfold RowS.res row_Op; dsimp only; rw [HCC.out.2]; rfl))
   have S91 := Lib.hid (Bag.bag_join S90.out 0 1 (by decide) rfl rfl)
   exact ⟨A, C, ys, by rw [HCC.out.2] <;> rfl, hc1, Bag.bag_from S91.out 0 rfl, S91.out.old⟩
set_option maxHeartbeats 8000000 in
theorem l10Stores_any (a : Option Addr) (c : Nat) (ss : List LS) (hl : ss.length ≤ 1048576) (hf : ∀ s ∈ coS_Store ss, FitS s) (w : World) (hr : Reads w w.heap.size a (ss.flatMap cl_Store)) (hx : RowsRd w w.heap.size (rws_Store ss)) :
  Calls Try.prog 193 #[.slice a ss.length c] w (GaveSts w (coS_Store ss)) := by
 have HR := Lib.hid (fun w' (h : Below w.heap.size w w') => hr.below h)
 have HX := Lib.hid (fun w' (h : Below w.heap.size w w') => (hx.below h).more h.size)
 have HF := Lib.hid hf
 obtain ⟨N, hN⟩ : ∃ n, n = ss.length := ⟨_, rfl⟩
 rw [← hN] at hl ⊢
 have hl' : (N : Int) ≤ 1048576 := by omega
 have HN := Lib.hid hN
 clear hN hr hx hf
 obtain ⟨iS, hi1, hi2, hi3, hi4⟩ := infoC_Store
 have HIS := Lib.hid (And.intro hi1 (And.intro hi2 (And.intro hi3 hi4)))
 clear hi1 hi2 hi3 hi4
 have S1 := Lib.hid (show Sl.Sep w w [] from Sl.Sep.start w)
 go_enter Try.func193, Try.ntmps193
 go_upto_region 2 with fail
 have S2 := Lib.hid (show Sl.Sep w _ [Sv.ownV 26 3 (some ⟨w.heap.size, 0, none⟩) 0 0 (([] : List LS).flatMap cl_Store)] from Sv.push_own S1.out ((Below.refl _ _).alloc (Nat.le_refl _) _) (OwnV.madeAt w 26 3 0 w.heap.size #[] rfl (Nat.le_refl _) rfl (by decide)))
 clear S1
 obtain ⟨g1, hg⟩ : ∃ g', g' = w.heap.size := ⟨_, rfl⟩
 rw [← hg] at S2 ⊢
 clear hg
 generalize w.alloc (.cells #[] 26) = w1 at S2 ⊢
 have S3 := Lib.hid (show Sl.Sep w _ [Sv.ownV 26 3 (some ⟨g1, 0, none⟩) 0 0 (([] : List LS).flatMap cl_Store), Bag.bag (rws_Store [])] from Bag.push_bag S2.out (Below.refl _ _) (Bag.BagOwn.nil _ _))
 clear S2
 go_wp2_with fail
 go_loopw [3, 4] (fun v i wr => ∃ (k : Nat) (A : Option Addr) (C : Nat) (ys : List LS), k ≤ N ∧ i = .int .i64 k ∧ v = .slice A k C ∧ Hid ((coS_Store ys = (coS_Store ss).take k ∧ ys.length = k) ∧ Sl.Sep w wr [Sv.ownV 26 3 A C k (ys.flatMap cl_Store), Bag.bag (rws_Store ys)])) (fun _ i _ => N - (intOf i).toNat)
 case atStart => exact ⟨0, _, _, [], Nat.zero_le _, rfl, rfl, And.intro ⟨rfl, rfl⟩ S3.out⟩
 case round =>
  obtain ⟨k, A, C, ys, hk, rfl, rfl, hrel⟩ := hrel
  have HCC := Lib.hid hrel.out.1
  have S40 := Lib.hid hrel.out.2
  clear hrel S3
  by_cases hlt : (k : Int) < (N : Int)
  ·
   skip
   have hkl : k < ss.length := by have := HN.out; omega
   obtain ⟨x, hx⟩ : ∃ x, ss[k]? = some x := ⟨_, List.getElem?_eq_getElem hkl⟩
   obtain ⟨sad, e'⟩ := el_some cl_Store_len (by decide) (HR.out _ S40.out.old) hkl
   subst e'
   have HKx := Lib.hid (fun w' (h : Below w.heap.size w w') => el3 cl_Store_len (HR.out _ h) hx rfl)
   have HCx := Lib.hid (show (coS_Store ss)[k]? = some x.con from by rw [coS_Store_eq, List.getElem?_map, hx]; rfl)
   have HCI := Lib.hid (fun w' (h : Below w.heap.size w w') => l6Copy_any x (HF.out _ (List.mem_of_getElem? HCx.out)) w' (rd_el (rw_ := rw_Store) (HX.out w' h) hx))
   dsimp only [LS.v, LS.cells] at HCI
   have HTK := Lib.hid (V.take_next HCx.out)
   have HFLY := Lib.hid (show (ys.flatMap cl_Store).length = k * 3 from by rw [V.flat_len cl_Store_len, HCC.out.2])
   clear hx
   obtain ⟨f0, f1, f2⟩ := HKx.out _ S40.out.old
   go_wp2_with fail
   go_at_call 87
   refine (HCI.out _ S40.out.old).mono ?_
   rintro e w2 ⟨y, rfl, hcy, ho, hb⟩
   clear f0 f1 f2
   have S41 := Lib.hid (show Sl.Sep w _ [Sv.ownV 26 3 A C k (ys.flatMap cl_Store), Bag.bag (rws_Store ys), Bag.bag (LS.rows y)] from Bag.push_bag S40.out hb ho)
   clear S40
   clear hb ho
   have HCY := Lib.hid hcy
   clear hcy
   dsimp only [LS.v, LS.cells]
   have S42 := Lib.hid (show Sl.Sep w _ [_, _, _, Sv.ownV 26 3 (some ⟨w2.heap.size, 0, none⟩) 1 1 ([y].flatMap cl_Store)] from Sv.push_own S41.out ((Below.refl _ _).alloc (Nat.le_refl _) _) (OwnV.madeAt w2 26 3 1 w2.heap.size #[.string y.name, .slice y.a y.xs.length y.c, .int .i64 y.auto] rfl (Nat.le_refl _) rfl (by decide)))
   clear S41
   go_wp2_with (at_builtin; refine L5.wpList_append_v S42.out 0 rfl rfl _ _ 159 (by rfl) iS (.agg #[.string ⟨#[]⟩, .slice none 0 0, .int .i64 0]) 48 Try.underlying159 HIS.out.1 HIS.out.2.1 HIS.out.2.2.1 HIS.out.2.2.2 rfl (by omega) _ (by rfl) rfl _ _ 1 _ _ ([y].flatMap cl_Store) (by rfl) rfl (Sv.own_at S42.out 3 rfl).reads rfl (V.one_flat cl_Store_one _) (by unfold maxLen; omega) (by omega) ?_; intro a2' c2' w3 hA)
   have S43 := Lib.hid (show Sl.Sep w _ [Sv.ownV 26 3 a2' c2' (k + 1) (ys.flatMap cl_Store ++ ([y].flatMap cl_Store)), _, _, _] from hA)
   clear S42
   clear hA
   have S44 := Lib.hid (show Sl.Sep w _ [_, Bag.bag (rws_Store ys ++ (LS.rows y)), Bag.bag ([]), _] from Bag.bag_join S43.out 1 2 (by decide) rfl rfl)
   clear S43
   have S45 := Lib.hid (show Sl.Sep w _ [_, _] from Bag.take S44.out [0, 1] (by rfl) (by decide))
   clear S44
   go_roundw
   case rel =>
    refine ⟨k + 1, a2', c2', ys ++ [y], by omega, by go_num, rfl, And.intro ⟨?_, ?_⟩ ?_⟩
    ·
     rw [HTK.out, ← HCC.out.1, coS_Store_eq, coS_Store_eq, List.map_append, ← HCY.out]; rfl
    ·
     rw [List.length_append, HCC.out.2]; rfl
    ·
     rw [List.flatMap_append, rws_Store_app, show rws_Store [y] = LS.rows y from by rw [rws_Store_eq]; simp; rfl]; exact S45.out
   case measure => simp [intOf]; omega
  ·
   skip
   obtain rfl : k = N := by omega
   go_wp2_with fail
   go_ret
   have hc1 := HCC.out.1
   rw [List.take_of_length_le (show (coS_Store ss).length ≤ k by rw [coS_Store_eq, List.length_map]; have := HN.out; omega)] at hc1
   have S90 := Lib.hid (Bag.bag_of_one S40.out 0 (r := row_Store A C ys) (by unfold RowS.res row_Store; dsimp only; rw [HCC.out.2]; rfl))
   have S91 := Lib.hid (Bag.bag_join S90.out 0 1 (by decide) rfl rfl)
   exact ⟨A, C, ys, by rw [HCC.out.2] <;> rfl, hc1, Bag.bag_from S91.out 0 rfl, S91.out.old⟩
def GaveQ (w : World) (l : List X_Tx) (e : Ending) (w' : World) : Prop :=
 ∃ (a : Option Addr) (c : Nat) (ys : List Y_Tx), e = .returned (.agg #[.slice a ys.length c]) ∧ coS_Tx ys = l ∧ BagOwn w' w.heap.size (rs_Tx a c ys) ∧ Below w.heap.size w w'
set_option maxHeartbeats 8000000 in
theorem l10Copy_any (a : Option Addr) (c : Nat) (ts : List Y_Tx) (hl : ts.length ≤ 1048576) (hf : ∀ t ∈ coS_Tx ts, FitT t) (w : World) (hr : Reads w w.heap.size a (ts.flatMap cl_Tx)) (hx : RowsRd w w.heap.size (rws_Tx ts)) :
  Calls Try.prog 135 #[.agg #[.slice a ts.length c]] w (GaveQ w (coS_Tx ts)) := by
 have HR := Lib.hid (fun w' (h : Below w.heap.size w w') => hr.below h)
 have HX := Lib.hid (fun w' (h : Below w.heap.size w w') => (hx.below h).more h.size)
 have HF := Lib.hid hf
 obtain ⟨N, hN⟩ : ∃ n, n = ts.length := ⟨_, rfl⟩
 rw [← hN] at hl ⊢
 have hl' : (N : Int) ≤ 1048576 := by omega
 have HN := Lib.hid hN
 clear hN hr hx hf
 obtain ⟨iX9, hi1, hi2, hi3, hi4⟩ := infoC_Tx
 have HIX9 := Lib.hid (And.intro hi1 (And.intro hi2 (And.intro hi3 hi4)))
 clear hi1 hi2 hi3 hi4
 have S1 := Lib.hid (show Sl.Sep w _ [_, _] from L4.push_box (L4.push_box (Sl.Sep.start w) 98 #[.slice a N c] (w.heap.size) (by simp)) 98 #[.slice none 0 0] (w.heap.size + 1) (by simp))
 obtain ⟨wa, hwa⟩ : ∃ w_, w_ = ((w.alloc (.cells #[.slice a N c] 98)).alloc (.cells #[.slice none 0 0] 98)) := ⟨_, rfl⟩
 rw [← hwa] at S1
 go_enter Try.func135, Try.ntmps135
 go_upto_region 1 with fail
 rw [← hwa]
 clear hwa
 go_upto_region 2 with fail
 have S2 := Lib.hid (show Sl.Sep w _ [_, _, _] from L4.push_box S1.out 98 #[.slice none 0 0] wa.heap.size rfl)
 clear S1
 obtain ⟨g1, hg⟩ : ∃ g', g' = wa.heap.size := ⟨_, rfl⟩
 rw [← hg] at S2 ⊢
 clear hg
 generalize wa.alloc (.cells #[.slice none 0 0] 98) = w1 at S2 ⊢
 have S3 := Lib.hid (show Sl.Sep w _ [_, _, L4.boxR g1 98 #[.slice none 0 0], Sv.ownV 161 5 none 0 0 (([] : List Y_Tx).flatMap cl_Tx)] from Sv.push_own S2.out (Below.refl _ _) (OwnV.nil _ _ _ _))
 clear S2
 have S4 := Lib.hid (show Sl.Sep w _ [_, _, _, _, Bag.bag (rws_Tx [])] from Bag.push_bag S3.out (Below.refl _ _) (Bag.BagOwn.nil _ _))
 clear S3
 go_wp2_with fail
 go_loopw [4] (fun i wr => ∃ (k : Nat) (A : Option Addr) (C : Nat) (ys : List Y_Tx), k ≤ N ∧ i = .int .i64 k ∧ Hid ((coS_Tx ys = (coS_Tx ts).take k ∧ ys.length = k) ∧ Sl.Sep w wr [L4.boxR w.heap.size 98 #[.slice a N c], L4.boxR (w.heap.size + 1) 98 #[.slice none 0 0], L4.boxR g1 98 #[.slice A k C], Sv.ownV 161 5 A C k (ys.flatMap cl_Tx), Bag.bag (rws_Tx ys)])) (fun i _ => N - (intOf i).toNat)
 case atStart => exact ⟨0, none, 0, [], Nat.zero_le _, rfl, And.intro ⟨rfl, rfl⟩ S4.out⟩
 case round =>
  obtain ⟨k, A, C, ys, hk, rfl, hrel⟩ := hrel
  have HCC := Lib.hid hrel.out.1
  have S40 := Lib.hid hrel.out.2
  clear hrel S4
  by_cases hlt : (k : Int) < (N : Int)
  ·
   skip
   have hkl : k < ts.length := by have := HN.out; omega
   obtain ⟨x, hx⟩ : ∃ x, ts[k]? = some x := ⟨_, List.getElem?_eq_getElem hkl⟩
   obtain ⟨tad, e'⟩ := el_some cl_Tx_len (by decide) (HR.out _ S40.out.old) hkl
   subst e'
   have HKx := Lib.hid (fun w' (h : Below w.heap.size w w') => el5 cl_Tx_len (HR.out _ h) hx rfl)
   have HRx := Lib.hid (fun w' (h : Below w.heap.size w w') => rdTs (HX.out w' h) hx)
   have HCx := Lib.hid (coT_at hx)
   have HFx := Lib.hid (HF.out _ (List.mem_of_getElem? HCx.out))
   clear hx
   have HCO := Lib.hid (fun w' (h : Below w.heap.size w w') => l9Copy_any x.f_Ops_a x.f_Ops_c x.f_Ops (by have h := HFx.out.len; rwa [show (co_Tx x).f_Ops = coS_Op x.f_Ops from rfl, coS_len] at h) HFx.out.ops w' (rdTo (HRx.out w' h)) (rdTox (HRx.out w' h)))
   have HCB := Lib.hid (fun w' (h : Below w.heap.size w w') => l10Stores_any x.f_Backup_a x.f_Backup_c x.f_Backup (by have h := HFx.out.blen; rwa [show (co_Tx x).f_Backup = coS_Store x.f_Backup from rfl, coS_Store_eq, List.length_map] at h) HFx.out.back w' (rdTb (HRx.out w' h)) (rdTbx (HRx.out w' h)))
   have HTK := Lib.hid (V.take_next HCx.out)
   have HFLY := Lib.hid (show (ys.flatMap cl_Tx).length = k * 5 from by rw [V.flat_len cl_Tx_len, HCC.out.2])
   have f0 := Bag.cs1 S40.out 0 rfl
   have f1 := Bag.cs1 S40.out 1 rfl
   have f2 := Bag.cs1 S40.out 2 rfl
   obtain ⟨f3, f4, f5, f6, f7⟩ := HKx.out _ S40.out.old
   go_upto_region 6 with fail
   clear f0 f1 f2 f3 f4 f5 f6 f7
   have S41 := Lib.hid (show Sl.Sep w _ [_, _, _, _, _, _] from L4.push_box S40.out 161 #[.int .i64 x.f_Id, .slice x.f_Ops_a x.f_Ops.length x.f_Ops_c, .int .i64 x.f_At, .int .i64 x.f_State, .slice x.f_Backup_a x.f_Backup.length x.f_Backup_c] wr.heap.size rfl)
   clear S40
   obtain ⟨g2, hg⟩ : ∃ g', g' = wr.heap.size := ⟨_, rfl⟩
   rw [← hg] at S41 ⊢
   clear hg
   generalize wr.alloc (.cells #[.int .i64 x.f_Id, .slice x.f_Ops_a x.f_Ops.length x.f_Ops_c, .int .i64 x.f_At, .int .i64 x.f_State, .slice x.f_Backup_a x.f_Backup.length x.f_Backup_c] 161) = w2 at S41 ⊢
   have f0 := Bag.cs1 S41.out 0 rfl
   have f1 := Bag.cs1 S41.out 1 rfl
   have f2 := Bag.cs1 S41.out 2 rfl
   obtain ⟨f3, f4, f5, f6, f7⟩ := Bag.cs5 S41.out 5 rfl
   obtain ⟨f8, f9, f10, f11, f12⟩ := HKx.out _ S41.out.old
   go_wp2_with fail
   go_at_call 136
   refine (HCO.out _ S41.out.old).mono ?_
   rintro e w3 ⟨oa, oc, ol, rfl, hco, ho, hb⟩
   clear f0 f1 f2 f3 f4 f5 f6 f7 f8 f9 f10 f11 f12
   have S42 := Lib.hid (show Sl.Sep w _ [_, _, _, _, _, L4.boxR g2 161 #[.int .i64 x.f_Id, .slice x.f_Ops_a x.f_Ops.length x.f_Ops_c, .int .i64 x.f_At, .int .i64 x.f_State, .slice x.f_Backup_a x.f_Backup.length x.f_Backup_c], Bag.bag (rs_Op oa oc ol)] from Bag.push_bag S41.out hb ho)
   clear S41
   clear hb ho
   have HCo := Lib.hid hco
   clear hco
   have f0 := Bag.cs1 S42.out 0 rfl
   obtain ⟨f1, f2, f3, f4, f5⟩ := Bag.cs5 S42.out 5 rfl
   obtain ⟨f6, f7, f8, f9, f10⟩ := HKx.out _ S42.out.old
   have z1 := Bag.free_at S42.out 5 rfl 1
   go_upto_region 7 with fail
   clear f0 f1 f2 f3 f4 f5 f6 f7 f8 f9 f10 z1
   have S43 := Lib.hid (show Sl.Sep w _ [_, _, _, _, _, L4.boxR g2 161 #[.int .i64 x.f_Id, .slice oa ol.length oc, .int .i64 x.f_At, .int .i64 x.f_State, .slice x.f_Backup_a x.f_Backup.length x.f_Backup_c], _] from L5.put_box5 (S42.out) 5 rfl 1 (.slice oa ol.length oc))
   clear S42
   generalize (w3.setCell ⟨g2, 1, none⟩ (.slice oa ol.length oc)) = w4 at S43 ⊢
   have f0 := Bag.cs1 S43.out 0 rfl
   have f1 := Bag.cs1 S43.out 1 rfl
   have f2 := Bag.cs1 S43.out 2 rfl
   obtain ⟨f3, f4, f5, f6, f7⟩ := Bag.cs5 S43.out 5 rfl
   obtain ⟨f8, f9, f10, f11, f12⟩ := HKx.out _ S43.out.old
   go_wp2_with fail
   go_at_call 193
   refine (HCB.out _ S43.out.old).mono ?_
   rintro e w5 ⟨ba, bc, bl, rfl, hcb, ho, hb⟩
   clear f0 f1 f2 f3 f4 f5 f6 f7 f8 f9 f10 f11 f12
   have S44 := Lib.hid (show Sl.Sep w _ [_, _, _, _, _, _, _, Bag.bag (rs_Store ba bc bl)] from Bag.push_bag S43.out hb ho)
   clear S43
   clear hb ho
   have HCb := Lib.hid hcb
   clear hcb
   have f0 := Bag.cs1 S44.out 0 rfl
   obtain ⟨f1, f2, f3, f4, f5⟩ := Bag.cs5 S44.out 5 rfl
   obtain ⟨f6, f7, f8, f9, f10⟩ := HKx.out _ S44.out.old
   have z4 := Bag.free_at S44.out 5 rfl 4
   go_upto_region 8 with fail
   clear f0 f1 f2 f3 f4 f5 f6 f7 f8 f9 f10 z4
   have S45 := Lib.hid (show Sl.Sep w _ [_, _, _, _, _, L4.boxR g2 161 #[.int .i64 x.f_Id, .slice oa ol.length oc, .int .i64 x.f_At, .int .i64 x.f_State, .slice ba bl.length bc], _, _] from L5.put_box5 (S44.out) 5 rfl 4 (.slice ba bl.length bc))
   clear S44
   generalize (w5.setCell ⟨g2, 4, none⟩ (.slice ba bl.length bc)) = w6 at S45 ⊢
   have f0 := Bag.cs1 S45.out 0 rfl
   have f1 := Bag.cs1 S45.out 1 rfl
   have f2 := Bag.cs1 S45.out 2 rfl
   obtain ⟨f3, f4, f5, f6, f7⟩ := Bag.cs5 S45.out 5 rfl
   obtain ⟨f8, f9, f10, f11, f12⟩ := HKx.out _ S45.out.old
   clear f0 f1 f2 f3 f4 f5 f6 f7 f8 f9 f10 f11 f12
   have f0 := Bag.cs1 S45.out 0 rfl
   have f1 := Bag.cs1 S45.out 2 rfl
   obtain ⟨f2, f3, f4, f5, f6⟩ := Bag.cs5 S45.out 5 rfl
   have S46 := Lib.hid (show Sl.Sep w _ [_, _, _, _, _, _, _, _, Sv.ownV 161 5 (some ⟨w6.heap.size, 0, none⟩) 1 1 ([(⟨x.f_Id, oa, oc, ol, x.f_At, x.f_State, ba, bc, bl⟩ : Y_Tx)].flatMap cl_Tx)] from Sv.push_own S45.out ((Below.refl _ _).alloc (Nat.le_refl _) _) (OwnV.madeAt w6 161 5 1 w6.heap.size #[.int .i64 x.f_Id, .slice oa ol.length oc, .int .i64 x.f_At, .int .i64 x.f_State, .slice ba bl.length bc] rfl (Nat.le_refl _) rfl (by decide)))
   clear S45
   go_wp2_with (at_builtin; refine L5.wpList_append_v S46.out 3 rfl rfl _ _ 96 (by rfl) iX9 (.agg #[.int .i64 0, .slice none 0 0, .int .i64 0, .int .i64 0, .slice none 0 0]) 72 Try.underlying96 HIX9.out.1 HIX9.out.2.1 HIX9.out.2.2.1 HIX9.out.2.2.2 rfl (by omega) _ (by rfl) rfl _ _ 1 _ _ ([(⟨x.f_Id, oa, oc, ol, x.f_At, x.f_State, ba, bc, bl⟩ : Y_Tx)].flatMap cl_Tx) (by rfl) rfl (Sv.own_at S46.out 8 rfl).reads rfl (V.one_flat cl_Tx_one _) (by unfold maxLen; omega) (by omega) ?_; intro a3' c3' w7 hA; have f90 := Bag.cell_at hA 2 rfl 0 rfl; have z90 := Bag.free_at hA 2 rfl 0)
   have S47 := Lib.hid (show Sl.Sep w _ [_, _, _, Sv.ownV 161 5 a3' c3' (k + 1) (ys.flatMap cl_Tx ++ ([(⟨x.f_Id, oa, oc, ol, x.f_At, x.f_State, ba, bc, bl⟩ : Y_Tx)].flatMap cl_Tx)), _, _, _, _, _] from hA)
   clear S46
   clear hA
   clear f0 f1 f2 f3 f4 f5 f6
   have S48 := Lib.hid (show Sl.Sep w _ [_, _, L4.boxR g1 98 #[.slice a3' (k + 1) c3'], _, _, _, _, _, _] from L5.put_box5 (S47.out) 2 rfl 0 (.slice a3' (k + 1) c3'))
   clear S47
   have S49 := Lib.hid (show Sl.Sep w _ [_, _, _, _, Bag.bag (rws_Tx ys ++ (rs_Op oa oc ol)), _, Bag.bag ([]), _, _] from Bag.bag_join S48.out 4 6 (by decide) rfl rfl)
   clear S48
   have S50 := Lib.hid (show Sl.Sep w _ [_, _, _, _, Bag.bag (rws_Tx ys ++ (rs_Op oa oc ol) ++ (rs_Store ba bc bl)), _, Bag.bag ([]), Bag.bag ([]), _] from Bag.bag_join S49.out 4 7 (by decide) rfl rfl)
   clear S49
   have S51 := Lib.hid (show Sl.Sep w _ [_, _, _, _, _] from Bag.take S50.out [0, 1, 2, 3, 4] (by rfl) (by decide))
   clear S50
   go_roundw
   case rel =>
    refine ⟨k + 1, a3', c3', ys ++ [(⟨x.f_Id, oa, oc, ol, x.f_At, x.f_State, ba, bc, bl⟩ : Y_Tx)], by omega, by go_num, And.intro ⟨?_, ?_⟩ ?_⟩
    ·
     rw [HTK.out, ← HCC.out.1, coS_Tx_eq, coS_Tx_eq, List.map_append]; exact congrArg (fun u => _ ++ [u]) (by unfold co_Tx; dsimp only; rw [HCo.out, HCb.out])
    ·
     rw [List.length_append, HCC.out.2]; rfl
    ·
     rw [List.flatMap_append, rws_Tx_app, show rws_Tx [(⟨x.f_Id, oa, oc, ol, x.f_At, x.f_State, ba, bc, bl⟩ : Y_Tx)] = rs_Op oa oc ol ++ rs_Store ba bc bl from by rw [rws_Tx_eq]; simp; rfl, ← List.append_assoc]; exact S51.out
   case measure => simp [intOf]; omega
  ·
   skip
   obtain rfl : k = N := by omega
   have f0 := Bag.cs1 S40.out 0 rfl
   have f1 := Bag.cs1 S40.out 1 rfl
   have f2 := Bag.cs1 S40.out 2 rfl
   have z0 := Bag.free_at S40.out 1 rfl 0
   go_wp2_with fail
   clear f0 f1 f2 z0
   have S41 := Lib.hid (show Sl.Sep w _ [L4.boxR w.heap.size 98 #[.slice a k c], L4.boxR (w.heap.size + 1) 98 #[.slice A k C], L4.boxR g1 98 #[.slice A k C], Sv.ownV 161 5 A C k (ys.flatMap cl_Tx), Bag.bag (rws_Tx ys)] from L5.put_box5 (S40.out) 1 rfl 0 (.slice A k C))
   clear S40
   have f0 := Bag.cs1 S41.out 1 rfl
   refine bodyPost_ret (v := .agg #[.slice A k C]) (by simp [results, Try.results135, go_sem, *]) rfl ?_
   clear f0
   have hc1 := HCC.out.1
   rw [List.take_of_length_le (show (coS_Tx ts).length ≤ k by rw [coT_len]; have := HN.out; omega)] at hc1
   have S90 := Lib.hid (Bag.bag_of_one S41.out 3 (r := row_Tx A C ys) (by unfold RowS.res row_Tx; dsimp only; rw [HCC.out.2]; rfl))
   have S91 := Lib.hid (Bag.bag_join S90.out 3 4 (by decide) rfl rfl)
   exact ⟨A, C, ys, by rw [HCC.out.2] <;> rfl, hc1, Bag.bag_from S91.out 3 rfl, S91.out.old⟩
end Go.Proofs.Ytojcdmgcbgpdmaa.L10

namespace Go.Proofs.Ytojcdmgcbgpdmaa.L9
open V L6
open L4 (K isK cmpK)
open L5 (F isR isN string_geq)
open Go.Op (bytesLess)
open Go.ChangeShapes Go.WideShapes Go.ChangeAt Go.RowKit Mem Sl Ex L2 Sv Bag

set_option maxHeartbeats 8000000 in
theorem specIsOp_any (o : Y_Op) (hf : FitO (co_Op o)) (w : World) (hr : RowsRd w w.heap.size (rw_Op o)) :
  Calls Try.prog 130 #[vv_Op o] w fun e w' => e = .returned (.bool (isO (co_Op o))) ∧ Below w.heap.size w w' := by
 have HRR := Lib.hid (fun w' (h : Below w.heap.size w w') => (((rdO hr).below h).more h.size : Reads w' w'.heap.size o.f_Record.a (L5.cellsF o.f_Record.l)))
 have HFO := Lib.hid (show FitO ⟨o.f_Kind, o.f_Store, o.f_Key, o.f_Record.l, o.f_Field⟩ from hf)
 clear hf hr
 obtain ⟨kd, st, ⟨kk, kn, kt⟩, ⟨ra, rc, rl⟩, fd⟩ := o
 try unfold vv_Op
 dsimp only at HRR HFO ⊢
 obtain ⟨bn, hbn⟩ : ∃ b, isN st.data.toList = b := ⟨_, rfl⟩
 obtain ⟨bk, hbk⟩ : ∃ b, isK (⟨kk, kn, kt⟩ : K) = b := ⟨_, rfl⟩
 obtain ⟨br, hbr⟩ : ∃ b, isR rl = b := ⟨_, rfl⟩
 obtain ⟨bf, hbf⟩ : ∃ b, isN fd.data.toList = b := ⟨_, rfl⟩
 obtain ⟨c0, hc0⟩ : ∃ b, (fd.toList == []) = b := ⟨_, rfl⟩
 have HNA := fun w => L5.specIsName_any st HFO.out.store w
 rw [hbn] at HNA
 replace HNA := Lib.hid HNA
 have HNF := fun w => L5.specIsName_any fd HFO.out.field w
 rw [hbf] at HNF
 replace HNF := Lib.hid HNF
 have HKY := fun w => L4.specIsKey_any (⟨kk, kn, kt⟩ : K) (by have h : kt.size ≤ 1099511627776 := HFO.out.text; show kt.size ≤ _; omega) w
 rw [hbk] at HKY
 unfold L4.K.v at HKY
 dsimp only at HKY
 replace HKY := Lib.hid HKY
 have HRC := fun w' (h : Below w.heap.size w w') => L5.specIsRecord_any ra rc rl (by have h : rl.length ≤ 1048576 := HFO.out.len; omega) HFO.out.small w' (HRR.out w' h)
 rw [hbr] at HRC
 replace HRC := Lib.hid HRC
 have HB : isO (co_Op ⟨kd, st, ⟨kk, kn, kt⟩, ⟨ra, rc, rl⟩, fd⟩) = (L1.inB kd 1 6 && (bn && ((kd == 5 || bk) && (br && (if kd = 6 then bf else c0))))) := by rw [← hbn, ← hbk, ← hbr, ← hbf, ← hc0]; rfl
 clear hbn hbk hbr hbf
 rw [HB]
 clear HB
 obtain ⟨bi, hbi⟩ : ∃ b, L1.inB kd 1 6 = b := ⟨_, rfl⟩
 have HIA := fun w => L1.l1In_any kd 1 6 w
 rw [hbi] at HIA ⊢
 replace HIA := Lib.hid HIA
 clear hbi
 generalize hB : (bi && _) = B
 have HB := Lib.hid hB.symm
 clear hB
 have S1 := Lib.hid (show Sl.Sep w _ [_] from L4.push_box (Sl.Sep.start w) 148 #[.int .i64 kd, .string st, .int .i64 kk, .int .i64 kn, .string kt, .slice ra rl.length rc, .string fd] (w.heap.size) (by simp))
 obtain ⟨wa, hwa⟩ : ∃ w_, w_ = (w.alloc (.cells #[.int .i64 kd, .string st, .int .i64 kk, .int .i64 kn, .string kt, .slice ra rl.length rc, .string fd] 148)) := ⟨_, rfl⟩
 rw [← hwa] at S1
 go_enter Try.func130, Try.ntmps130
 go_upto_region 1 with fail
 rw [← hwa]
 clear hwa
 obtain ⟨f0, f1, f2, f3, f4, f5, f6⟩ := Bag.cs7 S1.out 0 rfl
 cases bi with
 | false =>
  go_wp2_with fail
  go_at_call 91
  refine (HIA.out _).mono ?_
  rintro e w1 ⟨rfl, rfl⟩
  go_wp2_with fail
  go_ret
  exact ⟨by rw [HB.out]; simp [*], S1.out.old⟩
 | true =>
  go_wp2_with fail
  go_at_call 91
  refine (HIA.out _).mono ?_
  rintro e w1 ⟨rfl, rfl⟩
  cases bn with
  | false =>
   go_wp2_with fail
   go_at_call 109
   refine (HNA.out _).mono ?_
   rintro e w2 ⟨rfl, rfl⟩
   go_wp2_with fail
   go_ret
   exact ⟨by rw [HB.out]; simp [*], S1.out.old⟩
  | true =>
   go_wp2_with fail
   go_at_call 109
   refine (HNA.out _).mono ?_
   rintro e w2 ⟨rfl, rfl⟩
   by_cases h5 : kd = 5
   ·
    have h5' : (kd == 5) = true := by simp [h5]
    cases br with
    | false =>
     go_wp2_with fail
     go_at_call 86
     refine (HRC.out _ S1.out.old).mono ?_
     rintro e w3 ⟨rfl, hb⟩
     clear f0 f1 f2 f3 f4 f5 f6
     have S2 := Lib.hid (S1.out.keep hb)
     clear S1
     clear hb
     obtain ⟨f0, f1, f2, f3, f4, f5, f6⟩ := Bag.cs7 S2.out 0 rfl
     go_wp2_with fail
     go_ret
     exact ⟨by rw [HB.out]; simp [*], S2.out.old⟩
    | true =>
     go_wp2_with fail
     go_at_call 86
     refine (HRC.out _ S1.out.old).mono ?_
     rintro e w3 ⟨rfl, hb⟩
     clear f0 f1 f2 f3 f4 f5 f6
     have S2 := Lib.hid (S1.out.keep hb)
     clear S1
     clear hb
     obtain ⟨f0, f1, f2, f3, f4, f5, f6⟩ := Bag.cs7 S2.out 0 rfl
     by_cases h6 : kd = 6
     ·
      exact absurd h6 (by omega)
     ·
      have h6' : (kd == 6) = false := by simp [h6]
      go_wp2_with fail
      go_ret
      exact ⟨by rw [HB.out]; simp [*], S2.out.old⟩
   ·
    have h5' : (kd == 5) = false := by simp [h5]
    cases bk with
    | false =>
     go_wp2_with fail
     go_at_call 85
     refine (HKY.out _).mono ?_
     rintro e w3 ⟨rfl, hb⟩
     clear f0 f1 f2 f3 f4 f5 f6
     have S2 := Lib.hid (S1.out.keep hb)
     clear S1
     clear hb
     obtain ⟨f0, f1, f2, f3, f4, f5, f6⟩ := Bag.cs7 S2.out 0 rfl
     go_wp2_with fail
     go_ret
     exact ⟨by rw [HB.out]; simp [*], S2.out.old⟩
    | true =>
     go_wp2_with fail
     go_at_call 85
     refine (HKY.out _).mono ?_
     rintro e w3 ⟨rfl, hb⟩
     clear f0 f1 f2 f3 f4 f5 f6
     have S2 := Lib.hid (S1.out.keep hb)
     clear S1
     clear hb
     obtain ⟨f0, f1, f2, f3, f4, f5, f6⟩ := Bag.cs7 S2.out 0 rfl
     cases br with
     | false =>
      go_wp2_with fail
      go_at_call 86
      refine (HRC.out _ S2.out.old).mono ?_
      rintro e w4 ⟨rfl, hb⟩
      clear f0 f1 f2 f3 f4 f5 f6
      have S3 := Lib.hid (S2.out.keep hb)
      clear S2
      clear hb
      obtain ⟨f0, f1, f2, f3, f4, f5, f6⟩ := Bag.cs7 S3.out 0 rfl
      go_wp2_with fail
      go_ret
      exact ⟨by rw [HB.out]; simp [*], S3.out.old⟩
     | true =>
      go_wp2_with fail
      go_at_call 86
      refine (HRC.out _ S2.out.old).mono ?_
      rintro e w4 ⟨rfl, hb⟩
      clear f0 f1 f2 f3 f4 f5 f6
      have S3 := Lib.hid (S2.out.keep hb)
      clear S2
      clear hb
      obtain ⟨f0, f1, f2, f3, f4, f5, f6⟩ := Bag.cs7 S3.out 0 rfl
      by_cases h6 : kd = 6
      ·
       have h6' : (kd == 6) = true := by simp [h6]
       cases bf with
       | false =>
        go_wp2_with fail
        go_at_call 109
        refine (HNF.out _).mono ?_
        rintro e w5 ⟨rfl, rfl⟩
        go_wp2_with fail
        go_ret
        exact ⟨by rw [HB.out]; simp [*], S3.out.old⟩
       | true =>
        go_wp2_with fail
        go_at_call 109
        refine (HNF.out _).mono ?_
        rintro e w5 ⟨rfl, rfl⟩
        go_wp2_with fail
        go_ret
        exact ⟨by rw [HB.out]; simp [*], S3.out.old⟩
      ·
       have h6' : (kd == 6) = false := by simp [h6]
       go_wp2_with fail
       go_ret
       exact ⟨by rw [HB.out]; simp [*], S3.out.old⟩
end Go.Proofs.Ytojcdmgcbgpdmaa.L9

set_option linter.unusedSimpArgs false
namespace Go.Proofs.Ytojcdmgcbgpdmaa.L10
open V L6 L9
open L4 (K isK cmpK)
open L5 (F isR isN string_geq)
open Go.Op (bytesLess)
open Go.ChangeShapes Go.WideShapes Go.ChangeAt Go.RowKit Mem Sl Ex L2 Sv Bag

theorem infoL10Sd_Tx : ∃ i, Try.prog.info? 161 = some i ∧ i.zero = some (.agg #[.int .i64 0, .slice none 0 0, .int .i64 0, .int .i64 0, .slice none 0 0]) ∧ i.size = 5 ∧ i.bytes = 72 := Ex.infoOf _ _ _ _ (by kernel_rfl)
set_option maxHeartbeats 8000000 in
theorem specNewTx_any (a : Option Addr) (c : Nat) (ts : List Y_Tx) (hl : ts.length ≤ 1048576) (hf : ∀ t ∈ coS_Tx ts, FitT t) (a2 : Option Addr) (c2 : Nat) (os2 : List Y_Op) (hl2 : os2.length ≤ 1048576) (hf2 : ∀ o ∈ coS_Op os2, FitO o) (w : World) (hr : Reads w w.heap.size a (ts.flatMap cl_Tx)) (hx : RowsRd w w.heap.size (rws_Tx ts)) (hr2 : Reads w w.heap.size a2 (os2.flatMap cl_Op)) (hx2 : RowsRd w w.heap.size (rws_Op os2)) :
  Calls Try.prog 65 #[.agg #[.slice a ts.length c], .slice a2 os2.length c2] w (GaveQNB w (newX (coS_Tx ts) (coS_Op os2)) (newN (coS_Tx ts) (coS_Op os2)) (newB (coS_Tx ts) (coS_Op os2))) := by
 have HCQ := Lib.hid (fun w' (h : Below w.heap.size w w') => l10Copy_any a c ts hl hf w' ((hr.below h).more h.size) ((hx.below h).more h.size))
 have HCE := Lib.hid (fun w' (h : Below w.heap.size w w') => l9Copy_any a2 c2 os2 hl2 hf2 w' ((hr2.below h).more h.size) ((hx2.below h).more h.size))
 have HR := Lib.hid (fun w' (h : Below w.heap.size w w') => hr.below h)
 have HX := Lib.hid (fun w' (h : Below w.heap.size w w') => (hx.below h).more h.size)
 have HF := Lib.hid hf
 obtain ⟨N, hN⟩ : ∃ n, n = ts.length := ⟨_, rfl⟩
 rw [← hN] at hl ⊢
 have hl' : (N : Int) ≤ 1048576 := by omega
 have HN := Lib.hid hN
 clear hN hr hx hf
 have HR2 := Lib.hid (fun w' (h : Below w.heap.size w w') => hr2.below h)
 have HX2 := Lib.hid (fun w' (h : Below w.heap.size w w') => (hx2.below h).more h.size)
 have HF2 := Lib.hid hf2
 obtain ⟨N2, hN2⟩ : ∃ n, n = os2.length := ⟨_, rfl⟩
 rw [← hN2] at hl2 ⊢
 have hl2' : (N2 : Int) ≤ 1048576 := by omega
 have HN2 := Lib.hid hN2
 clear hN2 hr2 hx2 hf2
 obtain ⟨iX9, hi1, hi2, hi3, hi4⟩ := infoL10Sd_Tx
 have HIX9 := Lib.hid (And.intro hi1 (And.intro hi2 (And.intro hi3 hi4)))
 clear hi1 hi2 hi3 hi4
 rw [← HN.out] at HCQ
 rw [← HN2.out] at HCE
 have HSL := Lib.hid (show (coS_Tx ts).length = N ∧ (coS_Op os2).length = N2 from by rw [coT_len, coS_len, HN.out, HN2.out]; exact ⟨rfl, rfl⟩)
 obtain ⟨RX, hRX⟩ : ∃ x, newX (coS_Tx ts) (coS_Op os2) = x := ⟨_, rfl⟩
 rw [hRX]
 obtain ⟨RN, hRN⟩ : ∃ x, newN (coS_Tx ts) (coS_Op os2) = x := ⟨_, rfl⟩
 rw [hRN]
 obtain ⟨RB, hRB⟩ : ∃ x, newB (coS_Tx ts) (coS_Op os2) = x := ⟨_, rfl⟩
 rw [hRB]
 have HRR := Lib.hid (And.intro hRX (And.intro hRN hRB))
 clear hRX hRN hRB
 have S1 := Lib.hid (show Sl.Sep w _ [_, _] from L4.push_box (L4.push_box (Sl.Sep.start w) 98 #[.slice a N c] (w.heap.size) (by simp)) 98 #[.slice none 0 0] (w.heap.size + 1) (by simp))
 obtain ⟨wa, hwa⟩ : ∃ w_, w_ = ((w.alloc (.cells #[.slice a N c] 98)).alloc (.cells #[.slice none 0 0] 98)) := ⟨_, rfl⟩
 rw [← hwa] at S1
 go_enter Try.func65, Try.ntmps65
 go_upto_region 1 with fail
 rw [← hwa]
 clear hwa
 have f0 := Bag.cs1 S1.out 0 rfl
 have f1 := Bag.cs1 S1.out 1 rfl
 go_wp2_with fail
 go_at_call 135
 refine (HCQ.out _ S1.out.old).mono ?_
 rintro e w1 ⟨A1, C1, ys, rfl, hcy, ho, hb⟩
 clear f0 f1
 have S2 := Lib.hid (show Sl.Sep w _ [_, _, Bag.bag (rs_Tx A1 C1 ys)] from Bag.push_bag S1.out hb ho)
 clear S1
 clear hb ho
 have hyl : ys.length = N := by have h := congrArg List.length hcy; rw [coT_len, coT_len] at h; rw [h, HN.out]
 have HYL := Lib.hid hyl
 have hyb : ys.length ≤ 1048576 := by omega
 clear hyl
 have HCY := Lib.hid hcy
 clear hcy
 have HFLY := Lib.hid (show (ys.flatMap cl_Tx).length = ys.length * 5 from V.flat_len cl_Tx_len _)
 have f0 := Bag.cs1 S2.out 0 rfl
 go_upto_region 2 with fail
 clear f0
 have S3 := Lib.hid (show Sl.Sep w _ [_, _, _, _] from L4.push_box S2.out 98 #[.slice A1 ys.length C1] w1.heap.size rfl)
 clear S2
 obtain ⟨g1, hg⟩ : ∃ g', g' = w1.heap.size := ⟨_, rfl⟩
 rw [← hg] at S3 ⊢
 clear hg
 generalize w1.alloc (.cells #[.slice A1 ys.length C1] 98) = w2 at S3 ⊢
 have S4 := Lib.hid (show Sl.Sep w _ [_, _, Bag.bag ([row_Tx A1 C1 ys] ++ rws_Tx ys), L4.boxR g1 98 #[.slice A1 ys.length C1]] from S3.out)
 clear S3
 have S5 := Lib.hid (show Sl.Sep w _ [_, _, Bag.bag ([row_Tx A1 C1 ys]), _, Bag.bag (rws_Tx ys)] from Bag.bag_split S4.out 2 rfl)
 clear S4
 have S6 := Lib.hid (show Sl.Sep w _ [_, _, Sv.ownV 161 5 A1 C1 ys.length (ys.flatMap cl_Tx), _, _] from Bag.one_of_bag S5.out 2 (r := row_Tx A1 C1 ys) rfl)
 clear S5
 by_cases h6 : (6 : Int) ≤ (N : Int)
 ·
  skip
  have f0 := Bag.cs1 S6.out 0 rfl
  have f1 := Bag.cs1 S6.out 1 rfl
  have f2 := Bag.cs1 S6.out 3 rfl
  have z0 := Bag.free_at S6.out 1 rfl 0
  go_wp2_with fail
  clear f0 f1 f2 z0
  have S7 := Lib.hid (show Sl.Sep w _ [_, L4.boxR (w.heap.size + 1) 98 #[.slice A1 ys.length C1], _, _, _] from L5.put_box5 (S6.out) 1 rfl 0 (.slice A1 ys.length C1))
  clear S6
  have f0 := Bag.cs1 S7.out 1 rfl
  refine bodyPost_ret (v := .tuple #[.agg #[.slice A1 ys.length C1], .int .i64 0, .bool false]) (by simp [results, Try.results65, go_sem, *]) rfl ?_
  clear f0
  obtain ⟨e1, e2, e3⟩ := new_no (q := coS_Tx ts) (ops := coS_Op os2) (by unfold newB; rw [decide_eq_false (by rw [HSL.out.1]; omega)]; rfl)
  rw [HRR.out.1] at e1
  rw [HRR.out.2.1] at e2
  rw [HRR.out.2.2] at e3
  have S90 := Lib.hid (Bag.bag_of_one S7.out 2 (r := row_Tx A1 C1 ys) rfl)
  have S91 := Lib.hid (Bag.bag_join S90.out 2 4 (by decide) rfl rfl)
  exact ⟨A1, C1, ys, by rw [e2, e3], by rw [HCY.out, e1], Bag.bag_from S91.out 2 rfl, S91.out.old⟩
 ·
  skip
  have h6' : (N : Int) < 6 := by omega
  by_cases h62 : (6 : Int) < (N2 : Int)
  ·
   skip
   have f0 := Bag.cs1 S6.out 0 rfl
   have f1 := Bag.cs1 S6.out 1 rfl
   have f2 := Bag.cs1 S6.out 3 rfl
   have z0 := Bag.free_at S6.out 1 rfl 0
   go_wp2_with fail
   clear f0 f1 f2 z0
   have S7 := Lib.hid (show Sl.Sep w _ [_, L4.boxR (w.heap.size + 1) 98 #[.slice A1 ys.length C1], _, _, _] from L5.put_box5 (S6.out) 1 rfl 0 (.slice A1 ys.length C1))
   clear S6
   have f0 := Bag.cs1 S7.out 1 rfl
   refine bodyPost_ret (v := .tuple #[.agg #[.slice A1 ys.length C1], .int .i64 0, .bool false]) (by simp [results, Try.results65, go_sem, *]) rfl ?_
   clear f0
   obtain ⟨e1, e2, e3⟩ := new_no (q := coS_Tx ts) (ops := coS_Op os2) (new_bad (okL_long (by rw [HSL.out.2]; omega)))
   rw [HRR.out.1] at e1
   rw [HRR.out.2.1] at e2
   rw [HRR.out.2.2] at e3
   have S90 := Lib.hid (Bag.bag_of_one S7.out 2 (r := row_Tx A1 C1 ys) rfl)
   have S91 := Lib.hid (Bag.bag_join S90.out 2 4 (by decide) rfl rfl)
   exact ⟨A1, C1, ys, by rw [e2, e3], by rw [HCY.out, e1], Bag.bag_from S91.out 2 rfl, S91.out.old⟩
  ·
   skip
   have f0 := Bag.cs1 S6.out 0 rfl
   have f1 := Bag.cs1 S6.out 1 rfl
   have f2 := Bag.cs1 S6.out 3 rfl
   go_wp2_with fail
   clear f0 f1 f2
   go_loopw [8] (fun i wr => ∃ k : Nat, k ≤ N2 ∧ i = .int .i64 k ∧ Hid ((∀ j (h1 : j < (coS_Op os2).length), j < k → isO (coS_Op os2)[j] = true) ∧ Sl.Sep w wr [L4.boxR w.heap.size 98 #[.slice a N c], L4.boxR (w.heap.size + 1) 98 #[.slice none 0 0], Sv.ownV 161 5 A1 C1 ys.length (ys.flatMap cl_Tx), L4.boxR g1 98 #[.slice A1 ys.length C1], Bag.bag (rws_Tx ys)])) (fun i _ => N2 - (intOf i).toNat)
   case atStart => exact ⟨0, Nat.zero_le _, rfl, And.intro (fun j h1 h => absurd h (by omega)) S6.out⟩
   case round =>
    obtain ⟨k, hk, rfl, hrel⟩ := hrel
    have HA := Lib.hid hrel.out.1
    have S70 := Lib.hid hrel.out.2
    clear hrel S6
    by_cases hlt : (k : Int) < (N2 : Int)
    ·
     skip
     have hkl : k < os2.length := by have := HN2.out; omega
     obtain ⟨x, hx⟩ : ∃ x, os2[k]? = some x := ⟨_, List.getElem?_eq_getElem hkl⟩
     obtain ⟨oad2, e'⟩ := el_some cl_Op_len (by decide) (HR2.out _ S70.out.old) hkl
     subst e'
     have hro := fun w' (h : Below w.heap.size w w') => rdOs (HX2.out w' h) hx
     have hrr := fun w' (h : Below w.heap.size w w') => rdO (rdOs (HX2.out w' h) hx)
     obtain ⟨kd2, st2, ⟨kk2, kn2, kt2⟩, ⟨ra2, rc2, rl2⟩, fd2⟩ := x
     have HK2 := Lib.hid (fun w' (h : Below w.heap.size w w') => el7 cl_Op_len (HR2.out _ h) hx rfl)
     dsimp only at HK2 hrr
     have HRO2 := Lib.hid hro
     have HRR2 := Lib.hid hrr
     have HC2 := Lib.hid (show (coS_Op os2)[k]? = some (⟨kd2, st2, ⟨kk2, kn2, kt2⟩, rl2, fd2⟩ : X_Op) from coS_at hx)
     have HFO2 := Lib.hid (HF2.out _ (List.mem_of_getElem? HC2.out))
     clear hx hrr hro
     obtain ⟨bo, hbo⟩ : ∃ b, isO (⟨kd2, st2, ⟨kk2, kn2, kt2⟩, rl2, fd2⟩ : X_Op) = b := ⟨_, rfl⟩
     have HIO := fun w' (h : Below w.heap.size w w') => (specIsOp_any (⟨kd2, st2, ⟨kk2, kn2, kt2⟩, ⟨ra2, rc2, rl2⟩, fd2⟩ : Y_Op) HFO2.out w' (HRO2.out w' h)).mono (R' := fun e w2 => e = .returned (.bool bo) ∧ Below w'.heap.size w' w2) (fun e w2 hh => ⟨by rw [← hbo]; exact hh.1, hh.2⟩)
     unfold vv_Op at HIO
     dsimp only at HIO
     replace HIO := Lib.hid HIO
     have HBO := Lib.hid hbo
     clear hbo
     obtain ⟨f0, f1, f2, f3, f4, f5, f6⟩ := HK2.out _ S70.out.old
     go_wp2_with fail
     go_at_call 130
     refine (HIO.out _ S70.out.old).mono ?_
     rintro e w3 ⟨rfl, hb⟩
     clear f0 f1 f2 f3 f4 f5 f6
     have S71 := Lib.hid (S70.out.keep hb)
     clear S70
     clear hb
     cases bo with
     | false =>
      have f0 := Bag.cs1 S71.out 0 rfl
      have f1 := Bag.cs1 S71.out 1 rfl
      have f2 := Bag.cs1 S71.out 3 rfl
      have z0 := Bag.free_at S71.out 1 rfl 0
      go_wp2_with fail
      clear f0 f1 f2 z0
      have S72 := Lib.hid (show Sl.Sep w _ [L4.boxR w.heap.size 98 #[.slice a N c], L4.boxR (w.heap.size + 1) 98 #[.slice A1 ys.length C1], Sv.ownV 161 5 A1 C1 ys.length (ys.flatMap cl_Tx), L4.boxR g1 98 #[.slice A1 ys.length C1], Bag.bag (rws_Tx ys)] from L5.put_box5 (S71.out) 1 rfl 0 (.slice A1 ys.length C1))
      clear S71
      have f0 := Bag.cs1 S72.out 1 rfl
      refine bodyPost_ret (v := .tuple #[.agg #[.slice A1 ys.length C1], .int .i64 0, .bool false]) (by simp [results, Try.results65, go_sem, *]) rfl ?_
      clear f0
      obtain ⟨e1, e2, e3⟩ := new_no (q := coS_Tx ts) (ops := coS_Op os2) (new_bad (okL_out HC2.out HBO.out))
      rw [HRR.out.1] at e1
      rw [HRR.out.2.1] at e2
      rw [HRR.out.2.2] at e3
      have S90 := Lib.hid (Bag.bag_of_one S72.out 2 (r := row_Tx A1 C1 ys) rfl)
      have S91 := Lib.hid (Bag.bag_join S90.out 2 4 (by decide) rfl rfl)
      exact ⟨A1, C1, ys, by rw [e2, e3], by rw [HCY.out, e1], Bag.bag_from S91.out 2 rfl, S91.out.old⟩
     | true =>
      go_wp2_with fail
      go_roundw
      case rel => exact ⟨k + 1, by omega, by go_num, And.intro (fun j h1 h => by
       by_cases e : j < k
       ·
        exact HA.out j h1 e
       ·
        obtain rfl : j = k := by omega
        rw [val_of HC2.out]; exact HBO.out) S71.out⟩
      case measure => simp [intOf]; omega
    ·
     skip
     have HOK := Lib.hid (show okL (coS_Op os2) = true from okL_all (by rw [HSL.out.2]; omega) (fun j h1 => HA.out j h1 (by rw [HSL.out.2] at h1; omega)))
     clear HA
     by_cases h0 : (0 : Int) < (N : Int)
     rotate_left
     ·
      skip
      skip
      have HID := Lib.hid (show idQ (coS_Tx ts) = 1 from idQ_none (by rw [HSL.out.1]; omega))
      have f0 := Bag.cs1 S70.out 0 rfl
      have f1 := Bag.cs1 S70.out 1 rfl
      have f2 := Bag.cs1 S70.out 3 rfl
      go_upto_region 12 with fail
      clear f0 f1 f2
      refine Reg.wp_region_late (fun w' => (w'.cell? ⟨w.heap.size + 1, 0, none⟩ = some (.slice none 0 0))) (fun w' => (w'.cell? ⟨g1, 0, none⟩ = some (.slice A1 ys.length C1))) 9 (by kernel_rfl) (Bag.cs1 (Bag.drew1 S70.out) 1 rfl) (Bag.cs1 (Bag.drew1 S70.out) 3 rfl) (fun hS hL => ?_)
      have S71 := Lib.hid (Bag.drew1 S70.out)
      clear S70
      generalize World.drew _ = w3 at hS hL S71 ⊢
      refine Reg.early_op (i := 0) (v := ?_) rfl (by kernel_rfl) (by kernel_rfl) (by kernel_rfl) rfl (by kernel_rfl) (by kernel_rfl) (fun _ _ _ h => h) (by rfl) ?_ hS hL ?_
      rotate_left
      ·
       (intro w hSw hSv; (try dsimp only at hSw); (try dsimp only at hSv); go_simp; try with_reducible rfl)
      try simp only [zp0, zp1, zp2, zp3, zp4]
      refine Reg.early_op (i := 1) (v := ?_) rfl (by kernel_rfl) (by kernel_rfl) (by kernel_rfl) rfl (by kernel_rfl) (by kernel_rfl) (fun _ _ _ h => h) (by rfl) ?_ hS hL ?_
      rotate_left
      ·
       (intro w hSw hSv; (try dsimp only at hSw); (try dsimp only at hSv); go_simp; try with_reducible rfl)
      try simp only [zp0, zp1, zp2, zp3, zp4]
      refine Reg.early_op (i := 2) (v := ?_) rfl (by kernel_rfl) (by kernel_rfl) (by kernel_rfl) rfl (by kernel_rfl) (by kernel_rfl) (fun _ _ _ h => h) (by rfl) ?_ hS hL ?_
      rotate_left
      ·
       (intro w hSw hSv; (try dsimp only at hSw); (try dsimp only at hSv); go_simp; try with_reducible rfl)
      try simp only [zp0, zp1, zp2, zp3, zp4]
      refine Reg.early_op (i := 3) (v := ?_) rfl (by kernel_rfl) (by kernel_rfl) (by kernel_rfl) rfl (by kernel_rfl) (by kernel_rfl) (fun _ _ _ h => h) (by rfl) ?_ hS hL ?_
      rotate_left
      ·
       (intro w hSw hSv; (try dsimp only at hSw); (try dsimp only at hSv); go_simp; try with_reducible rfl)
      try simp only [zp0, zp1, zp2, zp3, zp4]
      refine Reg.only_op (i := 4) rfl (by kernel_rfl) (fun K hK => ?_)
      go_simp
      go_at_call 136
      refine (HCE.out _ S71.out.old).mono ?_
      rintro e w4 ⟨A5, C5, zs, rfl, hcz, ho, hb⟩
      have S72 := Lib.hid (show Sl.Sep w _ [_, _, _, _, _, Bag.bag (rs_Op A5 C5 zs)] from Bag.push_bag S71.out hb ho)
      clear S71
      clear hb ho
      have HCZ := Lib.hid hcz
      clear hcz
      go_wp2_with fail
      clear hL
      refine hK.out _ _ (Bag.cs1 S72.out 1 rfl) (Bag.cs1 S72.out 3 rfl) (fun hS hL => ?_)
      clear hK K
      try simp only [zp0, zp1, zp2, zp3, zp4]
      refine Reg.early_op (i := 5) (v := ?_) rfl (by kernel_rfl) (by kernel_rfl) (by kernel_rfl) rfl (by kernel_rfl) (by kernel_rfl) (fun _ _ _ h => h) (by rfl) ?_ hS hL ?_
      rotate_left
      ·
       (intro w hSw hSv; (try dsimp only at hSw); (try dsimp only at hSv); go_simp; try with_reducible rfl)
      try simp only [zp0, zp1, zp2, zp3, zp4]
      refine Reg.only_op (i := 6) rfl (by kernel_rfl) (fun K hK => ?_)
      go_simp
      have S73 := Lib.hid (show Sl.Sep w _ [_, _, _, _, _, _, Sv.ownV 161 5 (some ⟨w4.heap.size, 0, none⟩) 1 1 ([(⟨1, A5, C5, zs, 0, 0, none, 0, []⟩ : Y_Tx)].flatMap cl_Tx)] from Sv.push_own S72.out ((Below.refl _ _).alloc (Nat.le_refl _) _) (OwnV.madeAt w4 161 5 1 w4.heap.size #[.int .i64 1, .slice A5 zs.length C5, .int .i64 0, .int .i64 0, .slice none 0 0] rfl (Nat.le_refl _) rfl (by decide)))
      clear S72
      obtain ⟨g2, hg⟩ : ∃ g', g' = w4.heap.size := ⟨_, rfl⟩
      rw [← hg] at S73 ⊢
      clear hg
      generalize w4.alloc (.cells #[.int .i64 1, .slice A5 zs.length C5, .int .i64 0, .int .i64 0, .slice none 0 0] 161) = w5 at S73 ⊢
      clear hL
      refine hK.out _ _ (Bag.cs1 S73.out 1 rfl) (Bag.cs1 S73.out 3 rfl) (fun hS hL => ?_)
      clear hK K
      try simp only [zp0, zp1, zp2, zp3, zp4]
      refine Reg.only_op (i := 7) rfl (by kernel_rfl) (fun K hK => ?_)
      refine Sv.step_append_s S73.out 2 rfl rfl _ _ 96 (by rfl) iX9 (.agg #[.int .i64 0, .slice none 0 0, .int .i64 0, .int .i64 0, .slice none 0 0]) 72 Try.underlying96 HIX9.out.1 HIX9.out.2.1 HIX9.out.2.2.1 HIX9.out.2.2.2 rfl (by omega) _ (by rfl) rfl _ _ 1 _ _ ([(⟨1, A5, C5, zs, 0, 0, none, 0, []⟩ : Y_Tx)].flatMap cl_Tx) (by rfl) rfl ((Sv.own_at S73.out 6 rfl).reads) rfl (V.one_flat cl_Tx_one _) (by unfold maxLen; omega) (by omega) ?_
      intro a3' c3' w6 hA
      have S74 := Lib.hid (show Sl.Sep w _ [_, _, Sv.ownV 161 5 a3' c3' (ys.length + 1) (ys.flatMap cl_Tx ++ ([(⟨1, A5, C5, zs, 0, 0, none, 0, []⟩ : Y_Tx)].flatMap cl_Tx)), _, _, _, Sv.ownV 161 5 (some ⟨g2, 0, none⟩) 1 1 ([(⟨1, A5, C5, zs, 0, 0, none, 0, []⟩ : Y_Tx)].flatMap cl_Tx)] from hA)
      clear S73
      clear hA
      clear hL
      refine hK.out _ _ (Bag.cs1 S74.out 1 rfl) (Bag.cs1 S74.out 3 rfl) (fun hS hL => ?_)
      clear hK K
      try simp only [zp0, zp1, zp2, zp3, zp4]
      refine Reg.early_op (i := 8) (v := ?_) rfl (by kernel_rfl) (by kernel_rfl) (by kernel_rfl) rfl (by kernel_rfl) (by kernel_rfl) (fun _ _ _ h => h) (by rfl) ?_ hS hL ?_
      rotate_left
      ·
       (intro w hSw hSv; (try dsimp only at hSw); (try dsimp only at hSv); go_simp; try with_reducible rfl)
      try simp only [zp0, zp1, zp2, zp3, zp4]
      refine Reg.late_op (i := 9) rfl (by kernel_rfl) rfl (fun K hK => ?_)
      have f0 := Bag.cs1 S74.out 3 rfl
      have z0 := Bag.free_at S74.out 3 rfl 0
      go_simp
      clear f0 z0
      have S75 := Lib.hid (show Sl.Sep w _ [_, _, _, L4.boxR g1 98 #[.slice a3' (ys.length + 1) c3'], _, _, _] from L5.put_box5 (S74.out) 3 rfl 0 (.slice a3' (ys.length + 1) c3'))
      clear S74
      refine hK.out _ _ (Bag.cs1 S75.out 1 rfl) (fun hS => ?_)
      clear hL
      clear hK K
      try simp only [zp0, zp1, zp2, zp3, zp4]
      refine Reg.anyL_done (by kernel_rfl) ?_ _
      have f0 := Bag.cs1 S75.out 0 rfl
      have f1 := Bag.cs1 S75.out 1 rfl
      have f2 := Bag.cs1 S75.out 3 rfl
      clear f0 f1 f2
      have f0 := Bag.cs1 S75.out 1 rfl
      have f1 := Bag.cs1 S75.out 3 rfl
      have z0 := Bag.free_at S75.out 1 rfl 0
      go_wp2_with fail
      clear f0 f1 z0
      have S76 := Lib.hid (show Sl.Sep w _ [_, L4.boxR (w.heap.size + 1) 98 #[.slice a3' (ys.length + 1) c3'], _, _, _, _, _] from L5.put_box5 (S75.out) 1 rfl 0 (.slice a3' (ys.length + 1) c3'))
      clear S75
      have f0 := Bag.cs1 S76.out 1 rfl
      refine bodyPost_ret (v := .tuple #[.agg #[.slice a3' (ys.length + 1) c3'], .int .i64 1, .bool true]) (by simp [results, Try.results65, go_sem, *]) rfl ?_
      clear f0
      have S77 := Lib.hid (show Sl.Sep w _ [_, _, _] from Bag.take S76.out [2, 4, 5] (by rfl) (by decide))
      clear S76
      have S78 := Lib.hid (show Sl.Sep w _ [_, _, _, Sv.ownV 26 3 none 0 0 (([] : List LS).flatMap cl_Store)] from Sv.push_own S77.out (Below.refl _ _) (OwnV.nil _ _ _ _))
      clear S77
      have S79 := Lib.hid (show Sl.Sep w _ [_, _, _, Bag.bag ([row_Store none 0 []])] from Bag.bag_of_one S78.out 3 (r := row_Store none 0 []) rfl)
      clear S78
      have S80 := Lib.hid (show Sl.Sep w _ [_, _, Bag.bag ((rs_Op A5 C5 zs) ++ ([row_Store none 0 []])), Bag.bag ([])] from Bag.bag_join S79.out 2 3 (by decide) rfl rfl)
      clear S79
      have S81 := Lib.hid (show Sl.Sep w _ [_, _, _] from Bag.take S80.out [0, 1, 2] (by rfl) (by decide))
      clear S80
      have S82 := Lib.hid (show Sl.Sep w _ [_, Bag.bag (rws_Tx ys ++ ((rs_Op A5 C5 zs) ++ ([row_Store none 0 []]))), Bag.bag ([])] from Bag.bag_join S81.out 1 2 (by decide) rfl rfl)
      clear S81
      have S83 := Lib.hid (show Sl.Sep w _ [_, _] from Bag.take S82.out [0, 1] (by rfl) (by decide))
      clear S82
      obtain ⟨e1, e2, e3⟩ := new_yes (q := coS_Tx ts) (ops := coS_Op os2) (by unfold newB; rw [decide_eq_true (by rw [HSL.out.1]; omega), HOK.out]; rfl)
      rw [HRR.out.1, HID.out] at e1
      rw [HRR.out.2.1, HID.out] at e2
      rw [HRR.out.2.2] at e3
      have S90 := Lib.hid (Bag.bag_of_one S83.out 0 (r := row_Tx a3' c3' (ys ++ [(⟨1, A5, C5, zs, 0, 0, none, 0, []⟩ : Y_Tx)])) (by unfold RowS.res row_Tx; dsimp only; rw [List.length_append, List.flatMap_append]; rfl))
      have S91 := Lib.hid (Bag.bag_join S90.out 0 1 (by decide) rfl rfl)
      refine ⟨a3', c3', ys ++ [(⟨1, A5, C5, zs, 0, 0, none, 0, []⟩ : Y_Tx)], by rw [e2, e3, List.length_append]; rfl, ?_, ?_, S91.out.old⟩
      ·
       rw [e1, coS_Tx_eq, List.map_append, ← coS_Tx_eq, HCY.out]; exact congrArg (fun u => _ ++ [u]) (by unfold co_Tx; dsimp only; rw [HCZ.out]; rfl)
      ·
       have h := Bag.bag_from S91.out 0 rfl
       unfold rs_Tx
       rw [rws_Tx_app, show rws_Tx [(⟨1, A5, C5, zs, 0, 0, none, 0, []⟩ : Y_Tx)] = rs_Op A5 C5 zs ++ [row_Store none 0 []] from by rw [rws_Tx_eq]; simp; rfl]
       exact h
     obtain ⟨m, hm⟩ : ∃ m, N = m + 1 := ⟨N - 1, by omega⟩
     have hki : (N : Int) - 1 = (m : Int) := by omega
     have hmw : IntKind.i64.wrap (m : Int) = (m : Int) := IntWalk.i64_in _ ⟨by omega, by omega⟩
     have hmi : (m : Int) < (N : Int) := by omega
     have hml : m < ts.length := by have := HN.out; omega
     have HM := Lib.hid hm
     clear hm
     obtain ⟨x, hx⟩ : ∃ x, ts[m]? = some x := ⟨_, List.getElem?_eq_getElem hml⟩
     obtain ⟨tad, e'⟩ := el_some cl_Tx_len (by decide) (HR.out _ S70.out.old) hml
     subst e'
     have HKx := Lib.hid (fun w' (h : Below w.heap.size w w') => el5 cl_Tx_len (HR.out _ h) hx rfl)
     have HRx := Lib.hid (fun w' (h : Below w.heap.size w w') => rdTs (HX.out w' h) hx)
     have HCx := Lib.hid (coT_at hx)
     have HFx := Lib.hid (HF.out _ (List.mem_of_getElem? HCx.out))
     clear hx
     obtain ⟨ID, hID⟩ : ∃ u : Int, IntKind.i64.wrap (x.f_Id + 1) = u := ⟨_, rfl⟩
     have HID := Lib.hid (show idQ (coS_Tx ts) = ID from by rw [idQ_last HCx.out (by rw [HSL.out.1, HM.out])]; exact hID)
     have f0 := Bag.cs1 S70.out 0 rfl
     have f1 := Bag.cs1 S70.out 1 rfl
     have f2 := Bag.cs1 S70.out 3 rfl
     obtain ⟨f3, f4, f5, f6, f7⟩ := HKx.out _ S70.out.old
     go_upto_region 12 with fail
     clear f0 f1 f2 f3 f4 f5 f6 f7
     clear hID hki hmw hmi
     refine Reg.wp_region_late (fun w' => (w'.cell? ⟨w.heap.size + 1, 0, none⟩ = some (.slice none 0 0))) (fun w' => (w'.cell? ⟨g1, 0, none⟩ = some (.slice A1 ys.length C1))) 9 (by kernel_rfl) (Bag.cs1 (Bag.drew1 S70.out) 1 rfl) (Bag.cs1 (Bag.drew1 S70.out) 3 rfl) (fun hS hL => ?_)
     have S71 := Lib.hid (Bag.drew1 S70.out)
     clear S70
     generalize World.drew _ = w3 at hS hL S71 ⊢
     refine Reg.early_op (i := 0) (v := ?_) rfl (by kernel_rfl) (by kernel_rfl) (by kernel_rfl) rfl (by kernel_rfl) (by kernel_rfl) (fun _ _ _ h => h) (by rfl) ?_ hS hL ?_
     rotate_left
     ·
      (intro w hSw hSv; (try dsimp only at hSw); (try dsimp only at hSv); go_simp; try with_reducible rfl)
     try simp only [zp0, zp1, zp2, zp3, zp4]
     refine Reg.early_op (i := 1) (v := ?_) rfl (by kernel_rfl) (by kernel_rfl) (by kernel_rfl) rfl (by kernel_rfl) (by kernel_rfl) (fun _ _ _ h => h) (by rfl) ?_ hS hL ?_
     rotate_left
     ·
      (intro w hSw hSv; (try dsimp only at hSw); (try dsimp only at hSv); go_simp; try with_reducible rfl)
     try simp only [zp0, zp1, zp2, zp3, zp4]
     refine Reg.early_op (i := 2) (v := ?_) rfl (by kernel_rfl) (by kernel_rfl) (by kernel_rfl) rfl (by kernel_rfl) (by kernel_rfl) (fun _ _ _ h => h) (by rfl) ?_ hS hL ?_
     rotate_left
     ·
      (intro w hSw hSv; (try dsimp only at hSw); (try dsimp only at hSv); go_simp; try with_reducible rfl)
     try simp only [zp0, zp1, zp2, zp3, zp4]
     refine Reg.early_op (i := 3) (v := ?_) rfl (by kernel_rfl) (by kernel_rfl) (by kernel_rfl) rfl (by kernel_rfl) (by kernel_rfl) (fun _ _ _ h => h) (by rfl) ?_ hS hL ?_
     rotate_left
     ·
      (intro w hSw hSv; (try dsimp only at hSw); (try dsimp only at hSv); go_simp; try with_reducible rfl)
     try simp only [zp0, zp1, zp2, zp3, zp4]
     refine Reg.only_op (i := 4) rfl (by kernel_rfl) (fun K hK => ?_)
     go_simp
     go_at_call 136
     refine (HCE.out _ S71.out.old).mono ?_
     rintro e w4 ⟨A5, C5, zs, rfl, hcz, ho, hb⟩
     have S72 := Lib.hid (show Sl.Sep w _ [_, _, _, _, _, Bag.bag (rs_Op A5 C5 zs)] from Bag.push_bag S71.out hb ho)
     clear S71
     clear hb ho
     have HCZ := Lib.hid hcz
     clear hcz
     go_wp2_with fail
     clear hL
     refine hK.out _ _ (Bag.cs1 S72.out 1 rfl) (Bag.cs1 S72.out 3 rfl) (fun hS hL => ?_)
     clear hK K
     try simp only [zp0, zp1, zp2, zp3, zp4]
     refine Reg.early_op (i := 5) (v := ?_) rfl (by kernel_rfl) (by kernel_rfl) (by kernel_rfl) rfl (by kernel_rfl) (by kernel_rfl) (fun _ _ _ h => h) (by rfl) ?_ hS hL ?_
     rotate_left
     ·
      (intro w hSw hSv; (try dsimp only at hSw); (try dsimp only at hSv); go_simp; try with_reducible rfl)
     try simp only [zp0, zp1, zp2, zp3, zp4]
     refine Reg.only_op (i := 6) rfl (by kernel_rfl) (fun K hK => ?_)
     go_simp
     have S73 := Lib.hid (show Sl.Sep w _ [_, _, _, _, _, _, Sv.ownV 161 5 (some ⟨w4.heap.size, 0, none⟩) 1 1 ([(⟨ID, A5, C5, zs, 0, 0, none, 0, []⟩ : Y_Tx)].flatMap cl_Tx)] from Sv.push_own S72.out ((Below.refl _ _).alloc (Nat.le_refl _) _) (OwnV.madeAt w4 161 5 1 w4.heap.size #[.int .i64 ID, .slice A5 zs.length C5, .int .i64 0, .int .i64 0, .slice none 0 0] rfl (Nat.le_refl _) rfl (by decide)))
     clear S72
     obtain ⟨g2, hg⟩ : ∃ g', g' = w4.heap.size := ⟨_, rfl⟩
     rw [← hg] at S73 ⊢
     clear hg
     generalize w4.alloc (.cells #[.int .i64 ID, .slice A5 zs.length C5, .int .i64 0, .int .i64 0, .slice none 0 0] 161) = w5 at S73 ⊢
     clear hL
     refine hK.out _ _ (Bag.cs1 S73.out 1 rfl) (Bag.cs1 S73.out 3 rfl) (fun hS hL => ?_)
     clear hK K
     try simp only [zp0, zp1, zp2, zp3, zp4]
     refine Reg.only_op (i := 7) rfl (by kernel_rfl) (fun K hK => ?_)
     refine Sv.step_append_s S73.out 2 rfl rfl _ _ 96 (by rfl) iX9 (.agg #[.int .i64 0, .slice none 0 0, .int .i64 0, .int .i64 0, .slice none 0 0]) 72 Try.underlying96 HIX9.out.1 HIX9.out.2.1 HIX9.out.2.2.1 HIX9.out.2.2.2 rfl (by omega) _ (by rfl) rfl _ _ 1 _ _ ([(⟨ID, A5, C5, zs, 0, 0, none, 0, []⟩ : Y_Tx)].flatMap cl_Tx) (by rfl) rfl ((Sv.own_at S73.out 6 rfl).reads) rfl (V.one_flat cl_Tx_one _) (by unfold maxLen; omega) (by omega) ?_
     intro a3' c3' w6 hA
     have S74 := Lib.hid (show Sl.Sep w _ [_, _, Sv.ownV 161 5 a3' c3' (ys.length + 1) (ys.flatMap cl_Tx ++ ([(⟨ID, A5, C5, zs, 0, 0, none, 0, []⟩ : Y_Tx)].flatMap cl_Tx)), _, _, _, Sv.ownV 161 5 (some ⟨g2, 0, none⟩) 1 1 ([(⟨ID, A5, C5, zs, 0, 0, none, 0, []⟩ : Y_Tx)].flatMap cl_Tx)] from hA)
     clear S73
     clear hA
     clear hL
     refine hK.out _ _ (Bag.cs1 S74.out 1 rfl) (Bag.cs1 S74.out 3 rfl) (fun hS hL => ?_)
     clear hK K
     try simp only [zp0, zp1, zp2, zp3, zp4]
     refine Reg.early_op (i := 8) (v := ?_) rfl (by kernel_rfl) (by kernel_rfl) (by kernel_rfl) rfl (by kernel_rfl) (by kernel_rfl) (fun _ _ _ h => h) (by rfl) ?_ hS hL ?_
     rotate_left
     ·
      (intro w hSw hSv; (try dsimp only at hSw); (try dsimp only at hSv); go_simp; try with_reducible rfl)
     try simp only [zp0, zp1, zp2, zp3, zp4]
     refine Reg.late_op (i := 9) rfl (by kernel_rfl) rfl (fun K hK => ?_)
     have f0 := Bag.cs1 S74.out 3 rfl
     have z0 := Bag.free_at S74.out 3 rfl 0
     go_simp
     clear f0 z0
     have S75 := Lib.hid (show Sl.Sep w _ [_, _, _, L4.boxR g1 98 #[.slice a3' (ys.length + 1) c3'], _, _, _] from L5.put_box5 (S74.out) 3 rfl 0 (.slice a3' (ys.length + 1) c3'))
     clear S74
     refine hK.out _ _ (Bag.cs1 S75.out 1 rfl) (fun hS => ?_)
     clear hL
     clear hK K
     try simp only [zp0, zp1, zp2, zp3, zp4]
     refine Reg.anyL_done (by kernel_rfl) ?_ _
     have f0 := Bag.cs1 S75.out 0 rfl
     have f1 := Bag.cs1 S75.out 1 rfl
     have f2 := Bag.cs1 S75.out 3 rfl
     clear f0 f1 f2
     have f0 := Bag.cs1 S75.out 1 rfl
     have f1 := Bag.cs1 S75.out 3 rfl
     have z0 := Bag.free_at S75.out 1 rfl 0
     go_wp2_with fail
     clear f0 f1 z0
     have S76 := Lib.hid (show Sl.Sep w _ [_, L4.boxR (w.heap.size + 1) 98 #[.slice a3' (ys.length + 1) c3'], _, _, _, _, _] from L5.put_box5 (S75.out) 1 rfl 0 (.slice a3' (ys.length + 1) c3'))
     clear S75
     have f0 := Bag.cs1 S76.out 1 rfl
     refine bodyPost_ret (v := .tuple #[.agg #[.slice a3' (ys.length + 1) c3'], .int .i64 ID, .bool true]) (by simp [results, Try.results65, go_sem, *]) rfl ?_
     clear f0
     have S77 := Lib.hid (show Sl.Sep w _ [_, _, _] from Bag.take S76.out [2, 4, 5] (by rfl) (by decide))
     clear S76
     have S78 := Lib.hid (show Sl.Sep w _ [_, _, _, Sv.ownV 26 3 none 0 0 (([] : List LS).flatMap cl_Store)] from Sv.push_own S77.out (Below.refl _ _) (OwnV.nil _ _ _ _))
     clear S77
     have S79 := Lib.hid (show Sl.Sep w _ [_, _, _, Bag.bag ([row_Store none 0 []])] from Bag.bag_of_one S78.out 3 (r := row_Store none 0 []) rfl)
     clear S78
     have S80 := Lib.hid (show Sl.Sep w _ [_, _, Bag.bag ((rs_Op A5 C5 zs) ++ ([row_Store none 0 []])), Bag.bag ([])] from Bag.bag_join S79.out 2 3 (by decide) rfl rfl)
     clear S79
     have S81 := Lib.hid (show Sl.Sep w _ [_, _, _] from Bag.take S80.out [0, 1, 2] (by rfl) (by decide))
     clear S80
     have S82 := Lib.hid (show Sl.Sep w _ [_, Bag.bag (rws_Tx ys ++ ((rs_Op A5 C5 zs) ++ ([row_Store none 0 []]))), Bag.bag ([])] from Bag.bag_join S81.out 1 2 (by decide) rfl rfl)
     clear S81
     have S83 := Lib.hid (show Sl.Sep w _ [_, _] from Bag.take S82.out [0, 1] (by rfl) (by decide))
     clear S82
     obtain ⟨e1, e2, e3⟩ := new_yes (q := coS_Tx ts) (ops := coS_Op os2) (by unfold newB; rw [decide_eq_true (by rw [HSL.out.1]; omega), HOK.out]; rfl)
     rw [HRR.out.1, HID.out] at e1
     rw [HRR.out.2.1, HID.out] at e2
     rw [HRR.out.2.2] at e3
     have S90 := Lib.hid (Bag.bag_of_one S83.out 0 (r := row_Tx a3' c3' (ys ++ [(⟨ID, A5, C5, zs, 0, 0, none, 0, []⟩ : Y_Tx)])) (by unfold RowS.res row_Tx; dsimp only; rw [List.length_append, List.flatMap_append]; rfl))
     have S91 := Lib.hid (Bag.bag_join S90.out 0 1 (by decide) rfl rfl)
     refine ⟨a3', c3', ys ++ [(⟨ID, A5, C5, zs, 0, 0, none, 0, []⟩ : Y_Tx)], by rw [e2, e3, List.length_append]; rfl, ?_, ?_, S91.out.old⟩
     ·
      rw [e1, coS_Tx_eq, List.map_append, ← coS_Tx_eq, HCY.out]; exact congrArg (fun u => _ ++ [u]) (by unfold co_Tx; dsimp only; rw [HCZ.out]; rfl)
     ·
      have h := Bag.bag_from S91.out 0 rfl
      unfold rs_Tx
      rw [rws_Tx_app, show rws_Tx [(⟨ID, A5, C5, zs, 0, 0, none, 0, []⟩ : Y_Tx)] = rs_Op A5 C5 zs ++ [row_Store none 0 []] from by rw [rws_Tx_eq]; simp; rfl]
      exact h
end Go.Proofs.Ytojcdmgcbgpdmaa.L10

namespace Go.Proofs.Ytojcdmgcbgpdmaa.V
open Go.ChangeShapes Go.WideShapes Go.ChangeAt Go.RowKit Mem Sl Sv Bag

theorem infoE_Op : ∃ i, Try.prog.info? 148 = some i ∧ i.zero = some (.agg #[.int .i64 0, .string ⟨#[]⟩, .int .i64 0, .int .i64 0, .string ⟨#[]⟩, .slice none 0 0, .string ⟨#[]⟩]) ∧ i.size = 7 ∧ i.bytes = 96 := Ex.infoOf _ _ _ _ (by kernel_rfl)
def Copied_Op (w : World) (x : Y_Op) (e : Ending) (w' : World) : Prop := ∃ y : Y_Op, e = .returned (vv_Op y) ∧ co_Op y = co_Op x ∧ BagOwn w' w.heap.size (rw_Op y) ∧ Below w.heap.size w w'
def CopiedS_Op (w : World) (xs : List Y_Op) (e : Ending) (w' : World) : Prop := ∃ (g : Nat) (ys : List Y_Op), e = .returned (.slice (some ⟨g, 0, none⟩) ys.length ys.length) ∧ coS_Op ys = coS_Op xs ∧ BagOwn w' w.heap.size (rs_Op (some ⟨g, 0, none⟩) ys.length ys) ∧ Below w.heap.size w w'
set_option maxHeartbeats 4000000 in
theorem copyEach_Op (hco : ∀ (x : Y_Op) (hf : L9.FitO (co_Op x)) (w : World) (hr : RowsRd w w.heap.size (rw_Op x)), Calls Try.prog 140 #[vv_Op x] w (Copied_Op w x))
  (a : Option Addr) (c : Nat) (xs : List Y_Op) (hl : xs.length ≤ 1048576) (hf : ∀ x ∈ xs, L9.FitO (co_Op x)) (w : World) (hr : Reads w w.heap.size a (xs.flatMap cl_Op)) (hx : RowsRd w w.heap.size (rws_Op xs)) :
  Calls Try.prog 139 #[.slice a xs.length c, .func (.func 140) #[] #[]] w (CopiedS_Op w xs) := by
 obtain ⟨i0, hi1, hi2, hi3, hi4⟩ := infoE_Op
 have HI := Lib.hid (And.intro hi1 (And.intro hi2 (And.intro hi3 hi4)))
 clear hi1 hi2 hi3 hi4
 have HR := Lib.hid (fun w' (h : Below w.heap.size w w') => hr.below h)
 have HX := Lib.hid (fun w' (h : Below w.heap.size w w') => (hx.below h).more h.size)
 have HF := Lib.hid hf
 have HCO := Lib.hid hco
 obtain ⟨N, hN⟩ : ∃ n, n = xs.length := ⟨_, rfl⟩
 rw [← hN] at hl ⊢
 have hl' : (N : Int) ≤ 1048576 := by omega
 have HN := Lib.hid hN
 clear hN hr hx hf hco
 obtain ⟨Z, hZ⟩ : ∃ Z, Z = (madeCells (Value.agg #[.int .i64 0, .string ⟨#[]⟩, .int .i64 0, .int .i64 0, .string ⟨#[]⟩, .slice none 0 0, .string ⟨#[]⟩]).cells (N * 7)).toList := ⟨_, rfl⟩
 have HZ := Lib.hid (show Z.length = N * 7 by rw [hZ]; simp [madeCells])
 have HZD := Lib.hid hZ
 clear hZ
 have S1 := Lib.hid (show Sl.Sep w w [] from Sl.Sep.start w)
 go_enter Try.func139, Try.ntmps139
 go_upto_region 2 with (at_make; refine Run.wpList_make_s S1.out rfl _ _ 82 rfl 148 i0 (.agg #[.int .i64 0, .string ⟨#[]⟩, .int .i64 0, .int .i64 0, .string ⟨#[]⟩, .slice none 0 0, .string ⟨#[]⟩]) 7 Try.underlying82 HI.out.1 HI.out.2.1 HI.out.2.2.1 _ _ N rfl rfl (by rw [HI.out.2.2.2]; omega) (by unfold maxLen; omega) ?_; intro w1 S')
 obtain ⟨g1, hg⟩ : ∃ g', g' = w.heap.size := ⟨_, rfl⟩
 rw [← hg] at S' ⊢
 clear hg
 have S2 := Lib.hid (show Sl.Sep w _ [Sv.ownV 148 7 (some ⟨g1, 0, none⟩) N N (([] : List Y_Op).flatMap cl_Op ++ Z)] from (by have h := S'; rw [← HZD.out] at h; exact h))
 clear S1
 clear S'
 have S3 := Lib.hid (show Sl.Sep w _ [_, Bag.bag (rws_Op [])] from Bag.push_bag S2.out (Below.refl _ _) (by rw [rws_Op_eq]; exact Bag.BagOwn.nil _ _))
 clear S2
 go_wp2_with fail
 go_loopw [13] (fun i wr => ∃ (k : Nat) (ys : List Y_Op) (Zs : List Value), k ≤ N ∧ i = .int .i64 k ∧ Hid ((ys.map co_Op = (xs.take k).map co_Op ∧ ys.length = k ∧ Zs.length = (N - k) * 7) ∧ Sl.Sep w wr [Sv.ownV 148 7 (some ⟨g1, 0, none⟩) N N (ys.flatMap cl_Op ++ Zs), Bag.bag (rws_Op ys)])) (fun i _ => N - (intOf i).toNat)
 case atStart => exact ⟨0, [], Z, Nat.zero_le _, rfl, And.intro ⟨rfl, rfl, HZ.out⟩ S3.out⟩
 case round =>
  obtain ⟨k, ys, Zs, hk, rfl, hrel⟩ := hrel
  have HC := Lib.hid hrel.out.1
  have S4 := Lib.hid hrel.out.2
  clear hrel S3
  by_cases hlt : (k : Int) < (N : Int)
  ·
   skip
   have hkl : k < xs.length := by have := HN.out; omega
   obtain ⟨x, hx⟩ : ∃ x, xs[k]? = some x := ⟨_, List.getElem?_eq_getElem hkl⟩
   obtain ⟨ad, e'⟩ := el_some cl_Op_len (by decide) (HR.out _ S4.out.old) hkl
   subst e'
   have HK := Lib.hid (fun w' (h : Below w.heap.size w w') => el7 cl_Op_len (HR.out _ h) hx rfl)
   have HTX := Lib.hid (take_next hx)
   have HL := Lib.hid (show (ys.flatMap cl_Op).length = k * 7 ∧ k * 7 + 7 ≤ (ys.flatMap cl_Op ++ Zs).length ∧ 7 ≤ Zs.length from by have h1 := HC.out.2.1; have h2 := HC.out.2.2; rw [List.length_append, flat_len cl_Op_len, h1, h2]; omega)
   have HCI := Lib.hid (fun w' (h : Below w.heap.size w w') => HCO.out x (HF.out x (List.mem_of_getElem? hx)) w' (rd_el (rw_ := rw_Op) (by rw [← rws_Op_eq]; exact HX.out w' h) hx))
   dsimp only [vv_Op] at HCI
   clear hx
   obtain ⟨f0, f1, f2, f3, f4, f5, f6⟩ := HK.out _ S4.out.old
   go_upto_region 5 with fail
   clear f0 f1 f2 f3 f4 f5 f6
   have S5 := Lib.hid (show Sl.Sep w _ [_, _, _] from L4.push_box S4.out 148 #[.int .i64 x.f_Kind, .string x.f_Store, .int .i64 x.f_Key.kind, .int .i64 x.f_Key.n, .string x.f_Key.text, .slice x.f_Record.a x.f_Record.l.length x.f_Record.c, .string x.f_Field] wr.heap.size rfl)
   clear S4
   obtain ⟨g2, hg⟩ : ∃ g', g' = wr.heap.size := ⟨_, rfl⟩
   rw [← hg] at S5 ⊢
   clear hg
   generalize wr.alloc (.cells #[.int .i64 x.f_Kind, .string x.f_Store, .int .i64 x.f_Key.kind, .int .i64 x.f_Key.n, .string x.f_Key.text, .slice x.f_Record.a x.f_Record.l.length x.f_Record.c, .string x.f_Field] 148) = w2 at S5 ⊢
   obtain ⟨f0, f1, f2, f3, f4, f5, f6⟩ := Bag.cs7 S5.out 2 rfl
   obtain ⟨f7, f8, f9, f10, f11, f12, f13⟩ := HK.out _ S5.out.old
   go_wp2_with fail
   go_at_call 140
   refine (HCI.out _ S5.out.old).mono ?_
   rintro e w3 ⟨y, rfl, hcy, ho, hb⟩
   clear f0 f1 f2 f3 f4 f5 f6 f7 f8 f9 f10 f11 f12 f13
   have S6 := Lib.hid (show Sl.Sep w _ [_, _, L4.boxR g2 148 #[.int .i64 x.f_Kind, .string x.f_Store, .int .i64 x.f_Key.kind, .int .i64 x.f_Key.n, .string x.f_Key.text, .slice x.f_Record.a x.f_Record.l.length x.f_Record.c, .string x.f_Field], Bag.bag (rw_Op y)] from Bag.push_bag S5.out hb ho)
   clear S5
   clear hb ho
   have HCY := Lib.hid hcy
   clear hcy
   try dsimp only [vv_Op]
   have q0 := (Sv.own_at S6.out 0 rfl).cell (k * 7) (by have := HL.out.2.1; omega)
   have z0 := (Sv.own_at S6.out 0 rfl).free (k * 7)
   have q1 := (Sv.own_at S6.out 0 rfl).cell (k * 7 + 1) (by have := HL.out.2.1; omega)
   have z1 := (Sv.own_at S6.out 0 rfl).free (k * 7 + 1)
   have q2 := (Sv.own_at S6.out 0 rfl).cell (k * 7 + 2) (by have := HL.out.2.1; omega)
   have z2 := (Sv.own_at S6.out 0 rfl).free (k * 7 + 2)
   have q3 := (Sv.own_at S6.out 0 rfl).cell (k * 7 + 3) (by have := HL.out.2.1; omega)
   have z3 := (Sv.own_at S6.out 0 rfl).free (k * 7 + 3)
   have q4 := (Sv.own_at S6.out 0 rfl).cell (k * 7 + 4) (by have := HL.out.2.1; omega)
   have z4 := (Sv.own_at S6.out 0 rfl).free (k * 7 + 4)
   have q5 := (Sv.own_at S6.out 0 rfl).cell (k * 7 + 5) (by have := HL.out.2.1; omega)
   have z5 := (Sv.own_at S6.out 0 rfl).free (k * 7 + 5)
   have q6 := (Sv.own_at S6.out 0 rfl).cell (k * 7 + 6) (by have := HL.out.2.1; omega)
   have z6 := (Sv.own_at S6.out 0 rfl).free (k * 7 + 6)
   go_wp2_with fail
   clear q0 z0 q1 z1 q2 z2 q3 z3 q4 z4 q5 z5 q6 z6
   have S7 := Lib.hid (show Sl.Sep w (World.setCells w3 g1 (k * 7) [.int .i64 y.f_Kind, .string y.f_Store, .int .i64 y.f_Key.kind, .int .i64 y.f_Key.n, .string y.f_Key.text, .slice y.f_Record.a y.f_Record.l.length y.f_Record.c, .string y.f_Field]) [Sv.ownV 148 7 (some ⟨g1, 0, none⟩) N N ((ys ++ [y]).flatMap cl_Op ++ Zs.drop 7), Bag.bag (rws_Op ys), L4.boxR g2 148 #[.int .i64 x.f_Kind, .string x.f_Store, .int .i64 x.f_Key.kind, .int .i64 x.f_Key.n, .string x.f_Key.text, .slice x.f_Record.a x.f_Record.l.length x.f_Record.c, .string x.f_Field], Bag.bag (rw_Op y)] from (by have h := Run.put_run S6.out 0 rfl (k * 7) [.int .i64 y.f_Kind, .string y.f_Store, .int .i64 y.f_Key.kind, .int .i64 y.f_Key.n, .string y.f_Key.text, .slice y.f_Record.a y.f_Record.l.length y.f_Record.c, .string y.f_Field] (by have := HL.out.2.1; simpa using this); rw [Run.over_at _ _ _ _ HL.out.1 (by have := HL.out.2.2; simpa using this)] at h; rw [List.flatMap_append, List.append_assoc]; exact h))
   clear S6
   have S8 := Lib.hid (show Sl.Sep w _ [Sv.ownV 148 7 (some ⟨g1, 0, none⟩) N N ((ys ++ [y]).flatMap cl_Op ++ Zs.drop 7), Bag.bag (rws_Op ys ++ (rw_Op y)), L4.boxR g2 148 #[.int .i64 x.f_Kind, .string x.f_Store, .int .i64 x.f_Key.kind, .int .i64 x.f_Key.n, .string x.f_Key.text, .slice x.f_Record.a x.f_Record.l.length x.f_Record.c, .string x.f_Field], Bag.bag ([])] from Bag.bag_join S7.out 1 3 (by decide) rfl rfl)
   clear S7
   have S9 := Lib.hid (show Sl.Sep w _ [_, _] from Bag.take S8.out [0, 1] (by rfl) (by decide))
   clear S8
   go_roundw
   case rel =>
    refine ⟨k + 1, ys ++ [y], Zs.drop 7, by omega, by go_num, And.intro ⟨?_, ?_, ?_⟩ ?_⟩
    ·
     rw [HTX.out, List.map_append, List.map_append, HC.out.1]; rw [show [y].map co_Op = [x].map co_Op from congrArg (fun u => [u]) HCY.out]
    ·
     rw [List.length_append, HC.out.2.1]; rfl
    ·
     rw [List.length_drop, HC.out.2.2]; omega
    ·
     rw [rws_Op_app]; rw [show rws_Op [y] = rw_Op y from by rw [rws_Op_eq]; simp]; exact S9.out
   case measure => simp [intOf]; omega
  ·
   skip
   obtain rfl : k = N := by omega
   go_wp2_with fail
   go_ret
   obtain ⟨hc1, hc2, hc3⟩ := HC.out
   have hZs : Zs = [] := List.eq_nil_of_length_eq_zero (by rw [hc3]; omega)
   have hcon : ys.map co_Op = xs.map co_Op := by rw [hc1, List.take_of_length_le (by have := HN.out; omega)]
   have S90 := Lib.hid (Bag.bag_of_one S4.out 0 (r := row_Op (some ⟨g1, 0, none⟩) k ys) (by unfold RowS.res row_Op; dsimp only; rw [hZs, List.append_nil, hc2]; rfl))
   have S91 := Lib.hid (Bag.bag_join S90.out 0 1 (by decide) rfl rfl)
   have hb := Bag.bag_from S91.out 0 rfl
   subst hc2
   exact ⟨_, ys, rfl, by rw [coS_Op_eq, coS_Op_eq]; exact hcon, hb, S91.out.old⟩
end Go.Proofs.Ytojcdmgcbgpdmaa.V

namespace Go.Proofs.Ytojcdmgcbgpdmaa.V
open Go.ChangeShapes Go.WideShapes Go.ChangeAt Go.RowKit Mem Sl Sv Bag

theorem infoE_Store : ∃ i, Try.prog.info? 26 = some i ∧ i.zero = some (.agg #[.string ⟨#[]⟩, .slice none 0 0, .int .i64 0]) ∧ i.size = 3 ∧ i.bytes = 48 := Ex.infoOf _ _ _ _ (by kernel_rfl)
def Copied_Store (w : World) (x : L6.LS) (e : Ending) (w' : World) : Prop := ∃ y : L6.LS, e = .returned (vv_Store y) ∧ co_Store y = co_Store x ∧ BagOwn w' w.heap.size (rw_Store y) ∧ Below w.heap.size w w'
def CopiedS_Store (w : World) (xs : List L6.LS) (e : Ending) (w' : World) : Prop := ∃ (g : Nat) (ys : List L6.LS), e = .returned (.slice (some ⟨g, 0, none⟩) ys.length ys.length) ∧ coS_Store ys = coS_Store xs ∧ BagOwn w' w.heap.size (rs_Store (some ⟨g, 0, none⟩) ys.length ys) ∧ Below w.heap.size w w'
set_option maxHeartbeats 4000000 in
theorem copyEach_Store (hco : ∀ (x : L6.LS) (hf : L6.FitS (co_Store x)) (w : World) (hr : RowsRd w w.heap.size (rw_Store x)), Calls Try.prog 80 #[vv_Store x] w (Copied_Store w x))
  (a : Option Addr) (c : Nat) (xs : List L6.LS) (hl : xs.length ≤ 1048576) (hf : ∀ x ∈ xs, L6.FitS (co_Store x)) (w : World) (hr : Reads w w.heap.size a (xs.flatMap cl_Store)) (hx : RowsRd w w.heap.size (rws_Store xs)) :
  Calls Try.prog 228 #[.slice a xs.length c, .func (.func 80) #[] #[]] w (CopiedS_Store w xs) := by
 obtain ⟨i0, hi1, hi2, hi3, hi4⟩ := infoE_Store
 have HI := Lib.hid (And.intro hi1 (And.intro hi2 (And.intro hi3 hi4)))
 clear hi1 hi2 hi3 hi4
 have HR := Lib.hid (fun w' (h : Below w.heap.size w w') => hr.below h)
 have HX := Lib.hid (fun w' (h : Below w.heap.size w w') => (hx.below h).more h.size)
 have HF := Lib.hid hf
 have HCO := Lib.hid hco
 obtain ⟨N, hN⟩ : ∃ n, n = xs.length := ⟨_, rfl⟩
 rw [← hN] at hl ⊢
 have hl' : (N : Int) ≤ 1048576 := by omega
 have HN := Lib.hid hN
 clear hN hr hx hf hco
 obtain ⟨Z, hZ⟩ : ∃ Z, Z = (madeCells (Value.agg #[.string ⟨#[]⟩, .slice none 0 0, .int .i64 0]).cells (N * 3)).toList := ⟨_, rfl⟩
 have HZ := Lib.hid (show Z.length = N * 3 by rw [hZ]; simp [madeCells])
 have HZD := Lib.hid hZ
 clear hZ
 have S1 := Lib.hid (show Sl.Sep w w [] from Sl.Sep.start w)
 go_enter Try.func228, Try.ntmps228
 go_upto_region 2 with (at_make; refine Run.wpList_make_s S1.out rfl _ _ 159 rfl 26 i0 (.agg #[.string ⟨#[]⟩, .slice none 0 0, .int .i64 0]) 3 Try.underlying159 HI.out.1 HI.out.2.1 HI.out.2.2.1 _ _ N rfl rfl (by rw [HI.out.2.2.2]; omega) (by unfold maxLen; omega) ?_; intro w1 S')
 obtain ⟨g1, hg⟩ : ∃ g', g' = w.heap.size := ⟨_, rfl⟩
 rw [← hg] at S' ⊢
 clear hg
 have S2 := Lib.hid (show Sl.Sep w _ [Sv.ownV 26 3 (some ⟨g1, 0, none⟩) N N (([] : List L6.LS).flatMap cl_Store ++ Z)] from (by have h := S'; rw [← HZD.out] at h; exact h))
 clear S1
 clear S'
 have S3 := Lib.hid (show Sl.Sep w _ [_, Bag.bag (rws_Store [])] from Bag.push_bag S2.out (Below.refl _ _) (by rw [rws_Store_eq]; exact Bag.BagOwn.nil _ _))
 clear S2
 go_wp2_with fail
 go_loopw [13] (fun i wr => ∃ (k : Nat) (ys : List L6.LS) (Zs : List Value), k ≤ N ∧ i = .int .i64 k ∧ Hid ((ys.map co_Store = (xs.take k).map co_Store ∧ ys.length = k ∧ Zs.length = (N - k) * 3) ∧ Sl.Sep w wr [Sv.ownV 26 3 (some ⟨g1, 0, none⟩) N N (ys.flatMap cl_Store ++ Zs), Bag.bag (rws_Store ys)])) (fun i _ => N - (intOf i).toNat)
 case atStart => exact ⟨0, [], Z, Nat.zero_le _, rfl, And.intro ⟨rfl, rfl, HZ.out⟩ S3.out⟩
 case round =>
  obtain ⟨k, ys, Zs, hk, rfl, hrel⟩ := hrel
  have HC := Lib.hid hrel.out.1
  have S4 := Lib.hid hrel.out.2
  clear hrel S3
  by_cases hlt : (k : Int) < (N : Int)
  ·
   skip
   have hkl : k < xs.length := by have := HN.out; omega
   obtain ⟨x, hx⟩ : ∃ x, xs[k]? = some x := ⟨_, List.getElem?_eq_getElem hkl⟩
   obtain ⟨ad, e'⟩ := el_some cl_Store_len (by decide) (HR.out _ S4.out.old) hkl
   subst e'
   have HK := Lib.hid (fun w' (h : Below w.heap.size w w') => el3 cl_Store_len (HR.out _ h) hx rfl)
   have HTX := Lib.hid (take_next hx)
   have HL := Lib.hid (show (ys.flatMap cl_Store).length = k * 3 ∧ k * 3 + 3 ≤ (ys.flatMap cl_Store ++ Zs).length ∧ 3 ≤ Zs.length from by have h1 := HC.out.2.1; have h2 := HC.out.2.2; rw [List.length_append, flat_len cl_Store_len, h1, h2]; omega)
   have HCI := Lib.hid (fun w' (h : Below w.heap.size w w') => HCO.out x (HF.out x (List.mem_of_getElem? hx)) w' (rd_el (rw_ := rw_Store) (by rw [← rws_Store_eq]; exact HX.out w' h) hx))
   dsimp only [vv_Store] at HCI
   clear hx
   obtain ⟨f0, f1, f2⟩ := HK.out _ S4.out.old
   go_upto_region 5 with fail
   clear f0 f1 f2
   have S5 := Lib.hid (show Sl.Sep w _ [_, _, _] from L4.push_box S4.out 26 #[.string x.name, .slice x.a x.xs.length x.c, .int .i64 x.auto] wr.heap.size rfl)
   clear S4
   obtain ⟨g2, hg⟩ : ∃ g', g' = wr.heap.size := ⟨_, rfl⟩
   rw [← hg] at S5 ⊢
   clear hg
   generalize wr.alloc (.cells #[.string x.name, .slice x.a x.xs.length x.c, .int .i64 x.auto] 26) = w2 at S5 ⊢
   obtain ⟨f0, f1, f2⟩ := Bag.cs3 S5.out 2 rfl
   obtain ⟨f3, f4, f5⟩ := HK.out _ S5.out.old
   go_wp2_with fail
   go_at_call 80
   refine (HCI.out _ S5.out.old).mono ?_
   rintro e w3 ⟨y, rfl, hcy, ho, hb⟩
   clear f0 f1 f2 f3 f4 f5
   have S6 := Lib.hid (show Sl.Sep w _ [_, _, L4.boxR g2 26 #[.string x.name, .slice x.a x.xs.length x.c, .int .i64 x.auto], Bag.bag (rw_Store y)] from Bag.push_bag S5.out hb ho)
   clear S5
   clear hb ho
   have HCY := Lib.hid hcy
   clear hcy
   try dsimp only [vv_Store]
   have q0 := (Sv.own_at S6.out 0 rfl).cell (k * 3) (by have := HL.out.2.1; omega)
   have z0 := (Sv.own_at S6.out 0 rfl).free (k * 3)
   have q1 := (Sv.own_at S6.out 0 rfl).cell (k * 3 + 1) (by have := HL.out.2.1; omega)
   have z1 := (Sv.own_at S6.out 0 rfl).free (k * 3 + 1)
   have q2 := (Sv.own_at S6.out 0 rfl).cell (k * 3 + 2) (by have := HL.out.2.1; omega)
   have z2 := (Sv.own_at S6.out 0 rfl).free (k * 3 + 2)
   go_wp2_with fail
   clear q0 z0 q1 z1 q2 z2
   have S7 := Lib.hid (show Sl.Sep w (World.setCells w3 g1 (k * 3) [.string y.name, .slice y.a y.xs.length y.c, .int .i64 y.auto]) [Sv.ownV 26 3 (some ⟨g1, 0, none⟩) N N ((ys ++ [y]).flatMap cl_Store ++ Zs.drop 3), Bag.bag (rws_Store ys), L4.boxR g2 26 #[.string x.name, .slice x.a x.xs.length x.c, .int .i64 x.auto], Bag.bag (rw_Store y)] from (by have h := Run.put_run S6.out 0 rfl (k * 3) [.string y.name, .slice y.a y.xs.length y.c, .int .i64 y.auto] (by have := HL.out.2.1; simpa using this); rw [Run.over_at _ _ _ _ HL.out.1 (by have := HL.out.2.2; simpa using this)] at h; rw [List.flatMap_append, List.append_assoc]; exact h))
   clear S6
   have S8 := Lib.hid (show Sl.Sep w _ [Sv.ownV 26 3 (some ⟨g1, 0, none⟩) N N ((ys ++ [y]).flatMap cl_Store ++ Zs.drop 3), Bag.bag (rws_Store ys ++ (rw_Store y)), L4.boxR g2 26 #[.string x.name, .slice x.a x.xs.length x.c, .int .i64 x.auto], Bag.bag ([])] from Bag.bag_join S7.out 1 3 (by decide) rfl rfl)
   clear S7
   have S9 := Lib.hid (show Sl.Sep w _ [_, _] from Bag.take S8.out [0, 1] (by rfl) (by decide))
   clear S8
   go_roundw
   case rel =>
    refine ⟨k + 1, ys ++ [y], Zs.drop 3, by omega, by go_num, And.intro ⟨?_, ?_, ?_⟩ ?_⟩
    ·
     rw [HTX.out, List.map_append, List.map_append, HC.out.1]; rw [show [y].map co_Store = [x].map co_Store from congrArg (fun u => [u]) HCY.out]
    ·
     rw [List.length_append, HC.out.2.1]; rfl
    ·
     rw [List.length_drop, HC.out.2.2]; omega
    ·
     rw [rws_Store_app]; rw [show rws_Store [y] = rw_Store y from by rw [rws_Store_eq]; simp]; exact S9.out
   case measure => simp [intOf]; omega
  ·
   skip
   obtain rfl : k = N := by omega
   go_wp2_with fail
   go_ret
   obtain ⟨hc1, hc2, hc3⟩ := HC.out
   have hZs : Zs = [] := List.eq_nil_of_length_eq_zero (by rw [hc3]; omega)
   have hcon : ys.map co_Store = xs.map co_Store := by rw [hc1, List.take_of_length_le (by have := HN.out; omega)]
   have S90 := Lib.hid (Bag.bag_of_one S4.out 0 (r := row_Store (some ⟨g1, 0, none⟩) k ys) (by unfold RowS.res row_Store; dsimp only; rw [hZs, List.append_nil, hc2]; rfl))
   have S91 := Lib.hid (Bag.bag_join S90.out 0 1 (by decide) rfl rfl)
   have hb := Bag.bag_from S91.out 0 rfl
   subst hc2
   exact ⟨_, ys, rfl, by rw [coS_Store_eq, coS_Store_eq]; exact hcon, hb, S91.out.old⟩
end Go.Proofs.Ytojcdmgcbgpdmaa.V

namespace Go.Proofs.Ytojcdmgcbgpdmaa.V
open Go.ChangeShapes Go.WideShapes Go.ChangeAt Go.RowKit Mem Sl Sv Bag

theorem infoE_Tx : ∃ i, Try.prog.info? 161 = some i ∧ i.zero = some (.agg #[.int .i64 0, .slice none 0 0, .int .i64 0, .int .i64 0, .slice none 0 0]) ∧ i.size = 5 ∧ i.bytes = 72 := Ex.infoOf _ _ _ _ (by kernel_rfl)
def Copied_Tx (w : World) (x : Y_Tx) (e : Ending) (w' : World) : Prop := ∃ y : Y_Tx, e = .returned (vv_Tx y) ∧ co_Tx y = co_Tx x ∧ BagOwn w' w.heap.size (rw_Tx y) ∧ Below w.heap.size w w'
def CopiedS_Tx (w : World) (xs : List Y_Tx) (e : Ending) (w' : World) : Prop := ∃ (g : Nat) (ys : List Y_Tx), e = .returned (.slice (some ⟨g, 0, none⟩) ys.length ys.length) ∧ coS_Tx ys = coS_Tx xs ∧ BagOwn w' w.heap.size (rs_Tx (some ⟨g, 0, none⟩) ys.length ys) ∧ Below w.heap.size w w'
set_option maxHeartbeats 4000000 in
theorem copyEach_Tx (hco : ∀ (x : Y_Tx) (hf : L10.FitT (co_Tx x)) (w : World) (hr : RowsRd w w.heap.size (rw_Tx x)), Calls Try.prog 196 #[vv_Tx x] w (Copied_Tx w x))
  (a : Option Addr) (c : Nat) (xs : List Y_Tx) (hl : xs.length ≤ 1048576) (hf : ∀ x ∈ xs, L10.FitT (co_Tx x)) (w : World) (hr : Reads w w.heap.size a (xs.flatMap cl_Tx)) (hx : RowsRd w w.heap.size (rws_Tx xs)) :
  Calls Try.prog 195 #[.slice a xs.length c, .func (.func 196) #[] #[]] w (CopiedS_Tx w xs) := by
 obtain ⟨i0, hi1, hi2, hi3, hi4⟩ := infoE_Tx
 have HI := Lib.hid (And.intro hi1 (And.intro hi2 (And.intro hi3 hi4)))
 clear hi1 hi2 hi3 hi4
 have HR := Lib.hid (fun w' (h : Below w.heap.size w w') => hr.below h)
 have HX := Lib.hid (fun w' (h : Below w.heap.size w w') => (hx.below h).more h.size)
 have HF := Lib.hid hf
 have HCO := Lib.hid hco
 obtain ⟨N, hN⟩ : ∃ n, n = xs.length := ⟨_, rfl⟩
 rw [← hN] at hl ⊢
 have hl' : (N : Int) ≤ 1048576 := by omega
 have HN := Lib.hid hN
 clear hN hr hx hf hco
 obtain ⟨Z, hZ⟩ : ∃ Z, Z = (madeCells (Value.agg #[.int .i64 0, .slice none 0 0, .int .i64 0, .int .i64 0, .slice none 0 0]).cells (N * 5)).toList := ⟨_, rfl⟩
 have HZ := Lib.hid (show Z.length = N * 5 by rw [hZ]; simp [madeCells])
 have HZD := Lib.hid hZ
 clear hZ
 have S1 := Lib.hid (show Sl.Sep w w [] from Sl.Sep.start w)
 go_enter Try.func195, Try.ntmps195
 go_upto_region 2 with (at_make; refine Run.wpList_make_s S1.out rfl _ _ 96 rfl 161 i0 (.agg #[.int .i64 0, .slice none 0 0, .int .i64 0, .int .i64 0, .slice none 0 0]) 5 Try.underlying96 HI.out.1 HI.out.2.1 HI.out.2.2.1 _ _ N rfl rfl (by rw [HI.out.2.2.2]; omega) (by unfold maxLen; omega) ?_; intro w1 S')
 obtain ⟨g1, hg⟩ : ∃ g', g' = w.heap.size := ⟨_, rfl⟩
 rw [← hg] at S' ⊢
 clear hg
 have S2 := Lib.hid (show Sl.Sep w _ [Sv.ownV 161 5 (some ⟨g1, 0, none⟩) N N (([] : List Y_Tx).flatMap cl_Tx ++ Z)] from (by have h := S'; rw [← HZD.out] at h; exact h))
 clear S1
 clear S'
 have S3 := Lib.hid (show Sl.Sep w _ [_, Bag.bag (rws_Tx [])] from Bag.push_bag S2.out (Below.refl _ _) (by rw [rws_Tx_eq]; exact Bag.BagOwn.nil _ _))
 clear S2
 go_wp2_with fail
 go_loopw [13] (fun i wr => ∃ (k : Nat) (ys : List Y_Tx) (Zs : List Value), k ≤ N ∧ i = .int .i64 k ∧ Hid ((ys.map co_Tx = (xs.take k).map co_Tx ∧ ys.length = k ∧ Zs.length = (N - k) * 5) ∧ Sl.Sep w wr [Sv.ownV 161 5 (some ⟨g1, 0, none⟩) N N (ys.flatMap cl_Tx ++ Zs), Bag.bag (rws_Tx ys)])) (fun i _ => N - (intOf i).toNat)
 case atStart => exact ⟨0, [], Z, Nat.zero_le _, rfl, And.intro ⟨rfl, rfl, HZ.out⟩ S3.out⟩
 case round =>
  obtain ⟨k, ys, Zs, hk, rfl, hrel⟩ := hrel
  have HC := Lib.hid hrel.out.1
  have S4 := Lib.hid hrel.out.2
  clear hrel S3
  by_cases hlt : (k : Int) < (N : Int)
  ·
   skip
   have hkl : k < xs.length := by have := HN.out; omega
   obtain ⟨x, hx⟩ : ∃ x, xs[k]? = some x := ⟨_, List.getElem?_eq_getElem hkl⟩
   obtain ⟨ad, e'⟩ := el_some cl_Tx_len (by decide) (HR.out _ S4.out.old) hkl
   subst e'
   have HK := Lib.hid (fun w' (h : Below w.heap.size w w') => el5 cl_Tx_len (HR.out _ h) hx rfl)
   have HTX := Lib.hid (take_next hx)
   have HL := Lib.hid (show (ys.flatMap cl_Tx).length = k * 5 ∧ k * 5 + 5 ≤ (ys.flatMap cl_Tx ++ Zs).length ∧ 5 ≤ Zs.length from by have h1 := HC.out.2.1; have h2 := HC.out.2.2; rw [List.length_append, flat_len cl_Tx_len, h1, h2]; omega)
   have HCI := Lib.hid (fun w' (h : Below w.heap.size w w') => HCO.out x (HF.out x (List.mem_of_getElem? hx)) w' (rd_el (rw_ := rw_Tx) (by rw [← rws_Tx_eq]; exact HX.out w' h) hx))
   dsimp only [vv_Tx] at HCI
   clear hx
   obtain ⟨f0, f1, f2, f3, f4⟩ := HK.out _ S4.out.old
   go_upto_region 5 with fail
   clear f0 f1 f2 f3 f4
   have S5 := Lib.hid (show Sl.Sep w _ [_, _, _] from L4.push_box S4.out 161 #[.int .i64 x.f_Id, .slice x.f_Ops_a x.f_Ops.length x.f_Ops_c, .int .i64 x.f_At, .int .i64 x.f_State, .slice x.f_Backup_a x.f_Backup.length x.f_Backup_c] wr.heap.size rfl)
   clear S4
   obtain ⟨g2, hg⟩ : ∃ g', g' = wr.heap.size := ⟨_, rfl⟩
   rw [← hg] at S5 ⊢
   clear hg
   generalize wr.alloc (.cells #[.int .i64 x.f_Id, .slice x.f_Ops_a x.f_Ops.length x.f_Ops_c, .int .i64 x.f_At, .int .i64 x.f_State, .slice x.f_Backup_a x.f_Backup.length x.f_Backup_c] 161) = w2 at S5 ⊢
   obtain ⟨f0, f1, f2, f3, f4⟩ := Bag.cs5 S5.out 2 rfl
   obtain ⟨f5, f6, f7, f8, f9⟩ := HK.out _ S5.out.old
   go_wp2_with fail
   go_at_call 196
   refine (HCI.out _ S5.out.old).mono ?_
   rintro e w3 ⟨y, rfl, hcy, ho, hb⟩
   clear f0 f1 f2 f3 f4 f5 f6 f7 f8 f9
   have S6 := Lib.hid (show Sl.Sep w _ [_, _, L4.boxR g2 161 #[.int .i64 x.f_Id, .slice x.f_Ops_a x.f_Ops.length x.f_Ops_c, .int .i64 x.f_At, .int .i64 x.f_State, .slice x.f_Backup_a x.f_Backup.length x.f_Backup_c], Bag.bag (rw_Tx y)] from Bag.push_bag S5.out hb ho)
   clear S5
   clear hb ho
   have HCY := Lib.hid hcy
   clear hcy
   try dsimp only [vv_Tx]
   have q0 := (Sv.own_at S6.out 0 rfl).cell (k * 5) (by have := HL.out.2.1; omega)
   have z0 := (Sv.own_at S6.out 0 rfl).free (k * 5)
   have q1 := (Sv.own_at S6.out 0 rfl).cell (k * 5 + 1) (by have := HL.out.2.1; omega)
   have z1 := (Sv.own_at S6.out 0 rfl).free (k * 5 + 1)
   have q2 := (Sv.own_at S6.out 0 rfl).cell (k * 5 + 2) (by have := HL.out.2.1; omega)
   have z2 := (Sv.own_at S6.out 0 rfl).free (k * 5 + 2)
   have q3 := (Sv.own_at S6.out 0 rfl).cell (k * 5 + 3) (by have := HL.out.2.1; omega)
   have z3 := (Sv.own_at S6.out 0 rfl).free (k * 5 + 3)
   have q4 := (Sv.own_at S6.out 0 rfl).cell (k * 5 + 4) (by have := HL.out.2.1; omega)
   have z4 := (Sv.own_at S6.out 0 rfl).free (k * 5 + 4)
   go_wp2_with fail
   clear q0 z0 q1 z1 q2 z2 q3 z3 q4 z4
   have S7 := Lib.hid (show Sl.Sep w (World.setCells w3 g1 (k * 5) [.int .i64 y.f_Id, .slice y.f_Ops_a y.f_Ops.length y.f_Ops_c, .int .i64 y.f_At, .int .i64 y.f_State, .slice y.f_Backup_a y.f_Backup.length y.f_Backup_c]) [Sv.ownV 161 5 (some ⟨g1, 0, none⟩) N N ((ys ++ [y]).flatMap cl_Tx ++ Zs.drop 5), Bag.bag (rws_Tx ys), L4.boxR g2 161 #[.int .i64 x.f_Id, .slice x.f_Ops_a x.f_Ops.length x.f_Ops_c, .int .i64 x.f_At, .int .i64 x.f_State, .slice x.f_Backup_a x.f_Backup.length x.f_Backup_c], Bag.bag (rw_Tx y)] from (by have h := Run.put_run S6.out 0 rfl (k * 5) [.int .i64 y.f_Id, .slice y.f_Ops_a y.f_Ops.length y.f_Ops_c, .int .i64 y.f_At, .int .i64 y.f_State, .slice y.f_Backup_a y.f_Backup.length y.f_Backup_c] (by have := HL.out.2.1; simpa using this); rw [Run.over_at _ _ _ _ HL.out.1 (by have := HL.out.2.2; simpa using this)] at h; rw [List.flatMap_append, List.append_assoc]; exact h))
   clear S6
   have S8 := Lib.hid (show Sl.Sep w _ [Sv.ownV 161 5 (some ⟨g1, 0, none⟩) N N ((ys ++ [y]).flatMap cl_Tx ++ Zs.drop 5), Bag.bag (rws_Tx ys ++ (rw_Tx y)), L4.boxR g2 161 #[.int .i64 x.f_Id, .slice x.f_Ops_a x.f_Ops.length x.f_Ops_c, .int .i64 x.f_At, .int .i64 x.f_State, .slice x.f_Backup_a x.f_Backup.length x.f_Backup_c], Bag.bag ([])] from Bag.bag_join S7.out 1 3 (by decide) rfl rfl)
   clear S7
   have S9 := Lib.hid (show Sl.Sep w _ [_, _] from Bag.take S8.out [0, 1] (by rfl) (by decide))
   clear S8
   go_roundw
   case rel =>
    refine ⟨k + 1, ys ++ [y], Zs.drop 5, by omega, by go_num, And.intro ⟨?_, ?_, ?_⟩ ?_⟩
    ·
     rw [HTX.out, List.map_append, List.map_append, HC.out.1]; rw [show [y].map co_Tx = [x].map co_Tx from congrArg (fun u => [u]) HCY.out]
    ·
     rw [List.length_append, HC.out.2.1]; rfl
    ·
     rw [List.length_drop, HC.out.2.2]; omega
    ·
     rw [rws_Tx_app]; rw [show rws_Tx [y] = rw_Tx y from by rw [rws_Tx_eq]; simp]; exact S9.out
   case measure => simp [intOf]; omega
  ·
   skip
   obtain rfl : k = N := by omega
   go_wp2_with fail
   go_ret
   obtain ⟨hc1, hc2, hc3⟩ := HC.out
   have hZs : Zs = [] := List.eq_nil_of_length_eq_zero (by rw [hc3]; omega)
   have hcon : ys.map co_Tx = xs.map co_Tx := by rw [hc1, List.take_of_length_le (by have := HN.out; omega)]
   have S90 := Lib.hid (Bag.bag_of_one S4.out 0 (r := row_Tx (some ⟨g1, 0, none⟩) k ys) (by unfold RowS.res row_Tx; dsimp only; rw [hZs, List.append_nil, hc2]; rfl))
   have S91 := Lib.hid (Bag.bag_join S90.out 0 1 (by decide) rfl rfl)
   have hb := Bag.bag_from S91.out 0 rfl
   subst hc2
   exact ⟨_, ys, rfl, by rw [coS_Tx_eq, coS_Tx_eq]; exact hcon, hb, S91.out.old⟩
end Go.Proofs.Ytojcdmgcbgpdmaa.V

namespace Go.Proofs.Ytojcdmgcbgpdmaa.L5
open L4 (boxR push_box box_at)
open Go.ChangeShapes Go.WideShapes Go.ChangeAt Go.RowKit Mem Sl Ex L2 Sv Bag Run

set_option maxHeartbeats 1000000 in
theorem copyRecord_any (a : Option Addr) (c : Nat) (l : List F) (hl : l.length ≤ 1099511627776) (w : World) (hr : Reads w w.heap.size a (cellsF l)) :
  Calls Try.prog 81 #[.agg #[.slice a l.length c]] w fun e w' => ∃ a' c', e = .returned (.agg #[.slice a' l.length c']) ∧ OwnV w' w.heap.size 128 2 a' c' l.length (cellsF l) ∧ Below w.heap.size w w' := by
 obtain ⟨i0, hi, hz0, hz1, hz2⟩ := fieldInfo
 obtain ⟨n, hn⟩ : ∃ n, n = l.length := ⟨_, rfl⟩
 rw [← hn] at hl ⊢
 have HR := Lib.hid (fun w' (h : Below w.heap.size w w') => hr.below h)
 have HC := Lib.hid (show (cellsF l).length = Nat.min n n * 2 by rw [cellsF_length, hn, show Nat.min l.length l.length = l.length from Nat.min_self _])
 have HM := Lib.hid (show (madeCells (Value.agg #[.string ⟨#[]⟩, .int .i64 0]).cells (n * 2)).toList.length = (cellsF l).length by rw [cellsF_length, ← hn]; simp [madeCells])
 have HI := Lib.hid (And.intro hi (And.intro hz0 (And.intro hz1 hz2)))
 have hl' : (n : Int) ≤ 1099511627776 := by omega
 clear hn hr hi hz0 hz1 hz2
 have S1 := Lib.hid (show Sl.Sep w _ [_, _] from L4.push_box (L4.push_box (Sl.Sep.start w) 31 #[.slice a n c] (w.heap.size) (by simp)) 31 #[.slice none 0 0] (w.heap.size + 1) (by simp))
 obtain ⟨wa, hwa⟩ : ∃ u, u = ((w.alloc (.cells #[.slice a n c] 31)).alloc (.cells #[.slice none 0 0] 31)) := ⟨_, rfl⟩
 rw [← hwa] at S1
 go_enter Try.func81, Try.ntmps81
 go_upto_region 1 with fail
 rw [← hwa]
 clear hwa
 have f0 : World.cell? _ ⟨w.heap.size, 0, none⟩ = some (.slice a n c) := Bag.cell_at S1.out 0 rfl 0 rfl
 have f1 : World.cell? _ ⟨w.heap.size + 1, 0, none⟩ = some (.slice none 0 0) := Bag.cell_at S1.out 1 rfl 0 rfl
 go_upto_region 2 with (at_make; refine wpList_make_s S1.out rfl _ _ 29 rfl 128 i0 (.agg #[.string ⟨#[]⟩, .int .i64 0]) 2 Try.underlying29 HI.out.1 HI.out.2.1 HI.out.2.2.1 _ _ n rfl rfl (by rw [HI.out.2.2.2]; omega) (by unfold maxLen; omega) ?_; intro w1 S')
 clear f0 f1
 obtain ⟨g1, hg⟩ : ∃ g', g' = wa.heap.size := ⟨_, rfl⟩
 rw [← hg] at S' ⊢
 clear hg
 have S2 := Lib.hid (show Sl.Sep w _ [L4.boxR w.heap.size 31 #[.slice a n c], L4.boxR (w.heap.size + 1) 31 #[.slice none 0 0], Sv.ownV 128 2 (some ⟨g1, 0, none⟩) n n ((madeCells (Value.agg #[.string ⟨#[]⟩, .int .i64 0]).cells (n * 2)).toList)] from S')
 clear S1
 clear S'
 have f0 : World.cell? _ ⟨w.heap.size, 0, none⟩ = some (.slice a n c) := Bag.cell_at S2.out 0 rfl 0 rfl
 have f1 : World.cell? _ ⟨w.heap.size + 1, 0, none⟩ = some (.slice none 0 0) := Bag.cell_at S2.out 1 rfl 0 rfl
 have hcp := fun ty => run_copy_s (P := Try.prog) S2.out 2 rfl 29 29 ty i0 Try.underlying29 HI.out.1 HI.out.2.2.1 0 n n n c a (cellsF l) HC.out w.heap.size (HR.out _ S2.out.old) (by rw [HM.out]; omega) (cellsF_one l)
 obtain ⟨w2, hw⟩ : ∃ u, u = World.setCells w1 g1 0 (cellsF l) := ⟨_, rfl⟩
 rw [← hw] at hcp
 have HW := Lib.hid hw
 clear hw
 go_upto_region 3 with fail
 clear f0 f1
 have S3 := Lib.hid (show Sl.Sep w _ [_, _, Sv.ownV 128 2 (some ⟨g1, 0, none⟩) n n (cellsF l)] from (by have h := Run.put_run S2.out 2 rfl 0 (cellsF l) (by rw [HM.out]; omega); rw [← HW.out, over_all _ _ HM.out] at h; exact h))
 clear S2
 clear hcp HW
 have f0 : World.cell? _ ⟨w.heap.size, 0, none⟩ = some (.slice a n c) := Bag.cell_at S3.out 0 rfl 0 rfl
 have f1 : World.cell? _ ⟨w.heap.size + 1, 0, none⟩ = some (.slice none 0 0) := Bag.cell_at S3.out 1 rfl 0 rfl
 have z0 := Bag.free_at S3.out 1 rfl 0
 go_wp2_with fail
 clear f0 f1 z0
 have S4 := Lib.hid (show Sl.Sep w _ [_, L4.boxR (w.heap.size + 1) 31 #[.slice (some ⟨g1, 0, none⟩) n n], _] from L5.put_box5 (S3.out) 1 rfl 0 (.slice (some ⟨g1, 0, none⟩) n n))
 clear S3
 have f0 : World.cell? _ ⟨w.heap.size + 1, 0, none⟩ = some (.slice (some ⟨g1, 0, none⟩) n n) := Bag.cell_at S4.out 1 rfl 0 rfl
 refine bodyPost_ret (v := .agg #[.slice (some ⟨g1, 0, none⟩) n n]) (by simp [results, Try.results81, go_sem, *]) rfl ?_
 exact ⟨_, _, rfl, Sv.own_from S4.out 2 rfl, S4.out.old⟩
end Go.Proofs.Ytojcdmgcbgpdmaa.L5

namespace Go.Proofs.Ytojcdmgcbgpdmaa.V
open Go.ChangeShapes Go.WideShapes Go.ChangeAt Go.RowKit Mem Sl Sv Bag

theorem infoE_Item : ∃ i, Try.prog.info? 40 = some i ∧ i.zero = some (.agg #[.int .i64 0, .int .i64 0, .string ⟨#[]⟩, .slice none 0 0]) ∧ i.size = 4 ∧ i.bytes = 56 := Ex.infoOf _ _ _ _ (by kernel_rfl)
def Copied_Item (w : World) (x : L6.LI) (e : Ending) (w' : World) : Prop := ∃ y : L6.LI, e = .returned (vv_Item y) ∧ co_Item y = co_Item x ∧ BagOwn w' w.heap.size (rw_Item y) ∧ Below w.heap.size w w'
def CopiedS_Item (w : World) (xs : List L6.LI) (e : Ending) (w' : World) : Prop := ∃ (g : Nat) (ys : List L6.LI), e = .returned (.slice (some ⟨g, 0, none⟩) ys.length ys.length) ∧ coS_Item ys = coS_Item xs ∧ BagOwn w' w.heap.size (rs_Item (some ⟨g, 0, none⟩) ys.length ys) ∧ Below w.heap.size w w'
set_option maxHeartbeats 4000000 in
theorem copyEach_Item (hco : ∀ (x : L6.LI) (hf : L6.FitI (co_Item x)) (w : World) (hr : RowsRd w w.heap.size (rw_Item x)), Calls Try.prog 165 #[vv_Item x] w (Copied_Item w x))
  (a : Option Addr) (c : Nat) (xs : List L6.LI) (hl : xs.length ≤ 1048576) (hf : ∀ x ∈ xs, L6.FitI (co_Item x)) (w : World) (hr : Reads w w.heap.size a (xs.flatMap cl_Item)) (hx : RowsRd w w.heap.size (rws_Item xs)) :
  Calls Try.prog 164 #[.slice a xs.length c, .func (.func 165) #[] #[]] w (CopiedS_Item w xs) := by
 obtain ⟨i0, hi1, hi2, hi3, hi4⟩ := infoE_Item
 have HI := Lib.hid (And.intro hi1 (And.intro hi2 (And.intro hi3 hi4)))
 clear hi1 hi2 hi3 hi4
 have HR := Lib.hid (fun w' (h : Below w.heap.size w w') => hr.below h)
 have HX := Lib.hid (fun w' (h : Below w.heap.size w w') => (hx.below h).more h.size)
 have HF := Lib.hid hf
 have HCO := Lib.hid hco
 obtain ⟨N, hN⟩ : ∃ n, n = xs.length := ⟨_, rfl⟩
 rw [← hN] at hl ⊢
 have hl' : (N : Int) ≤ 1048576 := by omega
 have HN := Lib.hid hN
 clear hN hr hx hf hco
 obtain ⟨Z, hZ⟩ : ∃ Z, Z = (madeCells (Value.agg #[.int .i64 0, .int .i64 0, .string ⟨#[]⟩, .slice none 0 0]).cells (N * 4)).toList := ⟨_, rfl⟩
 have HZ := Lib.hid (show Z.length = N * 4 by rw [hZ]; simp [madeCells])
 have HZD := Lib.hid hZ
 clear hZ
 have S1 := Lib.hid (show Sl.Sep w w [] from Sl.Sep.start w)
 go_enter Try.func164, Try.ntmps164
 go_upto_region 2 with (at_make; refine Run.wpList_make_s S1.out rfl _ _ 24 rfl 40 i0 (.agg #[.int .i64 0, .int .i64 0, .string ⟨#[]⟩, .slice none 0 0]) 4 Try.underlying24 HI.out.1 HI.out.2.1 HI.out.2.2.1 _ _ N rfl rfl (by rw [HI.out.2.2.2]; omega) (by unfold maxLen; omega) ?_; intro w1 S')
 obtain ⟨g1, hg⟩ : ∃ g', g' = w.heap.size := ⟨_, rfl⟩
 rw [← hg] at S' ⊢
 clear hg
 have S2 := Lib.hid (show Sl.Sep w _ [Sv.ownV 40 4 (some ⟨g1, 0, none⟩) N N (([] : List L6.LI).flatMap cl_Item ++ Z)] from (by have h := S'; rw [← HZD.out] at h; exact h))
 clear S1
 clear S'
 have S3 := Lib.hid (show Sl.Sep w _ [_, Bag.bag (rws_Item [])] from Bag.push_bag S2.out (Below.refl _ _) (by rw [rws_Item_eq]; exact Bag.BagOwn.nil _ _))
 clear S2
 go_wp2_with fail
 go_loopw [13] (fun i wr => ∃ (k : Nat) (ys : List L6.LI) (Zs : List Value), k ≤ N ∧ i = .int .i64 k ∧ Hid ((ys.map co_Item = (xs.take k).map co_Item ∧ ys.length = k ∧ Zs.length = (N - k) * 4) ∧ Sl.Sep w wr [Sv.ownV 40 4 (some ⟨g1, 0, none⟩) N N (ys.flatMap cl_Item ++ Zs), Bag.bag (rws_Item ys)])) (fun i _ => N - (intOf i).toNat)
 case atStart => exact ⟨0, [], Z, Nat.zero_le _, rfl, And.intro ⟨rfl, rfl, HZ.out⟩ S3.out⟩
 case round =>
  obtain ⟨k, ys, Zs, hk, rfl, hrel⟩ := hrel
  have HC := Lib.hid hrel.out.1
  have S4 := Lib.hid hrel.out.2
  clear hrel S3
  by_cases hlt : (k : Int) < (N : Int)
  ·
   skip
   have hkl : k < xs.length := by have := HN.out; omega
   obtain ⟨x, hx⟩ : ∃ x, xs[k]? = some x := ⟨_, List.getElem?_eq_getElem hkl⟩
   obtain ⟨ad, e'⟩ := el_some cl_Item_len (by decide) (HR.out _ S4.out.old) hkl
   subst e'
   have HK := Lib.hid (fun w' (h : Below w.heap.size w w') => el4 cl_Item_len (HR.out _ h) hx rfl)
   have HTX := Lib.hid (take_next hx)
   have HL := Lib.hid (show (ys.flatMap cl_Item).length = k * 4 ∧ k * 4 + 4 ≤ (ys.flatMap cl_Item ++ Zs).length ∧ 4 ≤ Zs.length from by have h1 := HC.out.2.1; have h2 := HC.out.2.2; rw [List.length_append, flat_len cl_Item_len, h1, h2]; omega)
   have HCI := Lib.hid (fun w' (h : Below w.heap.size w w') => HCO.out x (HF.out x (List.mem_of_getElem? hx)) w' (rd_el (rw_ := rw_Item) (by rw [← rws_Item_eq]; exact HX.out w' h) hx))
   dsimp only [vv_Item] at HCI
   clear hx
   obtain ⟨f0, f1, f2, f3⟩ := HK.out _ S4.out.old
   go_upto_region 5 with fail
   clear f0 f1 f2 f3
   have S5 := Lib.hid (show Sl.Sep w _ [_, _, _] from L4.push_box S4.out 40 #[.int .i64 x.k.kind, .int .i64 x.k.n, .string x.k.text, .slice x.a x.l.length x.c] wr.heap.size rfl)
   clear S4
   obtain ⟨g2, hg⟩ : ∃ g', g' = wr.heap.size := ⟨_, rfl⟩
   rw [← hg] at S5 ⊢
   clear hg
   generalize wr.alloc (.cells #[.int .i64 x.k.kind, .int .i64 x.k.n, .string x.k.text, .slice x.a x.l.length x.c] 40) = w2 at S5 ⊢
   obtain ⟨f0, f1, f2, f3⟩ := Bag.cs4 S5.out 2 rfl
   obtain ⟨f4, f5, f6, f7⟩ := HK.out _ S5.out.old
   go_wp2_with fail
   go_at_call 165
   refine (HCI.out _ S5.out.old).mono ?_
   rintro e w3 ⟨y, rfl, hcy, ho, hb⟩
   clear f0 f1 f2 f3 f4 f5 f6 f7
   have S6 := Lib.hid (show Sl.Sep w _ [_, _, L4.boxR g2 40 #[.int .i64 x.k.kind, .int .i64 x.k.n, .string x.k.text, .slice x.a x.l.length x.c], Bag.bag (rw_Item y)] from Bag.push_bag S5.out hb ho)
   clear S5
   clear hb ho
   have HCY := Lib.hid hcy
   clear hcy
   try dsimp only [vv_Item]
   have q0 := (Sv.own_at S6.out 0 rfl).cell (k * 4) (by have := HL.out.2.1; omega)
   have z0 := (Sv.own_at S6.out 0 rfl).free (k * 4)
   have q1 := (Sv.own_at S6.out 0 rfl).cell (k * 4 + 1) (by have := HL.out.2.1; omega)
   have z1 := (Sv.own_at S6.out 0 rfl).free (k * 4 + 1)
   have q2 := (Sv.own_at S6.out 0 rfl).cell (k * 4 + 2) (by have := HL.out.2.1; omega)
   have z2 := (Sv.own_at S6.out 0 rfl).free (k * 4 + 2)
   have q3 := (Sv.own_at S6.out 0 rfl).cell (k * 4 + 3) (by have := HL.out.2.1; omega)
   have z3 := (Sv.own_at S6.out 0 rfl).free (k * 4 + 3)
   go_wp2_with fail
   clear q0 z0 q1 z1 q2 z2 q3 z3
   have S7 := Lib.hid (show Sl.Sep w (World.setCells w3 g1 (k * 4) [.int .i64 y.k.kind, .int .i64 y.k.n, .string y.k.text, .slice y.a y.l.length y.c]) [Sv.ownV 40 4 (some ⟨g1, 0, none⟩) N N ((ys ++ [y]).flatMap cl_Item ++ Zs.drop 4), Bag.bag (rws_Item ys), L4.boxR g2 40 #[.int .i64 x.k.kind, .int .i64 x.k.n, .string x.k.text, .slice x.a x.l.length x.c], Bag.bag (rw_Item y)] from (by have h := Run.put_run S6.out 0 rfl (k * 4) [.int .i64 y.k.kind, .int .i64 y.k.n, .string y.k.text, .slice y.a y.l.length y.c] (by have := HL.out.2.1; simpa using this); rw [Run.over_at _ _ _ _ HL.out.1 (by have := HL.out.2.2; simpa using this)] at h; rw [List.flatMap_append, List.append_assoc]; exact h))
   clear S6
   have S8 := Lib.hid (show Sl.Sep w _ [Sv.ownV 40 4 (some ⟨g1, 0, none⟩) N N ((ys ++ [y]).flatMap cl_Item ++ Zs.drop 4), Bag.bag (rws_Item ys ++ (rw_Item y)), L4.boxR g2 40 #[.int .i64 x.k.kind, .int .i64 x.k.n, .string x.k.text, .slice x.a x.l.length x.c], Bag.bag ([])] from Bag.bag_join S7.out 1 3 (by decide) rfl rfl)
   clear S7
   have S9 := Lib.hid (show Sl.Sep w _ [_, _] from Bag.take S8.out [0, 1] (by rfl) (by decide))
   clear S8
   go_roundw
   case rel =>
    refine ⟨k + 1, ys ++ [y], Zs.drop 4, by omega, by go_num, And.intro ⟨?_, ?_, ?_⟩ ?_⟩
    ·
     rw [HTX.out, List.map_append, List.map_append, HC.out.1]; rw [show [y].map co_Item = [x].map co_Item from congrArg (fun u => [u]) HCY.out]
    ·
     rw [List.length_append, HC.out.2.1]; rfl
    ·
     rw [List.length_drop, HC.out.2.2]; omega
    ·
     rw [rws_Item_app]; rw [show rws_Item [y] = rw_Item y from by rw [rws_Item_eq]; simp]; exact S9.out
   case measure => simp [intOf]; omega
  ·
   skip
   obtain rfl : k = N := by omega
   go_wp2_with fail
   go_ret
   obtain ⟨hc1, hc2, hc3⟩ := HC.out
   have hZs : Zs = [] := List.eq_nil_of_length_eq_zero (by rw [hc3]; omega)
   have hcon : ys.map co_Item = xs.map co_Item := by rw [hc1, List.take_of_length_le (by have := HN.out; omega)]
   have S90 := Lib.hid (Bag.bag_of_one S4.out 0 (r := row_Item (some ⟨g1, 0, none⟩) k ys) (by unfold RowS.res row_Item; dsimp only; rw [hZs, List.append_nil, hc2]; rfl))
   have S91 := Lib.hid (Bag.bag_join S90.out 0 1 (by decide) rfl rfl)
   have hb := Bag.bag_from S91.out 0 rfl
   subst hc2
   exact ⟨_, ys, rfl, by rw [coS_Item_eq, coS_Item_eq]; exact hcon, hb, S91.out.old⟩
end Go.Proofs.Ytojcdmgcbgpdmaa.V

set_option linter.unusedSimpArgs false
namespace Go.Proofs.Ytojcdmgcbgpdmaa.L6
open L4 (K isK cmpK R inR encU)
open L5 (F isR isN cellsF encR eqR Small)
open Go.ChangeShapes Go.WideShapes Go.ChangeAt Go.RowKit Mem Sl Ex L2 Sv Bag

set_option maxHeartbeats 2000000 in
theorem copyItem_any (kd n : Int) (s : ByteArray) (a : Option Addr) (c : Nat) (l : List F) (hl : l.length ≤ 1048576) (w : World) (hr : Reads w w.heap.size a (cellsF l)) :
  Calls Try.prog 165 #[.agg #[.int .i64 kd, .int .i64 n, .string s, .slice a l.length c]] w (GaveI w ⟨⟨kd, n, s⟩, l⟩) := by
 have HC := Lib.hid (fun w' (h : Below w.heap.size w w') => L5.copyRecord_any a c l (by have := hl; omega) w' ((hr.below h).more h.size))
 obtain ⟨N, hN⟩ : ∃ n, n = l.length := ⟨_, rfl⟩
 rw [← hN] at HC ⊢
 have HN := Lib.hid hN
 clear hN hr hl
 have S1 := Lib.hid (show Sl.Sep w _ [_, _] from L4.push_box (L4.push_box (Sl.Sep.start w) 40 #[.int .i64 kd, .int .i64 n, .string s, .slice a N c] (w.heap.size) (by simp)) 40 #[.int .i64 0, .int .i64 0, .string ⟨#[]⟩, .slice none 0 0] (w.heap.size + 1) (by simp))
 obtain ⟨wa, hwa⟩ : ∃ w_, w_ = ((w.alloc (.cells #[.int .i64 kd, .int .i64 n, .string s, .slice a N c] 40)).alloc (.cells #[.int .i64 0, .int .i64 0, .string ⟨#[]⟩, .slice none 0 0] 40)) := ⟨_, rfl⟩
 rw [← hwa] at S1
 go_enter Try.func165, Try.ntmps165
 go_upto_region 1 with fail
 rw [← hwa]
 clear hwa
 go_upto_region 1 with fail
 refine wp_region_held_drew (S := (fun w' => (w'.cell? ⟨w.heap.size, 0, none⟩ = some (.int .i64 kd) ∧ w'.cell? ⟨w.heap.size, 1, none⟩ = some (.int .i64 n) ∧ w'.cell? ⟨w.heap.size, 2, none⟩ = some (.string s) ∧ w'.cell? ⟨w.heap.size, 3, none⟩ = some (.slice a N c)))) (by kernel_rfl) (Bag.cs4 (Bag.drew1 S1.out) 0 rfl) (fun hS => ?_)
 have S2 := Lib.hid (Bag.drew1 S1.out)
 clear S1
 generalize World.drew _ = w1 at hS S2 ⊢
 refine tk 0 rfl ?_
 try simp only [zp0, zp1, zp2, zp3, zp4]
 refine tk 1 rfl ?_
 try simp only [zp0, zp1, zp2, zp3, zp4]
 refine tk 2 rfl ?_
 try simp only [zp0, zp1, zp2, zp3, zp4]
 refine tk 3 rfl ?_
 try simp only [zp0, zp1, zp2, zp3, zp4]
 refine Reg.one_op (i := 4) rfl (by kernel_rfl) (fun K hK => ?_)
 go_simp
 go_at_call 81
 refine (HC.out _ S2.out.old).mono ?_
 rintro e w2 ⟨a1, c1, rfl, ho, hb⟩
 have S3 := Lib.hid (show Sl.Sep w _ [_, _, Sv.ownV 128 2 a1 c1 N (cellsF l)] from Sv.push_own S2.out hb ho)
 clear S2
 clear hb ho
 go_wp2_with fail
 refine hK.out _ _ (Bag.cs4 S3.out 0 rfl) (fun hS => ?_)
 clear hK K
 try simp only [zp0, zp1, zp2, zp3, zp4]
 refine tk 5 rfl ?_
 try simp only [zp0, zp1, zp2, zp3, zp4]
 refine Reg.one_op (i := 6) rfl (by kernel_rfl) (fun K hK => ?_)
 obtain ⟨f0, f1, f2, f3⟩ := Bag.cs4 S3.out 1 rfl
 obtain ⟨z0, z1, z2, z3⟩ := Bag.fs4 S3.out 1 rfl
 go_simp
 clear f0 f1 f2 f3 z0 z1 z2 z3
 have S4 := Lib.hid (show Sl.Sep w _ [_, L4.boxR (w.heap.size + 1) 40 #[.int .i64 kd, .int .i64 n, .string s, .slice a1 N c1], _] from L5.put_box5 (L5.put_box5 (L5.put_box5 (L5.put_box5 (S3.out) 1 rfl 0 (.int .i64 kd)) 1 rfl 1 (.int .i64 n)) 1 rfl 2 (.string s)) 1 rfl 3 (.slice a1 N c1))
 clear S3
 refine hK.out _ _ (Bag.cs4 S4.out 0 rfl) (fun hS => ?_)
 clear hK K
 try simp only [zp0, zp1, zp2, zp3, zp4]
 refine wpAnyH_done (by kernel_rfl) ?_ _
 obtain ⟨f0, f1, f2, f3⟩ := Bag.cs4 S4.out 0 rfl
 obtain ⟨f4, f5, f6, f7⟩ := Bag.cs4 S4.out 1 rfl
 go_wp2_with fail
 refine bodyPost_ret (v := .agg #[.int .i64 kd, .int .i64 n, .string s, .slice a1 N c1]) (by simp [results, Try.results165, go_sem, *]) rfl ?_
 have hb := Bag.bag_from (Bag.bag_of_one S4.out 2 (r := (LI.mk ⟨kd, n, s⟩ a1 c1 l).row) (by show some _ = some _; rw [HN.out]; rfl)) 2 rfl
 exact ⟨a1, c1, by rw [HN.out], hb, S4.out.old⟩
theorem copyItem_V (x : LI) (hf : FitI (V.co_Item x)) (w : World) (hr : RowsRd w w.heap.size (V.rw_Item x)) : Calls Try.prog 165 #[V.vv_Item x] w (V.Copied_Item w x) :=
 (copyItem_any x.k.kind x.k.n x.k.text x.a x.c x.l hf.len w (V.rd_head hr).reads).mono fun e w' ⟨a, c, he, ho, hb⟩ => ⟨⟨x.k, a, c, x.l⟩, he, rfl, ho, hb⟩
def GaveSF (w : World) (s : S6) (e : Ending) (w' : World) : Prop :=
 ∃ (g : Nat) (ys : List LI), e = .returned (.agg #[.string s.name, .slice (some ⟨g, 0, none⟩) ys.length ys.length, .int .i64 s.auto]) ∧ conI ys = s.items ∧ BagOwn w' w.heap.size (rowI (some ⟨g, 0, none⟩) ys.length ys :: rowsI ys) ∧ Below w.heap.size w w'

set_option maxHeartbeats 4000000 in
theorem copyStore_full (y : LS) (hf : FitS y.con) (w : World) (hr : RowsRd w w.heap.size y.rows) :
  Calls Try.prog 80 #[y.v] w (GaveSF w y.con) := by
 have HCE := Lib.hid (fun w' (h : Below w.heap.size w w') => V.copyEach_Item copyItem_V y.a y.c y.xs (by have h := hf.len; simpa [LS.con] using h) (fun x hx => hf.items _ (by unfold LS.con conI; exact List.mem_map.2 ⟨x, hx, rfl⟩)) w' (show Reads _ _ _ (y.xs.flatMap V.cl_Item) from ((LS.outer (hr.below h)).more h.size)) (show RowsRd _ _ (V.rws_Item y.xs) from (LS.inner (hr.below h)).more h.size))
 obtain ⟨name, a, c, xs, auto⟩ := y
 have HR := Lib.hid (fun w' (h : Below w.heap.size w w') => LS.outer (hr.below h))
 have HX := Lib.hid (fun w' (h : Below w.heap.size w w') => (LS.inner (hr.below h)).more h.size)
 have HF := Lib.hid hf.items
 have HNM := Lib.hid hf.name
 have hl := hf.len
 simp only [LS.con, conI_length] at hl
 dsimp only [LS.con] at HR HX HF HNM
 first | unfold LS.v LS.cells LS.con | unfold LS.v LS.cells | skip
 try dsimp only
 obtain ⟨N, hN⟩ : ∃ n, n = xs.length := ⟨_, rfl⟩
 rw [← hN] at hl ⊢
 have hl' : (N : Int) ≤ 1048576 := by omega
 have HN := Lib.hid hN
 clear hN hr hf
 rw [← HN.out] at HCE
 replace HCE := Lib.hid HCE.out
 have S1 := Lib.hid (show Sl.Sep w _ [_, _] from L4.push_box (L4.push_box (Sl.Sep.start w) 26 #[.string name, .slice a N c, .int .i64 auto] (w.heap.size) (by simp)) 26 #[.string ⟨#[]⟩, .slice none 0 0, .int .i64 0] (w.heap.size + 1) (by simp))
 obtain ⟨wa, hwa⟩ : ∃ w_, w_ = ((w.alloc (.cells #[.string name, .slice a N c, .int .i64 auto] 26)).alloc (.cells #[.string ⟨#[]⟩, .slice none 0 0, .int .i64 0] 26)) := ⟨_, rfl⟩
 rw [← hwa] at S1
 go_enter Try.func80, Try.ntmps80
 go_upto_region 1 with fail
 rw [← hwa]
 clear hwa
 go_upto_region 1 with fail
 refine wp_region_held_drew (S := (fun w' => (w'.cell? ⟨w.heap.size, 0, none⟩ = some (.string name) ∧ w'.cell? ⟨w.heap.size, 1, none⟩ = some (.slice a N c) ∧ w'.cell? ⟨w.heap.size, 2, none⟩ = some (.int .i64 auto)))) (by kernel_rfl) (Bag.cs3 (Bag.drew1 S1.out) 0 rfl) (fun hS => ?_)
 have S2 := Lib.hid (Bag.drew1 S1.out)
 clear S1
 generalize World.drew _ = w1 at hS S2 ⊢
 refine tk 0 rfl ?_
 try simp only [zp0, zp1, zp2, zp3, zp4]
 refine tk 1 rfl ?_
 try simp only [zp0, zp1, zp2, zp3, zp4]
 refine tk 2 rfl ?_
 try simp only [zp0, zp1, zp2, zp3, zp4]
 refine tk 3 rfl ?_
 try simp only [zp0, zp1, zp2, zp3, zp4]
 refine tk 5 rfl ?_
 try simp only [zp0, zp1, zp2, zp3, zp4]
 refine tk 6 rfl ?_
 try simp only [zp0, zp1, zp2, zp3, zp4]
 refine Reg.one_op (i := 4) rfl (by kernel_rfl) (fun K hK => ?_)
 go_simp
 go_at_call 164
 refine (HCE.out _ S2.out.old).mono ?_
 rintro e w2 ⟨g1, ys, rfl, hcy, ho, hb⟩
 have S3 := Lib.hid (show Sl.Sep w _ [_, _, Bag.bag (V.rs_Item (some ⟨g1, 0, none⟩) ys.length ys)] from Bag.push_bag S2.out hb ho)
 clear S2
 clear hb ho
 have HCY := Lib.hid hcy
 clear hcy
 go_wp2_with fail
 refine hK.out _ _ (Bag.cs3 S3.out 0 rfl) (fun hS => ?_)
 clear hK K
 try simp only [zp0, zp1, zp2, zp3, zp4]
 refine tk 7 rfl ?_
 try simp only [zp0, zp1, zp2, zp3, zp4]
 refine Reg.one_op (i := 8) rfl (by kernel_rfl) (fun K hK => ?_)
 obtain ⟨f0, f1, f2⟩ := Bag.cs3 S3.out 1 rfl
 obtain ⟨z0, z1, z2⟩ := Bag.fs3 S3.out 1 rfl
 go_simp
 clear f0 f1 f2 z0 z1 z2
 have S4 := Lib.hid (show Sl.Sep w _ [_, L4.boxR (w.heap.size + 1) 26 #[.string name, .slice (some ⟨g1, 0, none⟩) ys.length ys.length, .int .i64 auto], _] from L5.put_box5 (L5.put_box5 (L5.put_box5 (S3.out) 1 rfl 0 (.string name)) 1 rfl 1 (.slice (some ⟨g1, 0, none⟩) ys.length ys.length)) 1 rfl 2 (.int .i64 auto))
 clear S3
 refine hK.out _ _ (Bag.cs3 S4.out 0 rfl) (fun hS => ?_)
 clear hK K
 try simp only [zp0, zp1, zp2, zp3, zp4]
 refine wpAnyH_done (by kernel_rfl) ?_ _
 obtain ⟨f0, f1, f2⟩ := Bag.cs3 S4.out 0 rfl
 obtain ⟨f3, f4, f5⟩ := Bag.cs3 S4.out 1 rfl
 go_wp2_with fail
 refine bodyPost_ret (v := .agg #[.string name, .slice (some ⟨g1, 0, none⟩) ys.length ys.length, .int .i64 auto]) (by simp [results, Try.results80, go_sem, *]) rfl ?_
 exact ⟨g1, ys, rfl, HCY.out, Bag.bag_from S4.out 2 rfl, S4.out.old⟩
theorem copyStore_any (y : LS) (hf : FitS y.con) (w : World) (hr : RowsRd w w.heap.size y.rows) : Calls Try.prog 80 #[y.v] w (GaveS w y.con) := by
 refine (copyStore_full y hf w hr).mono ?_
 rintro e w' ⟨g, ys, rfl, hc, hb, ho⟩
 exact ⟨⟨y.name, some ⟨g, 0, none⟩, ys.length, ys, y.auto⟩, rfl, by unfold LS.con; dsimp only; rw [hc]; rfl, hb, ho⟩
end Go.Proofs.Ytojcdmgcbgpdmaa.L6

set_option linter.unusedSimpArgs false
namespace Go.Proofs.Ytojcdmgcbgpdmaa.L10
open V L6 L9
open L4 (K isK cmpK)
open L5 (F isR isN string_geq)
open Go.Op (bytesLess)
open Go.ChangeShapes Go.WideShapes Go.ChangeAt Go.RowKit Mem Sl Ex L2 Sv Bag

set_option maxHeartbeats 4000000 in
theorem copyOp_V (x : Y_Op) (hf : FitO (co_Op x)) (w : World) (hr : RowsRd w w.heap.size (rw_Op x)) :
  Calls Try.prog 140 #[vv_Op x] w (Copied_Op w x) := by
 have HRR := Lib.hid (fun w' (h : Below w.heap.size w w') => (((rdO hr).below h).more h.size : Reads w' w'.heap.size x.f_Record.a (L5.cellsF x.f_Record.l)))
 have HFO := Lib.hid (show FitO ⟨x.f_Kind, x.f_Store, x.f_Key, x.f_Record.l, x.f_Field⟩ from hf)
 clear hf hr
 obtain ⟨kd, st, ⟨kk, kn, kt⟩, ⟨ra, rc, rl⟩, fd⟩ := x
 try unfold vv_Op
 dsimp only at HRR HFO ⊢
 skip
 have HC := Lib.hid (fun w' (h : Below w.heap.size w w') => L5.copyRecord_any ra rc rl (by have h9 := HFO.out.len; exact Nat.le_trans h9 (by decide)) w' (HRR.out w' h))
 have S1 := Lib.hid (show Sl.Sep w _ [_, _] from L4.push_box (L4.push_box (Sl.Sep.start w) 148 #[.int .i64 kd, .string st, .int .i64 kk, .int .i64 kn, .string kt, .slice ra rl.length rc, .string fd] (w.heap.size) (by simp)) 148 #[.int .i64 0, .string ⟨#[]⟩, .int .i64 0, .int .i64 0, .string ⟨#[]⟩, .slice none 0 0, .string ⟨#[]⟩] (w.heap.size + 1) (by simp))
 obtain ⟨wa, hwa⟩ : ∃ w_, w_ = ((w.alloc (.cells #[.int .i64 kd, .string st, .int .i64 kk, .int .i64 kn, .string kt, .slice ra rl.length rc, .string fd] 148)).alloc (.cells #[.int .i64 0, .string ⟨#[]⟩, .int .i64 0, .int .i64 0, .string ⟨#[]⟩, .slice none 0 0, .string ⟨#[]⟩] 148)) := ⟨_, rfl⟩
 rw [← hwa] at S1
 go_enter Try.func140, Try.ntmps140
 go_upto_region 1 with fail
 rw [← hwa]
 clear hwa
 go_upto_region 1 with fail
 refine wp_region_held_drew (S := (fun w' => (w'.cell? ⟨w.heap.size, 0, none⟩ = some (.int .i64 kd) ∧ w'.cell? ⟨w.heap.size, 1, none⟩ = some (.string st) ∧ w'.cell? ⟨w.heap.size, 2, none⟩ = some (.int .i64 kk) ∧ w'.cell? ⟨w.heap.size, 3, none⟩ = some (.int .i64 kn) ∧ w'.cell? ⟨w.heap.size, 4, none⟩ = some (.string kt) ∧ w'.cell? ⟨w.heap.size, 5, none⟩ = some (.slice ra rl.length rc) ∧ w'.cell? ⟨w.heap.size, 6, none⟩ = some (.string fd)))) (by kernel_rfl) (Bag.cs7 (Bag.drew1 S1.out) 0 rfl) (fun hS => ?_)
 have S2 := Lib.hid (Bag.drew1 S1.out)
 clear S1
 generalize World.drew _ = w1 at hS S2 ⊢
 refine tk 0 rfl ?_
 try simp only [zp0, zp1, zp2, zp3, zp4]
 refine tk 1 rfl ?_
 try simp only [zp0, zp1, zp2, zp3, zp4]
 refine tk 2 rfl ?_
 try simp only [zp0, zp1, zp2, zp3, zp4]
 refine tk 3 rfl ?_
 try simp only [zp0, zp1, zp2, zp3, zp4]
 refine tk 4 rfl ?_
 try simp only [zp0, zp1, zp2, zp3, zp4]
 refine tk 5 rfl ?_
 try simp only [zp0, zp1, zp2, zp3, zp4]
 refine tk 6 rfl ?_
 try simp only [zp0, zp1, zp2, zp3, zp4]
 refine tk 7 rfl ?_
 try simp only [zp0, zp1, zp2, zp3, zp4]
 refine tk 9 rfl ?_
 try simp only [zp0, zp1, zp2, zp3, zp4]
 refine tk 10 rfl ?_
 try simp only [zp0, zp1, zp2, zp3, zp4]
 refine Reg.one_op (i := 8) rfl (by kernel_rfl) (fun K hK => ?_)
 go_simp
 go_at_call 81
 refine (HC.out _ S2.out.old).mono ?_
 rintro e w2 ⟨a1, c1, rfl, ho, hb⟩
 have S3 := Lib.hid (show Sl.Sep w _ [_, _, Sv.ownV 128 2 a1 c1 rl.length (L5.cellsF rl)] from Sv.push_own S2.out hb ho)
 clear S2
 clear hb ho
 go_wp2_with fail
 refine hK.out _ _ (Bag.cs7 S3.out 0 rfl) (fun hS => ?_)
 clear hK K
 try simp only [zp0, zp1, zp2, zp3, zp4]
 refine tk 11 rfl ?_
 try simp only [zp0, zp1, zp2, zp3, zp4]
 refine Reg.one_op (i := 12) rfl (by kernel_rfl) (fun K hK => ?_)
 obtain ⟨f0, f1, f2, f3, f4, f5, f6⟩ := Bag.cs7 S3.out 1 rfl
 obtain ⟨z0, z1, z2, z3, z4, z5, z6⟩ := Bag.fs7 S3.out 1 rfl
 go_simp
 clear f0 f1 f2 f3 f4 f5 f6 z0 z1 z2 z3 z4 z5 z6
 have S4 := Lib.hid (show Sl.Sep w _ [_, L4.boxR (w.heap.size + 1) 148 #[.int .i64 kd, .string st, .int .i64 kk, .int .i64 kn, .string ⟨#[]⟩, .slice none 0 0, .string ⟨#[]⟩], _] from L5.put_box5 (L5.put_box5 (L5.put_box5 (L5.put_box5 (S3.out) 1 rfl 0 (.int .i64 kd)) 1 rfl 1 (.string st)) 1 rfl 2 (.int .i64 kk)) 1 rfl 3 (.int .i64 kn))
 clear S3
 have S5 := Lib.hid (show Sl.Sep w _ [_, L4.boxR (w.heap.size + 1) 148 #[.int .i64 kd, .string st, .int .i64 kk, .int .i64 kn, .string kt, .slice a1 rl.length c1, .string fd], _] from L5.put_box5 (L5.put_box5 (L5.put_box5 (S4.out) 1 rfl 4 (.string kt)) 1 rfl 5 (.slice a1 rl.length c1)) 1 rfl 6 (.string fd))
 clear S4
 refine hK.out _ _ (Bag.cs7 S5.out 0 rfl) (fun hS => ?_)
 clear hK K
 try simp only [zp0, zp1, zp2, zp3, zp4]
 refine wpAnyH_done (by kernel_rfl) ?_ _
 obtain ⟨f0, f1, f2, f3, f4, f5, f6⟩ := Bag.cs7 S5.out 0 rfl
 obtain ⟨f7, f8, f9, f10, f11, f12, f13⟩ := Bag.cs7 S5.out 1 rfl
 go_wp2_with fail
 refine bodyPost_ret (v := .agg #[.int .i64 kd, .string st, .int .i64 kk, .int .i64 kn, .string kt, .slice a1 rl.length c1, .string fd]) (by simp [results, Try.results140, go_sem, *]) rfl ?_
 have hb := Bag.bag_from (Bag.bag_of_one S5.out 2 (r := row_Field a1 c1 rl) rfl) 2 rfl
 exact ⟨⟨kd, st, ⟨kk, kn, kt⟩, ⟨a1, c1, rl⟩, fd⟩, rfl, rfl, hb, S5.out.old⟩
theorem copyStore_V (x : L6.LS) (hf : FitS (co_Store x)) (w : World) (hr : RowsRd w w.heap.size (rw_Store x)) : Calls Try.prog 80 #[vv_Store x] w (Copied_Store w x) :=
 (copyStore_any x hf w hr).mono fun e w' ⟨y, he, hc, hb, ho⟩ => ⟨y, he, hc, hb, ho⟩
set_option maxHeartbeats 4000000 in
theorem copyTx_V (x : Y_Tx) (hf : FitT (co_Tx x)) (w : World) (hr : RowsRd w w.heap.size (rw_Tx x)) :
  Calls Try.prog 196 #[vv_Tx x] w (Copied_Tx w x) := by
 have HRx := Lib.hid (fun w' (h : Below w.heap.size w w') => ((hr.below h).more h.size : RowsRd w' w'.heap.size (rw_Tx x)))
 have HFx := Lib.hid hf
 clear hr hf
 have HCO := Lib.hid (fun w' (h : Below w.heap.size w w') => copyEach_Op copyOp_V x.f_Ops_a x.f_Ops_c x.f_Ops (by have h := HFx.out.len; rwa [show (co_Tx x).f_Ops = coS_Op x.f_Ops from rfl, coS_len] at h) (fun o ho => HFx.out.ops _ (by show _ ∈ coS_Op x.f_Ops; rw [coS_Op_eq]; exact List.mem_map.2 ⟨o, ho, rfl⟩)) w' (rdTo (HRx.out w' h)) (rdTox (HRx.out w' h)))
 have HCB := Lib.hid (fun w' (h : Below w.heap.size w w') => copyEach_Store copyStore_V x.f_Backup_a x.f_Backup_c x.f_Backup (by have h := HFx.out.blen; rwa [show (co_Tx x).f_Backup = coS_Store x.f_Backup from rfl, coS_Store_eq, List.length_map] at h) (fun s hs => HFx.out.back _ (by show _ ∈ coS_Store x.f_Backup; rw [coS_Store_eq]; exact List.mem_map.2 ⟨s, hs, rfl⟩)) w' (rdTb (HRx.out w' h)) (rdTbx (HRx.out w' h)))
 unfold vv_Tx
 have S1 := Lib.hid (show Sl.Sep w _ [_, _] from L4.push_box (L4.push_box (Sl.Sep.start w) 161 #[.int .i64 x.f_Id, .slice x.f_Ops_a x.f_Ops.length x.f_Ops_c, .int .i64 x.f_At, .int .i64 x.f_State, .slice x.f_Backup_a x.f_Backup.length x.f_Backup_c] (w.heap.size) (by simp)) 161 #[.int .i64 0, .slice none 0 0, .int .i64 0, .int .i64 0, .slice none 0 0] (w.heap.size + 1) (by simp))
 obtain ⟨wa, hwa⟩ : ∃ w_, w_ = ((w.alloc (.cells #[.int .i64 x.f_Id, .slice x.f_Ops_a x.f_Ops.length x.f_Ops_c, .int .i64 x.f_At, .int .i64 x.f_State, .slice x.f_Backup_a x.f_Backup.length x.f_Backup_c] 161)).alloc (.cells #[.int .i64 0, .slice none 0 0, .int .i64 0, .int .i64 0, .slice none 0 0] 161)) := ⟨_, rfl⟩
 rw [← hwa] at S1
 go_enter Try.func196, Try.ntmps196
 go_upto_region 1 with fail
 rw [← hwa]
 clear hwa
 go_upto_region 1 with fail
 refine wp_region_held_drew (S := (fun w' => (w'.cell? ⟨w.heap.size, 0, none⟩ = some (.int .i64 x.f_Id) ∧ w'.cell? ⟨w.heap.size, 1, none⟩ = some (.slice x.f_Ops_a x.f_Ops.length x.f_Ops_c) ∧ w'.cell? ⟨w.heap.size, 2, none⟩ = some (.int .i64 x.f_At) ∧ w'.cell? ⟨w.heap.size, 3, none⟩ = some (.int .i64 x.f_State) ∧ w'.cell? ⟨w.heap.size, 4, none⟩ = some (.slice x.f_Backup_a x.f_Backup.length x.f_Backup_c)))) (by kernel_rfl) (Bag.cs5 (Bag.drew1 S1.out) 0 rfl) (fun hS => ?_)
 have S2 := Lib.hid (Bag.drew1 S1.out)
 clear S1
 generalize World.drew _ = w1 at hS S2 ⊢
 refine tk 0 rfl ?_
 try simp only [zp0, zp1, zp2, zp3, zp4]
 refine tk 1 rfl ?_
 try simp only [zp0, zp1, zp2, zp3, zp4]
 refine tk 2 rfl ?_
 try simp only [zp0, zp1, zp2, zp3, zp4]
 refine tk 3 rfl ?_
 try simp only [zp0, zp1, zp2, zp3, zp4]
 refine tk 5 rfl ?_
 try simp only [zp0, zp1, zp2, zp3, zp4]
 refine tk 6 rfl ?_
 try simp only [zp0, zp1, zp2, zp3, zp4]
 refine tk 7 rfl ?_
 try simp only [zp0, zp1, zp2, zp3, zp4]
 refine tk 8 rfl ?_
 try simp only [zp0, zp1, zp2, zp3, zp4]
 refine tk 9 rfl ?_
 try simp only [zp0, zp1, zp2, zp3, zp4]
 refine tk 10 rfl ?_
 try simp only [zp0, zp1, zp2, zp3, zp4]
 refine Reg.one_op (i := 4) rfl (by kernel_rfl) (fun K hK => ?_)
 go_simp
 go_at_call 139
 refine (HCO.out _ S2.out.old).mono ?_
 rintro e w2 ⟨g1, ys, rfl, hcy, ho, hb⟩
 have S3 := Lib.hid (show Sl.Sep w _ [_, _, Bag.bag (rs_Op (some ⟨g1, 0, none⟩) ys.length ys)] from Bag.push_bag S2.out hb ho)
 clear S2
 clear hb ho
 have HCY := Lib.hid hcy
 clear hcy
 go_wp2_with fail
 refine hK.out _ _ (Bag.cs5 S3.out 0 rfl) (fun hS => ?_)
 clear hK K
 try simp only [zp0, zp1, zp2, zp3, zp4]
 refine Reg.one_op (i := 11) rfl (by kernel_rfl) (fun K hK => ?_)
 go_simp
 go_at_call 228
 refine (HCB.out _ S3.out.old).mono ?_
 rintro e w3 ⟨g2, zs, rfl, hcz, ho, hb⟩
 have S4 := Lib.hid (show Sl.Sep w _ [_, _, _, Bag.bag (rs_Store (some ⟨g2, 0, none⟩) zs.length zs)] from Bag.push_bag S3.out hb ho)
 clear S3
 clear hb ho
 have HCZ := Lib.hid hcz
 clear hcz
 go_wp2_with fail
 refine hK.out _ _ (Bag.cs5 S4.out 0 rfl) (fun hS => ?_)
 clear hK K
 try simp only [zp0, zp1, zp2, zp3, zp4]
 refine tk 12 rfl ?_
 try simp only [zp0, zp1, zp2, zp3, zp4]
 refine Reg.one_op (i := 13) rfl (by kernel_rfl) (fun K hK => ?_)
 obtain ⟨f0, f1, f2, f3, f4⟩ := Bag.cs5 S4.out 1 rfl
 obtain ⟨z0, z1, z2, z3, z4⟩ := Bag.fs5 S4.out 1 rfl
 go_simp
 clear f0 f1 f2 f3 f4 z0 z1 z2 z3 z4
 have S5 := Lib.hid (show Sl.Sep w _ [_, L4.boxR (w.heap.size + 1) 161 #[.int .i64 x.f_Id, .slice (some ⟨g1, 0, none⟩) ys.length ys.length, .int .i64 x.f_At, .int .i64 x.f_State, .slice none 0 0], _, _] from L5.put_box5 (L5.put_box5 (L5.put_box5 (L5.put_box5 (S4.out) 1 rfl 0 (.int .i64 x.f_Id)) 1 rfl 1 (.slice (some ⟨g1, 0, none⟩) ys.length ys.length)) 1 rfl 2 (.int .i64 x.f_At)) 1 rfl 3 (.int .i64 x.f_State))
 clear S4
 have S6 := Lib.hid (show Sl.Sep w _ [_, L4.boxR (w.heap.size + 1) 161 #[.int .i64 x.f_Id, .slice (some ⟨g1, 0, none⟩) ys.length ys.length, .int .i64 x.f_At, .int .i64 x.f_State, .slice (some ⟨g2, 0, none⟩) zs.length zs.length], _, _] from L5.put_box5 (S5.out) 1 rfl 4 (.slice (some ⟨g2, 0, none⟩) zs.length zs.length))
 clear S5
 refine hK.out _ _ (Bag.cs5 S6.out 0 rfl) (fun hS => ?_)
 clear hK K
 try simp only [zp0, zp1, zp2, zp3, zp4]
 refine wpAnyH_done (by kernel_rfl) ?_ _
 obtain ⟨f0, f1, f2, f3, f4⟩ := Bag.cs5 S6.out 0 rfl
 obtain ⟨f5, f6, f7, f8, f9⟩ := Bag.cs5 S6.out 1 rfl
 go_wp2_with fail
 refine bodyPost_ret (v := .agg #[.int .i64 x.f_Id, .slice (some ⟨g1, 0, none⟩) ys.length ys.length, .int .i64 x.f_At, .int .i64 x.f_State, .slice (some ⟨g2, 0, none⟩) zs.length zs.length]) (by simp [results, Try.results196, go_sem, *]) rfl ?_
 clear f0 f1 f2 f3 f4 f5 f6 f7 f8 f9
 have S7 := Lib.hid (show Sl.Sep w _ [_, _, Bag.bag ((rs_Op (some ⟨g1, 0, none⟩) ys.length ys) ++ (rs_Store (some ⟨g2, 0, none⟩) zs.length zs)), Bag.bag ([])] from Bag.bag_join S6.out 2 3 (by decide) rfl rfl)
 clear S6
 exact ⟨⟨x.f_Id, some ⟨g1, 0, none⟩, ys.length, ys, x.f_At, x.f_State, some ⟨g2, 0, none⟩, zs.length, zs⟩, rfl, by unfold co_Tx; dsimp only; rw [HCY.out, HCZ.out], Bag.bag_from S7.out 2 rfl, S7.out.old⟩
def GaveQF (w : World) (ts : List X_Tx) (e : Ending) (w' : World) : Prop :=
 ∃ (g : Nat) (ys : List Y_Tx), e = .returned (.agg #[.slice (some ⟨g, 0, none⟩) ys.length ys.length]) ∧ coS_Tx ys = ts ∧ BagOwn w' w.heap.size (rs_Tx (some ⟨g, 0, none⟩) ys.length ys) ∧ Below w.heap.size w w'
set_option maxHeartbeats 4000000 in
theorem copyQueue_full (a : Option Addr) (c : Nat) (ts : List Y_Tx) (hl : ts.length ≤ 1048576) (hf : ∀ t ∈ coS_Tx ts, FitT t) (w : World) (hr : Reads w w.heap.size a (ts.flatMap cl_Tx)) (hx : RowsRd w w.heap.size (rws_Tx ts)) :
  Calls Try.prog 138 #[.agg #[.slice a ts.length c]] w (GaveQF w (coS_Tx ts)) := by
 have HCT := Lib.hid (fun w' (h : Below w.heap.size w w') => copyEach_Tx copyTx_V a c ts hl (fun t ht => hf _ (by rw [coS_Tx_eq]; exact List.mem_map.2 ⟨t, ht, rfl⟩)) w' ((hr.below h).more h.size) ((hx.below h).more h.size))
 obtain ⟨N, hN⟩ : ∃ n, n = ts.length := ⟨_, rfl⟩
 rw [← hN] at HCT ⊢
 clear hN hr hx hf hl
 have S1 := Lib.hid (show Sl.Sep w _ [_, _] from L4.push_box (L4.push_box (Sl.Sep.start w) 98 #[.slice a N c] (w.heap.size) (by simp)) 98 #[.slice none 0 0] (w.heap.size + 1) (by simp))
 obtain ⟨wa, hwa⟩ : ∃ w_, w_ = ((w.alloc (.cells #[.slice a N c] 98)).alloc (.cells #[.slice none 0 0] 98)) := ⟨_, rfl⟩
 rw [← hwa] at S1
 go_enter Try.func138, Try.ntmps138
 go_upto_region 1 with fail
 rw [← hwa]
 clear hwa
 have f0 := Bag.cs1 S1.out 0 rfl
 have f1 := Bag.cs1 S1.out 1 rfl
 go_wp2_with fail
 go_at_call 195
 refine (HCT.out _ S1.out.old).mono ?_
 rintro e w1 ⟨g1, ys, rfl, hcy, ho, hb⟩
 clear f0 f1
 have S2 := Lib.hid (show Sl.Sep w _ [_, _, Bag.bag (rs_Tx (some ⟨g1, 0, none⟩) ys.length ys)] from Bag.push_bag S1.out hb ho)
 clear S1
 clear hb ho
 have HCY := Lib.hid hcy
 clear hcy
 have f0 := Bag.cs1 S2.out 1 rfl
 have z0 := Bag.free_at S2.out 1 rfl 0
 go_wp2_with fail
 clear f0 z0
 have S3 := Lib.hid (show Sl.Sep w _ [_, L4.boxR (w.heap.size + 1) 98 #[.slice (some ⟨g1, 0, none⟩) ys.length ys.length], _] from L5.put_box5 (S2.out) 1 rfl 0 (.slice (some ⟨g1, 0, none⟩) ys.length ys.length))
 clear S2
 have f0 := Bag.cs1 S3.out 1 rfl
 refine bodyPost_ret (v := .agg #[.slice (some ⟨g1, 0, none⟩) ys.length ys.length]) (by simp [results, Try.results138, go_sem, *]) rfl ?_
 exact ⟨g1, ys, rfl, HCY.out, Bag.bag_from S3.out 2 rfl, S3.out.old⟩
end Go.Proofs.Ytojcdmgcbgpdmaa.L10

namespace Go.Proofs.Ytojcdmgcbgpdmaa.L4
open Go.ChangeShapes Go.WideShapes Go.ChangeAt Go.RowKit Mem Sl Ex L2
def isLet (c : UInt8) : Bool := decide (97 ≤ c.toNat) && decide (c.toNat ≤ 122)
theorem isLetter_any (c : UInt8) (w : World) :
    Calls Try.prog 170 #[.int .u8 c.toNat] w fun e w' => e = .returned (.bool (isLet c)) ∧ w = w' := by
  by_cases h1 : (97 : Int) ≤ c.toNat <;> by_cases h2 : (c.toNat : Int) ≤ 122 <;>
    (go_enter Try.func170, Try.ntmps170
     go_wp2
     go_ret
     exact ⟨L1.ret_bool (by unfold isLet; have h1' := h1; have h2' := h2; simp only [Bool.false_eq, Bool.true_eq, Bool.and_eq_false_iff, Bool.and_eq_true, decide_eq_false_iff_not, decide_eq_true_eq]; omega), rfl⟩)
end Go.Proofs.Ytojcdmgcbgpdmaa.L4

namespace Go.Proofs.Ytojcdmgcbgpdmaa.L4
open Go.ChangeShapes Go.WideShapes Go.ChangeAt Go.RowKit Mem Sl Ex L2

def isDig (c : UInt8) : Bool := decide (48 ≤ c.toNat) && decide (c.toNat ≤ 57)
theorem chr_eq (c : UInt8) : chr c = (isLet c || isDig c) := rfl

theorem isDigit_any (c : UInt8) (w : World) :
    Calls Try.prog 211 #[.int .u8 c.toNat] w fun e w' => e = .returned (.bool (isDig c)) ∧ w = w' := by
  by_cases h1 : (48 : Int) ≤ c.toNat <;> by_cases h2 : (c.toNat : Int) ≤ 57 <;>
    (go_enter Try.func211, Try.ntmps211
     go_wp2
     go_ret
     exact ⟨L1.ret_bool (by unfold isDig; have h1' := h1; have h2' := h2; simp only [Bool.false_eq, Bool.true_eq, Bool.and_eq_false_iff, Bool.and_eq_true, decide_eq_false_iff_not, decide_eq_true_eq]; omega), rfl⟩)
theorem isKeyNumber_any (n : Int) (w : World) :
    Calls Try.prog 171 #[.int .i64 n] w fun e w' => e = .returned (.bool (L1.inB n (-1000000000000) 1000000000000)) ∧ w = w' := by
  have H1 := Lib.hid (fun w => L1.inRange_any n (-1000000000000) 1000000000000 w)
  obtain ⟨b, hb⟩ : ∃ b, L1.inB n (-1000000000000) 1000000000000 = b := ⟨_, rfl⟩
  rw [hb] at H1 ⊢
  go_enter Try.func171, Try.ntmps171
  go_wp2_with (go_at_call 98; with_reducible refine (H1.out _).mono ?_; rintro e w1 ⟨rfl, rfl⟩)
  go_ret
  exact ⟨rfl, rfl⟩
theorem isKeyText_any (s : ByteArray) (hs : s.size ≤ 281474976710656) (w : World) :
    Calls Try.prog 172 #[.string s] w fun e w' => e = .returned (.bool (isT s.data.toList)) ∧ w = w' := by
  have hsz : s.data.toList.length = s.size := by rw [Array.length_toList]; rfl
  have HZ := Lib.hid hsz
  clear hsz
  by_cases h12 : (s.size : Int) ≤ 12
  · go_enter Try.func172, Try.ntmps172
    go_wp2
    go_loop [9] (fun i => ∃ k : Nat, k ≤ s.size ∧ i = .int .i64 k ∧ Hid (∀ j (hj : j < s.data.toList.length), j < k → chr s.data.toList[j] = true)) (fun i => s.size - (intOf i).toNat)
    case atStart => exact ⟨0, Nat.zero_le _, rfl, fun j hj h => by omega⟩
    case round =>
      obtain ⟨k, hk, rfl, hrel⟩ := hrel
      by_cases hlt : k < s.size
      · have hb : s.data.toList[k]? = some s[k] := by
          rw [List.getElem?_eq_getElem (by rw [HZ.out]; exact hlt)]
          rfl
        have HB := Lib.hid hb
        clear hb
        have HC := Lib.hid (chr_eq s[k])
        have H1 := Lib.hid (fun w => isLetter_any s[k] w)
        have H2 := Lib.hid (fun w => isDigit_any s[k] w)
        obtain ⟨bl, hbl⟩ : ∃ b, isLet s[k] = b := ⟨_, rfl⟩
        obtain ⟨bd, hbd⟩ : ∃ b, isDig s[k] = b := ⟨_, rfl⟩
        rw [hbl] at H1 HC
        rw [hbd] at H2 HC
        clear hbl hbd
        cases bl
        all_goals
          cases bd
          all_goals
            go_wp2_with (first
              | (go_at_call 170; refine (H1.out _).mono ?_; rintro e w1 ⟨rfl, rfl⟩)
              | (go_at_call 211; refine (H2.out _).mono ?_; rintro e w1 ⟨rfl, rfl⟩))
            first
            | (go_round
               case rel => exact ⟨k + 1, by omega, by go_num, fun j hj h => by
                  by_cases e : j < k
                  · exact hrel.out j hj e
                  · obtain rfl : j = k := by omega
                    have := HB.out
                    rw [List.getElem?_eq_getElem hj] at this
                    rw [Option.some.inj this]
                    exact HC.out⟩
               case measure => simp [intOf]; omega)
            | (go_ret
               exact ⟨by rw [isT_no k _ HB.out HC.out]; rfl, rfl⟩)
      · go_wp2
        go_ret
        obtain rfl : k = s.size := by omega
        have e1 := isT_all (fun j hj => hrel.out j hj (by rw [HZ.out] at hj; exact hj))
        rw [HZ.out] at e1
        refine ⟨?_, rfl⟩
        rw [e1, decide_eq_true (show s.size ≤ 12 by omega)]
        rfl
  · go_enter Try.func172, Try.ntmps172
    go_wp2
    go_ret
    refine ⟨?_, rfl⟩
    have : isT s.data.toList = false := by
      unfold isT
      rw [HZ.out, decide_eq_false (show ¬ s.size ≤ 12 by omega), Bool.and_false]
    rw [this]
    rfl
set_option maxHeartbeats 2000000 in
theorem implIsKey_any (k : K) (hs : k.text.size ≤ 281474976710656) (w : World) :
    Calls Try.prog 99 #[k.v] w fun e w' => e = .returned (.bool (isK k)) ∧ Below w.heap.size w w' := by
  obtain ⟨kd, n, s⟩ := k
  unfold K.v
  obtain ⟨b2, hb2⟩ : ∃ b, L1.inB n (-1000000000000) 1000000000000 = b := ⟨_, rfl⟩
  obtain ⟨b4, hb4⟩ : ∃ b, isT s.data.toList = b := ⟨_, rfl⟩
  have H2 := Lib.hid (fun w => isKeyNumber_any n w)
  have H4 := Lib.hid (fun w => isKeyText_any s hs w)
  rw [hb2] at H2
  rw [hb4] at H4
  obtain ⟨c0, hc0⟩ : ∃ b, (n == 0) = b := ⟨_, rfl⟩
  obtain ⟨ct, hct⟩ : ∃ b, (s.toList == []) = b := ⟨_, rfl⟩
  have HE := show isK ⟨kd, n, s⟩ = (L1.inB kd 1 3 && b2 && (kd != 2 || c0) && b4 && (kd != 1 || ct)) by unfold isK; rw [hb2, show K.t ⟨kd, n, s⟩ = s.data.toList from rfl, hb4, ← hct, ByteArray.toList_eq, ← hc0]
  have hx1 : ct = true → b4 = true := fun h => by
    rw [h, ByteArray.toList_eq, beq_iff_eq] at hct
    rw [← hb4, hct]
    rfl
  have hx2 : c0 = true → b2 = true := fun h => by
    rw [h, beq_iff_eq] at hc0
    rw [← hb2, hc0]
    rfl
  have HB := Lib.hid (fun o => below_alloc (Below.refl w.heap.size w) o (Nat.le_refl _))
  clear hb2 hb4
  rcases (show kd = 1 ∨ kd = 2 ∨ kd = 3 ∨ (kd ≠ 1 ∧ kd ≠ 2 ∧ kd ≠ 3) by omega) with rfl | rfl | rfl | ⟨hk1, hk2, hk3⟩
  · rw [show isK ⟨1, n, s⟩ = (b2 && ct) by rw [HE]; revert hx1; cases b2 <;> cases b4 <;> cases ct <;> simp [L1.inB]]
    clear HE hc0 hx1 hx2
    rcases (show b2 = false ∨ b2 = true by cases b2 <;> simp) with rfl | rfl
    all_goals
      go_enter Try.func99, Try.ntmps99
      go_wp2_with (go_at_call 171; with_reducible refine (H2.out _).mono ?_; rintro e w1 ⟨rfl, rfl⟩)
      go_ret
      exact ⟨rfl, HB.out _⟩
  · rw [show isK ⟨2, n, s⟩ = (c0 && b4) by rw [HE]; revert hx2; cases b2 <;> cases b4 <;> cases c0 <;> simp [L1.inB]]
    clear HE hct hx1 hx2
    rcases (show c0 = false ∨ c0 = true by cases c0 <;> simp) with rfl | rfl
    all_goals
      go_enter Try.func99, Try.ntmps99
      go_wp2_with (go_at_call 172; refine (H4.out _).mono ?_; rintro e w1 ⟨rfl, rfl⟩)
      go_ret
      exact ⟨rfl, HB.out _⟩
  · rw [show isK ⟨3, n, s⟩ = (b2 && b4) by rw [HE]; cases b2 <;> cases b4 <;> cases c0 <;> cases ct <;> simp [L1.inB]]
    clear HE hct hc0 hx1 hx2
    rcases (show b2 = false ∨ b2 = true by cases b2 <;> simp) with rfl | rfl
    all_goals
      go_enter Try.func99, Try.ntmps99
      go_wp2_with (first
        | (go_at_call 171; with_reducible refine (H2.out _).mono ?_; rintro e w1 ⟨rfl, rfl⟩)
        | (go_at_call 172; refine (H4.out _).mono ?_; rintro e w1 ⟨rfl, rfl⟩))
      go_ret
      exact ⟨rfl, HB.out _⟩
  · have : L1.inB kd 1 3 = false := L1.inB_false.2 (by omega)
    rw [HE, this]
    clear HE hct hc0 hx1 hx2 this
    replace hk1 : ¬ kd = 1 := hk1
    replace hk2 : ¬ kd = 2 := hk2
    replace hk3 : ¬ kd = 3 := hk3
    go_enter Try.func99, Try.ntmps99
    go_wp2_with fail
    go_ret
    exact ⟨by simp, HB.out _⟩
end Go.Proofs.Ytojcdmgcbgpdmaa.L4

namespace Go.Proofs.Ytojcdmgcbgpdmaa.L5
open Go.Op (bytesLess)
open Go.ChangeShapes Go.WideShapes Go.ChangeAt Go.RowKit Mem Sl Ex L2 Sv

theorem low_isLet (c : UInt8) : L4.isLet c = low c := rfl
theorem isName_any (s : ByteArray) (hs : s.size ≤ 281474976710656) (w : World) :
  Calls Try.prog 97 #[.string s] w fun e w' => e = .returned (.bool (isN s.data.toList)) ∧ w = w' := by
 have hsz : s.data.toList.length = s.size := by rw [Array.length_toList]; rfl
 have HZ := Lib.hid hsz
 clear hsz
 have HI := Lib.hid (fun w => L1.inRange_any (s.size : Int) 1 8 w)
 have HS := Lib.hid (show L1.inB (s.size : Int) 1 8 = false → isN s.data.toList = false from fun h => by
  unfold isN
  rw [Bool.and_eq_false_iff]
  right
  rw [HZ.out, ← h]
  unfold L1.inB
  congr 1 <;> (rw [decide_eq_decide]; omega))
 obtain ⟨bi, hbi⟩ : ∃ b, L1.inB (s.size : Int) 1 8 = b := ⟨_, rfl⟩
 rw [hbi] at HI HS
 have HB0 := Lib.hid hbi
 clear hbi
 cases bi with
 | false =>
  replace HS := Lib.hid (HS.out rfl)
  go_enter Try.func97, Try.ntmps97
  go_wp2_with (go_at_call 98; refine (HI.out _).mono ?_; rintro e w1 ⟨rfl, rfl⟩)
  go_ret
  exact ⟨by rw [HS.out]; rfl, rfl⟩
 | true =>
  go_enter Try.func97, Try.ntmps97
  go_wp2_with (go_at_call 98; refine (HI.out _).mono ?_; rintro e w1 ⟨rfl, rfl⟩)
  go_loop [10] (fun i => ∃ k : Nat, k ≤ s.size ∧ i = .int .i64 k ∧ Hid (∀ j (hj : j < s.data.toList.length), j < k → low s.data.toList[j] = true)) (fun i => s.size - (intOf i).toNat)
  case atStart => exact ⟨0, Nat.zero_le _, rfl, fun j hj h => by omega⟩
  case round =>
   obtain ⟨k, hk, rfl, hrel⟩ := hrel
   by_cases hlt : k < s.size
   ·
    have hb : s.data.toList[k]? = some s[k] := by
     rw [List.getElem?_eq_getElem (by rw [HZ.out]; exact hlt)]
     rfl
    have HB := Lib.hid hb
    clear hb
    have H1 := Lib.hid (fun w => L4.isLetter_any s[k] w)
    obtain ⟨bl, hbl⟩ : ∃ b, L4.isLet s[k] = b := ⟨_, rfl⟩
    rw [hbl] at H1
    rw [low_isLet] at hbl
    have HL := Lib.hid hbl
    clear hbl
    cases bl with
    | true =>
     go_wp2_with (go_at_call 170; refine (H1.out _).mono ?_; rintro e w1 ⟨rfl, rfl⟩)
     go_round
     case rel => exact ⟨k + 1, by omega, by go_num, fun j hj h => by
       by_cases e : j < k
       ·
        exact hrel.out j hj e
       ·
        obtain rfl : j = k := by omega
        have := HB.out
        rw [List.getElem?_eq_getElem hj] at this
        rw [Option.some.inj this]
        exact HL.out⟩
     case measure => simp [intOf]; omega
    | false =>
     go_wp2_with (go_at_call 170; refine (H1.out _).mono ?_; rintro e w1 ⟨rfl, rfl⟩)
     go_ret
     exact ⟨by rw [isN_no k _ HB.out HL.out]; rfl, rfl⟩
   ·
    go_wp2_with fail
    go_ret
    obtain rfl : k = s.size := by omega
    have e1 := isN_all (fun j hj => hrel.out j hj (by rw [HZ.out] at hj; exact hj))
    rw [HZ.out, HB0.out] at e1
    exact ⟨by rw [e1]; rfl, rfl⟩

end Go.Proofs.Ytojcdmgcbgpdmaa.L5

