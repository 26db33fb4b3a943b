/-
  What the law FnExactFindStore needs, laid by my program lawpack.py, part 2: the texts VDatabase, L8Num, L8Fw, L7Sc, L7Sd, L8Sa, Vlg, VlStore, VlIndexDef, L5Ib, L8Ia, one behind the other; each begins with its own words.
-/
import Derived.Test.YtboefioalkjdaaaFnExactFindStoreP1
set_option linter.unusedSimpArgs false
/-
  The exact laws' helpers for Database, and for slices of it: how such a value opens, its copy, its room, comparison, marks. Condition: a weight of at most 2^20 (2^50 for comparison and marks). (Written by my program gen_v.py.)
-/
namespace Go.Proofs.Ytboefioalkjdaaa.V
set_option maxRecDepth 100000
open Go.ChangeShapes Go.WideShapes Go.ChangeAt Go.RowKit Mem Sl Sv Bag
open L5 (markT)
set_option linter.unusedVariables false
set_option linter.unusedSimpArgs false
structure X_Database where
  f_Name : ByteArray
  f_Version : Int
  f_Stores : List L6.S6
  f_Unique : List X_IndexDef
structure Y_Database where
  f_Name : ByteArray
  f_Version : Int
  f_Stores_a : Option Addr
  f_Stores_c : Nat
  f_Stores : List L6.LS
  f_Unique_a : Option Addr
  f_Unique_c : Nat
  f_Unique : List X_IndexDef
def co_Database (z : Y_Database) : X_Database := ⟨z.f_Name, z.f_Version, coS_Store z.f_Stores, coS_IndexDef z.f_Unique⟩
def cl_Database (z : Y_Database) : List Value := [.string z.f_Name, .int .i64 z.f_Version, .slice z.f_Stores_a z.f_Stores.length z.f_Stores_c, .slice z.f_Unique_a z.f_Unique.length z.f_Unique_c]
def cs_Database (z : Y_Database) : Array Value := #[.string z.f_Name, .int .i64 z.f_Version, .slice z.f_Stores_a z.f_Stores.length z.f_Stores_c, .slice z.f_Unique_a z.f_Unique.length z.f_Unique_c]
def vv_Database (z : Y_Database) : Value := .agg #[.string z.f_Name, .int .i64 z.f_Version, .slice z.f_Stores_a z.f_Stores.length z.f_Stores_c, .slice z.f_Unique_a z.f_Unique.length z.f_Unique_c]
def rw_Database (z : Y_Database) : List RowS := rs_Store z.f_Stores_a z.f_Stores_c z.f_Stores ++ (rs_IndexDef z.f_Unique_a z.f_Unique_c z.f_Unique)
def wt_Database (c : X_Database) : Nat := c.f_Name.size + (wsum wt_Store c.f_Stores + (wsum wt_IndexDef c.f_Unique))
theorem wt_Database_parts (z : Y_Database) : wt_Database (co_Database z) = z.f_Name.size + (wsum wt_Store (coS_Store z.f_Stores) + (wsum wt_IndexDef (coS_IndexDef z.f_Unique))) := rfl
def Wide_Database (z : Y_Database) : Prop := z.f_Name.size ≤ maxLen ∧ (-9223372036854775808 ≤ z.f_Version ∧ z.f_Version ≤ 9223372036854775807) ∧ (z.f_Stores.length ≤ maxLen ∧ ∀ x ∈ z.f_Stores, Wide_Store x) ∧ (z.f_Unique.length ≤ maxLen ∧ ∀ x ∈ z.f_Unique, Wide_IndexDef x)
section
variable {H : Type} {enc : TypeId × Value → H} {W : World} {b : Nat} {sp : Nat → Bool} {hd : Bool}
theorem trod_Database {fuel : Nat} {cs : List Value} {x : DataW H × List MemPlace} (h : DataW.trod enc Try.prog W b sp hd fuel 25 cs = some x) (hlt : ∀ p ∈ x.2, p.block < W.heap.size) : ∃ z : Y_Database, cs = cl_Database z ∧ RowsRd W W.heap.size (rw_Database z) ∧ Wide_Database z := by
  obtain ⟨xs, n, _, hx, hl, hlen, hf⟩ := DataW.trod_struct Try.underlying25 h
  have hlN : cs.length = 4 := hl.trans (by kernel_rfl)
  match cs, hlN with
  | [c0, c1, c2, c3], _ =>
    have h0 : DataW.trod enc Try.prog W b sp hd n 9 (List.take (Try.prog.cellsOf 9) (List.drop 0 [c0, c1, c2, c3])) = xs[0]? := hf 0 _ rfl
    rw [show Try.prog.cellsOf 9 = 1 by kernel_rfl, List.getElem?_eq_getElem (by rw [hlen]; decide)] at h0
    obtain ⟨x0, e0, _, w0⟩ := DataW.trod_string Try.underlying9 h0
    have h1 : DataW.trod enc Try.prog W b sp hd n 3 (List.take (Try.prog.cellsOf 3) (List.drop 1 [c0, c1, c2, c3])) = xs[1]? := hf 1 _ rfl
    rw [show Try.prog.cellsOf 3 = 1 by kernel_rfl, List.getElem?_eq_getElem (by rw [hlen]; decide)] at h1
    obtain ⟨x1, e1, _, w1⟩ := DataW.trod_int Try.underlying3 h1
    have h2 : DataW.trod enc Try.prog W b sp hd n 22 (List.take (Try.prog.cellsOf 22) (List.drop 2 [c0, c1, c2, c3])) = xs[2]? := hf 2 _ rfl
    rw [show Try.prog.cellsOf 22 = 1 by kernel_rfl, List.getElem?_eq_getElem (by rw [hlen]; decide)] at h2
    obtain ⟨a2, x2, c2', e2, r2, v2, l2, w2⟩ := trods_Store h2 (fun p hp => hlt p (by rw [hx]; exact List.mem_flatMap.2 ⟨_, List.getElem_mem (show 2 < xs.length by rw [hlen]; decide), hp⟩))
    have h3 : DataW.trod enc Try.prog W b sp hd n 23 (List.take (Try.prog.cellsOf 23) (List.drop 3 [c0, c1, c2, c3])) = xs[3]? := hf 3 _ rfl
    rw [show Try.prog.cellsOf 23 = 1 by kernel_rfl, List.getElem?_eq_getElem (by rw [hlen]; decide)] at h3
    obtain ⟨a3, x3, c3', e3, r3, v3, l3, w3⟩ := trods_IndexDef h3 (fun p hp => hlt p (by rw [hx]; exact List.mem_flatMap.2 ⟨_, List.getElem_mem (show 3 < xs.length by rw [hlen]; decide), hp⟩))
    simp only [List.drop_succ_cons, List.drop_zero, List.take_succ_cons, List.take_zero, List.cons.injEq, and_true] at e0
    subst e0
    simp only [List.drop_succ_cons, List.drop_zero, List.take_succ_cons, List.take_zero, List.cons.injEq, and_true] at e1
    subst e1
    simp only [List.drop_succ_cons, List.drop_zero, List.take_succ_cons, List.take_zero, List.cons.injEq, and_true] at e2
    subst e2
    simp only [List.drop_succ_cons, List.drop_zero, List.take_succ_cons, List.take_zero, List.cons.injEq, and_true] at e3
    subst e3
    exact ⟨⟨x0, x1, a2, c2', x2, a3, c3', x3⟩, rfl, rd_app (rd_cons ⟨r2.1, r2.2.1, r2.2.2⟩ (by rw [rws_Store_eq]; exact v2)) (rd_cons ⟨r3.1, r3.2.1, r3.2.2⟩ (by rw [rws_IndexDef_eq]; exact v3)), ⟨w0, Law.wf_i64 w1, ⟨l2, w2⟩, ⟨l3, w3⟩⟩⟩
theorem open_Database {b0 : Nat} {v : Value} {d : DataW H} {ps : List MemPlace} (hval : Value.okWide Try.prog W .any b0 25 v) (h0 : DataW.Trod enc Try.prog W b sp hd 25 v d ps) (hlt : ∀ p ∈ ps, p.block < W.heap.size) : ∃ z : Y_Database, v = vv_Database z ∧ RowsRd W W.heap.size (rw_Database z) ∧ Wide_Database z := by
  obtain ⟨cs, rfl, _⟩ := okWide_struct Try.underlying25 hval
  obtain ⟨fuel, hf0⟩ := h0
  obtain ⟨z, e, h1, h2⟩ := trod_Database hf0 hlt
  obtain ⟨l⟩ := cs
  exact ⟨z, by rw [show l = cl_Database z from e]; rfl, h1, h2⟩
end
set_option maxHeartbeats 4000000 in
theorem to_Database (z : Y_Database) (hf : wt_Database (co_Database z) ≤ 1048576) (w : World) (hr : RowsRd w w.heap.size (rw_Database z)) : Calls Try.prog 9 #[vv_Database z] w fun e w' => ∃ y : Y_Database, e = .returned (vv_Database y) ∧ co_Database y = co_Database z ∧ BagOwn w' w.heap.size (rw_Database y) ∧ Below w.heap.size w w' := by
  have hfp := hf
  rw [wt_Database_parts] at hfp
  have HC2 := Lib.hid (fun w' (h : Below w.heap.size w w') => to_StoreS z.f_Stores_a z.f_Stores_c z.f_Stores (by omega) w' (((rd_head (rd_left hr)).reads.below h).more h.size) (((rd_tail (rd_left hr)).below h).more h.size))
  have HC3 := Lib.hid (fun w' (h : Below w.heap.size w w') => to_IndexDefS z.f_Unique_a z.f_Unique_c z.f_Unique (by omega) w' (((rd_head (rd_right hr)).reads.below h).more h.size) (((rd_tail (rd_right hr)).below h).more h.size))
  clear hfp hf hr
  unfold vv_Database
  have S1 := Lib.hid (show Sl.Sep w ((w.alloc (.cells #[.string z.f_Name, .int .i64 z.f_Version, .slice z.f_Stores_a z.f_Stores.length z.f_Stores_c, .slice z.f_Unique_a z.f_Unique.length z.f_Unique_c] 25)).alloc (.cells #[.string ⟨#[]⟩, .int .i64 0, .slice none 0 0, .slice none 0 0] 31)) [L4.boxR w.heap.size 25 #[.string z.f_Name, .int .i64 z.f_Version, .slice z.f_Stores_a z.f_Stores.length z.f_Stores_c, .slice z.f_Unique_a z.f_Unique.length z.f_Unique_c], L4.boxR (w.heap.size + 1) 31 #[.string ⟨#[]⟩, .int .i64 0, .slice none 0 0, .slice none 0 0]] from L4.push_box (L4.push_box (Sl.Sep.start w) 25 #[.string z.f_Name, .int .i64 z.f_Version, .slice z.f_Stores_a z.f_Stores.length z.f_Stores_c, .slice z.f_Unique_a z.f_Unique.length z.f_Unique_c] (w.heap.size) (by simp)) 31 #[.string ⟨#[]⟩, .int .i64 0, .slice none 0 0, .slice none 0 0] (w.heap.size + 1) (by simp))
  obtain ⟨wa, hwa⟩ : ∃ u, u = ((w.alloc (.cells #[.string z.f_Name, .int .i64 z.f_Version, .slice z.f_Stores_a z.f_Stores.length z.f_Stores_c, .slice z.f_Unique_a z.f_Unique.length z.f_Unique_c] 25)).alloc (.cells #[.string ⟨#[]⟩, .int .i64 0, .slice none 0 0, .slice none 0 0] 31)) := ⟨_, rfl⟩
  rw [← hwa] at S1
  go_enter Try.func9, Try.ntmps9
  go_upto_region 1 with fail
  rw [← hwa]
  clear hwa
  go_upto_region 2 with fail
  have S2 := Lib.hid (show Sl.Sep w _ [L4.boxR w.heap.size 25 #[.string z.f_Name, .int .i64 z.f_Version, .slice z.f_Stores_a z.f_Stores.length z.f_Stores_c, .slice z.f_Unique_a z.f_Unique.length z.f_Unique_c], L4.boxR (w.heap.size + 1) 31 #[.string ⟨#[]⟩, .int .i64 0, .slice none 0 0, .slice none 0 0], L4.boxR wa.heap.size 31 #[.string ⟨#[]⟩, .int .i64 0, .slice none 0 0, .slice none 0 0]] from L4.push_box S1.out 31 #[.string ⟨#[]⟩, .int .i64 0, .slice none 0 0, .slice none 0 0] wa.heap.size rfl)
  clear S1
  obtain ⟨g1, hg⟩ : ∃ g', g' = wa.heap.size := ⟨_, rfl⟩
  rw [← hg] at S2 ⊢
  clear hg
  generalize wa.alloc (.cells #[.string ⟨#[]⟩, .int .i64 0, .slice none 0 0, .slice none 0 0] 31) = w1 at S2 ⊢
  have hh := Bag.cs4 S2.out 0 rfl
  have f0 := hh.1; have f1 := hh.2.1; have f2 := hh.2.2.1; have f3 := hh.2.2.2; clear hh
  have hh := Bag.cs4 S2.out 2 rfl
  have f4 := hh.1; have f5 := hh.2.1; have f6 := hh.2.2.1; have f7 := hh.2.2.2; clear hh
  have z0 := Bag.free_at S2.out 2 rfl 0
  go_upto_region 3 with fail
  clear f0 f1 f2 f3 f4 f5 f6 f7 z0
  have S3 := Lib.hid (show Sl.Sep w _ [L4.boxR w.heap.size 25 #[.string z.f_Name, .int .i64 z.f_Version, .slice z.f_Stores_a z.f_Stores.length z.f_Stores_c, .slice z.f_Unique_a z.f_Unique.length z.f_Unique_c], L4.boxR (w.heap.size + 1) 31 #[.string ⟨#[]⟩, .int .i64 0, .slice none 0 0, .slice none 0 0], L4.boxR g1 31 #[.string z.f_Name, .int .i64 0, .slice none 0 0, .slice none 0 0]] from L5.put_box5 (S2.out) 2 rfl 0 (.string z.f_Name))
  clear S2
  have hh := Bag.cs4 S3.out 0 rfl
  have f0 := hh.1; have f1 := hh.2.1; have f2 := hh.2.2.1; have f3 := hh.2.2.2; clear hh
  have hh := Bag.cs4 S3.out 2 rfl
  have f4 := hh.1; have f5 := hh.2.1; have f6 := hh.2.2.1; have f7 := hh.2.2.2; clear hh
  have z1 := Bag.free_at S3.out 2 rfl 1
  go_upto_region 4 with fail
  clear f0 f1 f2 f3 f4 f5 f6 f7 z1
  have S4 := Lib.hid (show Sl.Sep w _ [L4.boxR w.heap.size 25 #[.string z.f_Name, .int .i64 z.f_Version, .slice z.f_Stores_a z.f_Stores.length z.f_Stores_c, .slice z.f_Unique_a z.f_Unique.length z.f_Unique_c], L4.boxR (w.heap.size + 1) 31 #[.string ⟨#[]⟩, .int .i64 0, .slice none 0 0, .slice none 0 0], L4.boxR g1 31 #[.string z.f_Name, .int .i64 z.f_Version, .slice none 0 0, .slice none 0 0]] from L5.put_box5 (S3.out) 2 rfl 1 (.int .i64 z.f_Version))
  clear S3
  have hh := Bag.cs4 S4.out 0 rfl
  have f0 := hh.1; have f1 := hh.2.1; have f2 := hh.2.2.1; have f3 := hh.2.2.2; clear hh
  go_wp2_with fail
  go_at_call 24
  refine (HC2.out _ S4.out.old).mono ?_
  rintro e w2 ⟨a2', c2', y2, rfl, hc2, ho, hb⟩
  clear f0 f1 f2 f3
  have S5 := Lib.hid (show Sl.Sep w _ [L4.boxR w.heap.size 25 #[.string z.f_Name, .int .i64 z.f_Version, .slice z.f_Stores_a z.f_Stores.length z.f_Stores_c, .slice z.f_Unique_a z.f_Unique.length z.f_Unique_c], L4.boxR (w.heap.size + 1) 31 #[.string ⟨#[]⟩, .int .i64 0, .slice none 0 0, .slice none 0 0], L4.boxR g1 31 #[.string z.f_Name, .int .i64 z.f_Version, .slice none 0 0, .slice none 0 0], Bag.bag (rs_Store a2' c2' y2)] from Bag.push_bag S4.out hb ho)
  clear S4
  clear hb ho
  have HQ2 := Lib.hid hc2
  clear hc2
  have hh := Bag.cs4 S5.out 0 rfl
  have f0 := hh.1; have f1 := hh.2.1; have f2 := hh.2.2.1; have f3 := hh.2.2.2; clear hh
  have hh := Bag.cs4 S5.out 2 rfl
  have f4 := hh.1; have f5 := hh.2.1; have f6 := hh.2.2.1; have f7 := hh.2.2.2; clear hh
  have z2 := Bag.free_at S5.out 2 rfl 2
  go_upto_region 5 with fail
  clear f0 f1 f2 f3 f4 f5 f6 f7 z2
  have S6 := Lib.hid (show Sl.Sep w _ [L4.boxR w.heap.size 25 #[.string z.f_Name, .int .i64 z.f_Version, .slice z.f_Stores_a z.f_Stores.length z.f_Stores_c, .slice z.f_Unique_a z.f_Unique.length z.f_Unique_c], L4.boxR (w.heap.size + 1) 31 #[.string ⟨#[]⟩, .int .i64 0, .slice none 0 0, .slice none 0 0], L4.boxR g1 31 #[.string z.f_Name, .int .i64 z.f_Version, .slice a2' y2.length c2', .slice none 0 0], Bag.bag (rs_Store a2' c2' y2)] from L5.put_box5 (S5.out) 2 rfl 2 (.slice a2' y2.length c2'))
  clear S5
  have hh := Bag.cs4 S6.out 0 rfl
  have f0 := hh.1; have f1 := hh.2.1; have f2 := hh.2.2.1; have f3 := hh.2.2.2; clear hh
  go_wp2_with fail
  go_at_call 25
  refine (HC3.out _ S6.out.old).mono ?_
  rintro e w3 ⟨a3', c3', y3, rfl, hc3, ho, hb⟩
  clear f0 f1 f2 f3
  have S7 := Lib.hid (show Sl.Sep w _ [L4.boxR w.heap.size 25 #[.string z.f_Name, .int .i64 z.f_Version, .slice z.f_Stores_a z.f_Stores.length z.f_Stores_c, .slice z.f_Unique_a z.f_Unique.length z.f_Unique_c], L4.boxR (w.heap.size + 1) 31 #[.string ⟨#[]⟩, .int .i64 0, .slice none 0 0, .slice none 0 0], L4.boxR g1 31 #[.string z.f_Name, .int .i64 z.f_Version, .slice a2' y2.length c2', .slice none 0 0], Bag.bag (rs_Store a2' c2' y2), Bag.bag (rs_IndexDef a3' c3' y3)] from Bag.push_bag S6.out hb ho)
  clear S6
  clear hb ho
  have HQ3 := Lib.hid hc3
  clear hc3
  have hh := Bag.cs4 S7.out 0 rfl
  have f0 := hh.1; have f1 := hh.2.1; have f2 := hh.2.2.1; have f3 := hh.2.2.2; clear hh
  have hh := Bag.cs4 S7.out 2 rfl
  have f4 := hh.1; have f5 := hh.2.1; have f6 := hh.2.2.1; have f7 := hh.2.2.2; clear hh
  have z3 := Bag.free_at S7.out 2 rfl 3
  go_upto_region 6 with fail
  clear f0 f1 f2 f3 f4 f5 f6 f7 z3
  have S8 := Lib.hid (show Sl.Sep w _ [L4.boxR w.heap.size 25 #[.string z.f_Name, .int .i64 z.f_Version, .slice z.f_Stores_a z.f_Stores.length z.f_Stores_c, .slice z.f_Unique_a z.f_Unique.length z.f_Unique_c], L4.boxR (w.heap.size + 1) 31 #[.string ⟨#[]⟩, .int .i64 0, .slice none 0 0, .slice none 0 0], L4.boxR g1 31 #[.string z.f_Name, .int .i64 z.f_Version, .slice a2' y2.length c2', .slice a3' y3.length c3'], Bag.bag (rs_Store a2' c2' y2), Bag.bag (rs_IndexDef a3' c3' y3)] from L5.put_box5 (S7.out) 2 rfl 3 (.slice a3' y3.length c3'))
  clear S7
  have hh := Bag.cs4 S8.out 1 rfl
  have f0 := hh.1; have f1 := hh.2.1; have f2 := hh.2.2.1; have f3 := hh.2.2.2; clear hh
  have hh := Bag.cs4 S8.out 2 rfl
  have f4 := hh.1; have f5 := hh.2.1; have f6 := hh.2.2.1; have f7 := hh.2.2.2; clear hh
  have hh := Bag.fs4 S8.out 1 rfl
  have z0 := hh.1; have z1 := hh.2.1; have z2 := hh.2.2.1; have z3 := hh.2.2.2; clear hh
  go_wp2_with fail
  clear f0 f1 f2 f3 f4 f5 f6 f7 z0 z1 z2 z3
  have S9 := Lib.hid (show Sl.Sep w _ [L4.boxR w.heap.size 25 #[.string z.f_Name, .int .i64 z.f_Version, .slice z.f_Stores_a z.f_Stores.length z.f_Stores_c, .slice z.f_Unique_a z.f_Unique.length z.f_Unique_c], L4.boxR (w.heap.size + 1) 31 #[.string z.f_Name, .int .i64 z.f_Version, .slice a2' y2.length c2', .slice a3' y3.length c3'], L4.boxR g1 31 #[.string z.f_Name, .int .i64 z.f_Version, .slice a2' y2.length c2', .slice a3' y3.length c3'], Bag.bag (rs_Store a2' c2' y2), Bag.bag (rs_IndexDef a3' c3' y3)] from L5.put_box5 (L5.put_box5 (L5.put_box5 (L5.put_box5 (S8.out) 1 rfl 0 (.string z.f_Name)) 1 rfl 1 (.int .i64 z.f_Version)) 1 rfl 2 (.slice a2' y2.length c2')) 1 rfl 3 (.slice a3' y3.length c3'))
  clear S8
  have hh := Bag.cs4 S9.out 1 rfl
  have f0 := hh.1; have f1 := hh.2.1; have f2 := hh.2.2.1; have f3 := hh.2.2.2; clear hh
  refine bodyPost_ret (v := .agg #[.string z.f_Name, .int .i64 z.f_Version, .slice a2' y2.length c2', .slice a3' y3.length c3']) (by simp [results, Try.results9, go_sem, *]) rfl ?_
  clear f0 f1 f2 f3
  have S10 := Lib.hid (show Sl.Sep w _ [L4.boxR w.heap.size 25 #[.string z.f_Name, .int .i64 z.f_Version, .slice z.f_Stores_a z.f_Stores.length z.f_Stores_c, .slice z.f_Unique_a z.f_Unique.length z.f_Unique_c], L4.boxR (w.heap.size + 1) 31 #[.string z.f_Name, .int .i64 z.f_Version, .slice a2' y2.length c2', .slice a3' y3.length c3'], L4.boxR g1 31 #[.string z.f_Name, .int .i64 z.f_Version, .slice a2' y2.length c2', .slice a3' y3.length c3'], Bag.bag ((rs_Store a2' c2' y2) ++ (rs_IndexDef a3' c3' y3)), Bag.bag ([])] from Bag.bag_join S9.out 3 4 (by decide) rfl rfl)
  clear S9
  refine ⟨⟨z.f_Name, z.f_Version, a2', c2', y2, a3', c3', y3⟩, rfl, ?_, Bag.bag_from S10.out 3 rfl, S10.out.old⟩
  show (⟨z.f_Name, z.f_Version, coS_Store y2, coS_IndexDef y3⟩ : X_Database) = (⟨z.f_Name, z.f_Version, coS_Store z.f_Stores, coS_IndexDef z.f_Unique⟩ : X_Database)
  rw [HQ2.out, HQ3.out]
set_option maxHeartbeats 4000000 in
theorem sz_Database (z : Y_Database) (q : Int) (hw : Wide_Database z) (hq0 : -1 ≤ q) (hq1 : q ≤ 1048576) (w : World) (hr : RowsRd w w.heap.size (rw_Database z)) : Calls Try.prog 7 #[vv_Database z, .int .i64 q] w fun e w' => e = .returned (.int .i64 (lft q (wt_Database (co_Database z)))) ∧ Below w.heap.size w w' := by
  have hs0 : (z.f_Name.size : Int) ≤ 9223372036854775807 := by have h : z.f_Name.size ≤ maxLen := hw.1; unfold maxLen at h; omega
  have HS2 := Lib.hid (fun (m : Int) (h0 : -1 ≤ m) (h1 : m ≤ 1048576) w' (h : Below w.heap.size w w') => sz_StoreS z.f_Stores_a z.f_Stores_c z.f_Stores m hw.2.2.1.2 hw.2.2.1.1 h0 h1 w' (((rd_head (rd_left hr)).reads.below h).more h.size) (((rd_tail (rd_left hr)).below h).more h.size))
  have HS3 := Lib.hid (fun (m : Int) (h0 : -1 ≤ m) (h1 : m ≤ 1048576) w' (h : Below w.heap.size w w') => sz_IndexDefS z.f_Unique_a z.f_Unique_c z.f_Unique m hw.2.2.2.2 hw.2.2.2.1 h0 h1 w' (((rd_head (rd_right hr)).reads.below h).more h.size) (((rd_tail (rd_right hr)).below h).more h.size))
  have HW := Lib.hid (wt_Database_parts z)
  clear hw hr
  unfold vv_Database
  have S1 := Lib.hid (show Sl.Sep w (w.alloc (.cells #[.string z.f_Name, .int .i64 z.f_Version, .slice z.f_Stores_a z.f_Stores.length z.f_Stores_c, .slice z.f_Unique_a z.f_Unique.length z.f_Unique_c] 25)) [L4.boxR w.heap.size 25 #[.string z.f_Name, .int .i64 z.f_Version, .slice z.f_Stores_a z.f_Stores.length z.f_Stores_c, .slice z.f_Unique_a z.f_Unique.length z.f_Unique_c]] from L4.push_box (Sl.Sep.start w) 25 #[.string z.f_Name, .int .i64 z.f_Version, .slice z.f_Stores_a z.f_Stores.length z.f_Stores_c, .slice z.f_Unique_a z.f_Unique.length z.f_Unique_c] (w.heap.size) (by simp))
  obtain ⟨wa, hwa⟩ : ∃ u, u = (w.alloc (.cells #[.string z.f_Name, .int .i64 z.f_Version, .slice z.f_Stores_a z.f_Stores.length z.f_Stores_c, .slice z.f_Unique_a z.f_Unique.length z.f_Unique_c] 25)) := ⟨_, rfl⟩
  rw [← hwa] at S1
  go_enter Try.func7, Try.ntmps7
  go_upto_region 1 with fail
  rw [← hwa]
  clear hwa
  have hh := Bag.cs4 S1.out 0 rfl
  have f0 := hh.1; have f1 := hh.2.1; have f2 := hh.2.2.1; have f3 := hh.2.2.2; clear hh
  by_cases hn0 : q - (z.f_Name.size : Int) < 0
  · skip
    go_wp2_with fail
    go_ret
    exact ⟨by rw [HW.out, lft_neg (by omega)] <;> rfl, S1.out.old⟩
  · skip
    obtain ⟨u2, hu⟩ : ∃ u, lft (q - (z.f_Name.size : Int)) (wsum wt_Store (coS_Store z.f_Stores)) = u := ⟨_, rfl⟩
    have hc2 := lft_cases hu
    have hr2 := lft_range (q := (q - (z.f_Name.size : Int))) (wsum wt_Store (coS_Store z.f_Stores)) (by omega)
    rw [hu] at hr2
    have HCU := HS2.out (q - (z.f_Name.size : Int)) (by omega) (by omega)
    simp only [hu] at HCU
    replace HCU := Lib.hid HCU
    clear hu
    go_wp2_with fail
    go_at_call 18
    refine (HCU.out _ S1.out.old).mono ?_
    rintro e w1 ⟨rfl, hb⟩
    clear f0 f1 f2 f3
    have S2 := Lib.hid (S1.out.keep hb)
    clear S1
    clear hb
    have hh := Bag.cs4 S2.out 0 rfl
    have f0 := hh.1; have f1 := hh.2.1; have f2 := hh.2.2.1; have f3 := hh.2.2.2; clear hh
    clear HCU
    by_cases hn2 : u2 < 0
    · have hm1 : u2 = -1 := by omega
      subst hm1
      go_wp2_with fail
      go_ret
      exact ⟨by rw [HW.out, lft_neg (by omega)] <;> rfl, S2.out.old⟩
    · skip
      obtain ⟨u3, hu⟩ : ∃ u, lft u2 (wsum wt_IndexDef (coS_IndexDef z.f_Unique)) = u := ⟨_, rfl⟩
      have hc3 := lft_cases hu
      have hr3 := lft_range (q := u2) (wsum wt_IndexDef (coS_IndexDef z.f_Unique)) (by omega)
      rw [hu] at hr3
      have HCU := HS3.out u2 (by omega) (by omega)
      simp only [hu] at HCU
      replace HCU := Lib.hid HCU
      clear hu
      go_wp2_with fail
      go_at_call 19
      refine (HCU.out _ S2.out.old).mono ?_
      rintro e w2 ⟨rfl, hb⟩
      clear f0 f1 f2 f3
      have S3 := Lib.hid (S2.out.keep hb)
      clear S2
      clear hb
      have hh := Bag.cs4 S3.out 0 rfl
      have f0 := hh.1; have f1 := hh.2.1; have f2 := hh.2.2.1; have f3 := hh.2.2.2; clear hh
      clear HCU
      by_cases hn3 : u3 < 0
      · have hm1 : u3 = -1 := by omega
        subst hm1
        go_wp2_with fail
        go_ret
        exact ⟨by rw [HW.out, lft_neg (by omega)] <;> rfl, S3.out.old⟩
      · skip
        go_wp2_with fail
        go_ret
        exact ⟨by rw [HW.out, lft_pos (by omega)] <;> first | rfl | (refine congrArg (fun i => Ending.returned (.int .i64 i)) ?_; omega), S3.out.old⟩
set_option maxHeartbeats 4000000 in
theorem eq_Database (y z : Y_Database) (hc : co_Database y = co_Database z) (hf : wt_Database (co_Database y) ≤ 1125899906842624) (w : World) (hr : RowsRd w w.heap.size (rw_Database y)) (hr2 : RowsRd w w.heap.size (rw_Database z)) : Calls Try.prog 11 #[vv_Database y, vv_Database z] w fun e w' => e = .returned (.bool true) ∧ Below w.heap.size w w' := by
  have hfp := hf
  rw [wt_Database_parts] at hfp
  have ee0 : z.f_Name = y.f_Name := (show y.f_Name = z.f_Name from congrArg X_Database.f_Name (hc)).symm
  have ee1 : z.f_Version = y.f_Version := (show y.f_Version = z.f_Version from congrArg X_Database.f_Version (hc)).symm
  have ee2 : z.f_Stores.length = y.f_Stores.length := (by have h := congrArg List.length (show coS_Store y.f_Stores = coS_Store z.f_Stores from congrArg X_Database.f_Stores (hc)); rw [coS_Store_eq, coS_Store_eq, List.length_map, List.length_map] at h; exact h.symm)
  have ee3 : z.f_Unique.length = y.f_Unique.length := (by have h := congrArg List.length (show coS_IndexDef y.f_Unique = coS_IndexDef z.f_Unique from congrArg X_Database.f_Unique (hc)); rw [coS_IndexDef_eq, coS_IndexDef_eq, List.length_map, List.length_map] at h; exact h.symm)
  have HE2 := Lib.hid (fun w' (h : Below w.heap.size w w') => eq_StoreS y.f_Stores_a z.f_Stores_a y.f_Stores_c z.f_Stores_c y.f_Stores z.f_Stores (congrArg X_Database.f_Stores hc) (by omega) w' (((rd_head (rd_left hr)).reads.below h).more h.size) (((rd_tail (rd_left hr)).below h).more h.size) (((rd_head (rd_left hr2)).reads.below h).more h.size) (((rd_tail (rd_left hr2)).below h).more h.size))
  simp only [ee0, ee1, ee2, ee3] at HE2
  have HE3 := Lib.hid (fun w' (h : Below w.heap.size w w') => eq_IndexDefS y.f_Unique_a z.f_Unique_a y.f_Unique_c z.f_Unique_c y.f_Unique z.f_Unique (congrArg X_Database.f_Unique hc) (by omega) w' (((rd_head (rd_right hr)).reads.below h).more h.size) (((rd_tail (rd_right hr)).below h).more h.size) (((rd_head (rd_right hr2)).reads.below h).more h.size) (((rd_tail (rd_right hr2)).below h).more h.size))
  simp only [ee0, ee1, ee2, ee3] at HE3
  have hv : vv_Database z = .agg #[.string y.f_Name, .int .i64 y.f_Version, .slice z.f_Stores_a y.f_Stores.length z.f_Stores_c, .slice z.f_Unique_a y.f_Unique.length z.f_Unique_c] := by unfold vv_Database; simp only [ee0, ee1, ee2, ee3]
  rw [hv]
  clear hv hfp hf hc hr hr2 ee0 ee1 ee2 ee3
  unfold vv_Database
  have S1 := Lib.hid (show Sl.Sep w ((w.alloc (.cells #[.string y.f_Name, .int .i64 y.f_Version, .slice y.f_Stores_a y.f_Stores.length y.f_Stores_c, .slice y.f_Unique_a y.f_Unique.length y.f_Unique_c] 31)).alloc (.cells #[.string y.f_Name, .int .i64 y.f_Version, .slice z.f_Stores_a y.f_Stores.length z.f_Stores_c, .slice z.f_Unique_a y.f_Unique.length z.f_Unique_c] 31)) [L4.boxR w.heap.size 31 #[.string y.f_Name, .int .i64 y.f_Version, .slice y.f_Stores_a y.f_Stores.length y.f_Stores_c, .slice y.f_Unique_a y.f_Unique.length y.f_Unique_c], L4.boxR (w.heap.size + 1) 31 #[.string y.f_Name, .int .i64 y.f_Version, .slice z.f_Stores_a y.f_Stores.length z.f_Stores_c, .slice z.f_Unique_a y.f_Unique.length z.f_Unique_c]] from L4.push_box (L4.push_box (Sl.Sep.start w) 31 #[.string y.f_Name, .int .i64 y.f_Version, .slice y.f_Stores_a y.f_Stores.length y.f_Stores_c, .slice y.f_Unique_a y.f_Unique.length y.f_Unique_c] (w.heap.size) (by simp)) 31 #[.string y.f_Name, .int .i64 y.f_Version, .slice z.f_Stores_a y.f_Stores.length z.f_Stores_c, .slice z.f_Unique_a y.f_Unique.length z.f_Unique_c] (w.heap.size + 1) (by simp))
  obtain ⟨wa, hwa⟩ : ∃ u, u = ((w.alloc (.cells #[.string y.f_Name, .int .i64 y.f_Version, .slice y.f_Stores_a y.f_Stores.length y.f_Stores_c, .slice y.f_Unique_a y.f_Unique.length y.f_Unique_c] 31)).alloc (.cells #[.string y.f_Name, .int .i64 y.f_Version, .slice z.f_Stores_a y.f_Stores.length z.f_Stores_c, .slice z.f_Unique_a y.f_Unique.length z.f_Unique_c] 31)) := ⟨_, rfl⟩
  rw [← hwa] at S1
  go_enter Try.func11, Try.ntmps11
  go_upto_region 1 with fail
  rw [← hwa]
  clear hwa
  have hh := Bag.cs4 S1.out 0 rfl
  have f0 := hh.1; have f1 := hh.2.1; have f2 := hh.2.2.1; have f3 := hh.2.2.2; clear hh
  have hh := Bag.cs4 S1.out 1 rfl
  have f4 := hh.1; have f5 := hh.2.1; have f6 := hh.2.2.1; have f7 := hh.2.2.2; clear hh
  go_wp2_with fail
  go_at_call 30
  refine (HE2.out _ S1.out.old).mono ?_
  rintro e w1 ⟨rfl, hb⟩
  clear f0 f1 f2 f3 f4 f5 f6 f7
  have S2 := Lib.hid (S1.out.keep hb)
  clear S1
  clear hb
  have hh := Bag.cs4 S2.out 0 rfl
  have f0 := hh.1; have f1 := hh.2.1; have f2 := hh.2.2.1; have f3 := hh.2.2.2; clear hh
  have hh := Bag.cs4 S2.out 1 rfl
  have f4 := hh.1; have f5 := hh.2.1; have f6 := hh.2.2.1; have f7 := hh.2.2.2; clear hh
  go_wp2_with fail
  go_at_call 31
  refine (HE3.out _ S2.out.old).mono ?_
  rintro e w2 ⟨rfl, hb⟩
  clear f0 f1 f2 f3 f4 f5 f6 f7
  have S3 := Lib.hid (S2.out.keep hb)
  clear S2
  clear hb
  have hh := Bag.cs4 S3.out 0 rfl
  have f0 := hh.1; have f1 := hh.2.1; have f2 := hh.2.2.1; have f3 := hh.2.2.2; clear hh
  have hh := Bag.cs4 S3.out 1 rfl
  have f4 := hh.1; have f5 := hh.2.1; have f6 := hh.2.2.1; have f7 := hh.2.2.2; clear hh
  go_wp2_with fail
  go_ret
  exact ⟨rfl, S3.out.old⟩
end Go.Proofs.Ytboefioalkjdaaa.V

/-
  Chapter 8's models: databases, their structure's changes as plain mathematics; what the contracts ask. No condition.
-/
namespace Go.Proofs.Ytboefioalkjdaaa.L8
set_option maxRecDepth 100000
open V L6 L7
open L4 (K isK cmpK)
open L5 (F isR isN)
open Go.Op (bytesLess)
open Go.ChangeShapes Go.WideShapes Go.ChangeAt Go.RowKit Mem Sl Sv Bag
set_option linter.unusedVariables false
set_option linter.unusedSimpArgs false

/-! ### stores and indexes by their names -/
def hasN (n : ByteArray) (s : S6) : Bool := s.name.toList == n.toList
def fndS (xs : List S6) (n : ByteArray) : Option Nat := xs.findIdx? (hasN n)
def numO : Option Nat → Int
  | some i => i
  | none => -1
theorem idx_at {α : Type} {p : α → Bool} {xs : List α} (i : Nat) (hi : i < xs.length) (h : p xs[i] = true) (ha : ∀ j (hj : j < xs.length), j < i → p xs[j] = false) : xs.findIdx? p = some i := by
  rw [List.findIdx?_eq_some_iff_getElem]
  exact ⟨hi, h, fun j hj => by rw [ha j (by omega) hj]; simp⟩
theorem idx_none {α : Type} {p : α → Bool} {xs : List α} (ha : ∀ j (hj : j < xs.length), p xs[j] = false) : xs.findIdx? p = none := by
  rw [List.findIdx?_eq_none_iff]
  intro x hx
  obtain ⟨j, hj, rfl⟩ := List.getElem_of_mem hx
  exact ha j hj
/-! ### a valid database -/
/-! ### its changes -/
/-! ### what the contracts ask -/
structure FitX (u : X_IndexDef) : Prop where
  store : u.f_Store.size ≤ 281474976710656
  field : u.f_Field.size ≤ 281474976710656
structure FitD (d : X_Database) : Prop where
  name : d.f_Name.size ≤ 281474976710656
  len : d.f_Stores.length ≤ 1048576
  stores : ∀ s ∈ d.f_Stores, FitS s
  many : d.f_Unique.length ≤ 1048576
  unique : ∀ u ∈ d.f_Unique, FitX u
section
variable {w : World} {B : Nat} {z : Y_Database}
theorem rdS (h : RowsRd w B (rw_Database z)) : Reads w B z.f_Stores_a (z.f_Stores.flatMap cl_Store) := (rd_head (rd_left h)).reads
theorem rdX (h : RowsRd w B (rw_Database z)) : RowsRd w B (rws_Store z.f_Stores) := rd_tail (rd_left h)
theorem rdU (h : RowsRd w B (rw_Database z)) : Reads w B z.f_Unique_a (z.f_Unique.flatMap cl_IndexDef) := (rd_head (rd_right h)).reads
theorem co_len : (co_Database z).f_Stores.length = z.f_Stores.length := by show (coS_Store z.f_Stores).length = _; rw [coS_Store_eq, List.length_map]
theorem coS_at {ss : List LS} {k : Nat} {x : LS} (h : ss[k]? = some x) : (coS_Store ss)[k]? = some x.con := by rw [coS_Store_eq, List.getElem?_map, h]; rfl
theorem coS_len {ss : List LS} : (coS_Store ss).length = ss.length := by rw [coS_Store_eq, List.length_map]
theorem rd_store {ss : List LS} (h : RowsRd w B (rws_Store ss)) {k : Nat} {x : LS} (hx : ss[k]? = some x) : RowsRd w B x.rows := rd_el (rw_ := rw_Store) h hx
theorem fit_store {ss : List LS} (h : ∀ s ∈ coS_Store ss, FitS s) {k : Nat} {x : LS} (hx : ss[k]? = some x) : FitS x.con := h _ (List.mem_of_getElem? (coS_at hx))
end
end Go.Proofs.Ytboefioalkjdaaa.L8

/-
  What the room of the exact laws tells: fits from weights; the weight of an upgraded database. (By hand.)
-/
namespace Go.Proofs.Ytboefioalkjdaaa.L8
set_option maxRecDepth 100000
open V L6 L7
open L4 (K isK cmpK)
open L5 (F isR isN string_geq Small)
open Go.ChangeShapes Go.WideShapes Go.ChangeAt Go.RowKit Mem Sl Ex L2 Sv Bag
set_option linter.unusedVariables false
set_option linter.unusedSimpArgs false

theorem fitR_wt {l : List F} (h : wt_Record l ≤ 1048576) : l.length ≤ 1048576 ∧ Small l := by
  have h1 : l.length ≤ wt_Record l := wsum_len wt_Field l
  refine ⟨by omega, fun f hf => ?_⟩
  have h2 : wt_Field f + 1 ≤ wt_Record l := wsum_mem hf
  have h3 : wt_Field f = f.name.size := rfl
  omega
theorem fitI_wt {x : It} (h : wt_Item x ≤ 1048576) : FitI x := by
  have h1 : wt_Item x = x.k.text.size + wt_Record x.l := rfl
  obtain ⟨h2, h3⟩ := fitR_wt (l := x.l) (by omega)
  exact ⟨by omega, h2, h3⟩
theorem fitS_wt {s : S6} (h : wt_Store s ≤ 1048576) : FitS s := by
  have h1 : wt_Store s = s.name.size + wsum wt_Item s.items := rfl
  have h2 := wsum_len wt_Item s.items
  refine ⟨by omega, by omega, fun x hx => fitI_wt ?_⟩
  have h3 : wt_Item x + 1 ≤ wsum wt_Item s.items := wsum_mem hx
  omega
theorem fitX_wt {u : X_IndexDef} (h : wt_IndexDef u ≤ 1048576) : FitX u := by
  have h1 : wt_IndexDef u = u.f_Store.size + u.f_Field.size := rfl
  exact ⟨by omega, by omega⟩
theorem fitD_wt {d : X_Database} (h : wt_Database d ≤ 1048576) : FitD d := by
  have h1 : wt_Database d = d.f_Name.size + (wsum wt_Store d.f_Stores + wsum wt_IndexDef d.f_Unique) := rfl
  have h2 := wsum_len wt_Store d.f_Stores
  have h3 := wsum_len wt_IndexDef d.f_Unique
  refine ⟨by omega, by omega, fun s hs => fitS_wt ?_, by omega, fun u hu => fitX_wt ?_⟩
  · have h4 : wt_Store s + 1 ≤ wsum wt_Store d.f_Stores := wsum_mem hs
    omega
  · have h4 : wt_IndexDef u + 1 ≤ wsum wt_IndexDef d.f_Unique := wsum_mem hu
    omega
end Go.Proofs.Ytboefioalkjdaaa.L8

/-
  The contracts of chapter 7's functions of the specification, III: CursorNext, WalkStore. Conditions: keys' texts of at most 2^40 bytes, at most 2^20 fields and items. (Written by my program gen_l7c.py.)
-/
namespace Go.Proofs.Ytboefioalkjdaaa.L7
set_option maxRecDepth 100000
open L4 (K isK cmpK R inR encU)
open L5 (F isR isN cellsF encR eqR Small getO getN getB)
open L6
open Go.ChangeShapes Go.WideShapes Go.ChangeAt Go.RowKit Mem Sl Ex L2 Sv Bag
set_option linter.unusedVariables false
set_option linter.unusedSimpArgs false

structure FitC (x : Cu) : Prop where
  lo : x.r.lo.text.size ≤ 281474976710656
  hi : x.r.hi.text.size ≤ 281474976710656
  at_ : x.k.text.size ≤ 281474976710656

end Go.Proofs.Ytboefioalkjdaaa.L7

/-
  The contracts of chapter 7's functions of the specification, IV: UniqueFault, WalkStore. Conditions: keys' texts of at most 2^40 bytes, at most 2^20 fields and items. (Written by my program gen_l7d.py.)
-/
namespace Go.Proofs.Ytboefioalkjdaaa.L7
set_option maxRecDepth 100000
open L4 (K isK cmpK R inR encU)
open L5 (F isR isN cellsF encR eqR Small getO getN getB)
open L6
open Go.ChangeShapes Go.WideShapes Go.ChangeAt Go.RowKit Mem Sl Ex L2 Sv Bag
set_option linter.unusedVariables false
set_option linter.unusedSimpArgs false

theorem FitC.to {x : Cu} (h : FitC x) (k : K) (hk : k.text.size ≤ 281474976710656) : FitC (x.to k) := ⟨h.lo, h.hi, hk⟩
end Go.Proofs.Ytboefioalkjdaaa.L7

/-
  The contracts of chapter 8's functions of the specification that only read, I: FindStore, l8Index, IsDatabase. Conditions: names of at most 2^48 bytes, at most 2^20 stores, indexes, items and fields. (Written by my program gen_l8a.py.)
-/
namespace Go.Proofs.Ytboefioalkjdaaa.L8
set_option maxRecDepth 100000
open V L6 L7
open L4 (K isK cmpK)
open L5 (F isR isN string_geq)
open Go.Op (bytesLess)
open Go.ChangeShapes Go.WideShapes Go.ChangeAt Go.RowKit Mem Sl Ex L2 Sv Bag
set_option linter.unusedVariables false
set_option linter.unusedSimpArgs false

set_option maxHeartbeats 2000000 in
theorem specFindStore_any (z : Y_Database) (n : ByteArray) (hf : FitD (co_Database z)) (w : World) (hr : RowsRd w w.heap.size (rw_Database z)) :
    Calls Try.prog 12 #[vv_Database z, .string n] w fun e w' => e = .returned (.int .i64 (numO (fndS (co_Database z).f_Stores n))) ∧ Below w.heap.size w w' := by
  have HR : Hid (∀ w' (h : Below w.heap.size w w'), Reads w' w.heap.size z.f_Stores_a (z.f_Stores.flatMap cl_Store)) := Lib.hid (fun w' h => (rdS hr).below h)
  have HX : Hid (∀ w' (h : Below w.heap.size w w'), RowsRd w' w'.heap.size (rws_Store z.f_Stores)) := Lib.hid (fun w' h => ((rdX hr).below h).more h.size)
  have HU : Hid (∀ w' (h : Below w.heap.size w w'), Reads w' w.heap.size z.f_Unique_a (z.f_Unique.flatMap cl_IndexDef)) := Lib.hid (fun w' h => (rdU hr).below h)
  have HFD := Lib.hid hf
  have HFDl : z.f_Stores.length ≤ 1048576 := by have h := hf.len; rwa [co_len] at h
  have HFDm : z.f_Unique.length ≤ 1048576 := hf.many
  clear hf hr
  obtain ⟨name, ver, sa, sc, ss, ua, uc, us⟩ := z
  dsimp only [co_Database] at HR HX HU HFD HFDl HFDm
  try unfold vv_Database
  try unfold co_Database
  try dsimp only
  try rw [show coS_IndexDef us = us from rfl]
  rw [show coS_IndexDef us = us from rfl] at HFD
  obtain ⟨N, hN⟩ : ∃ n, n = ss.length := ⟨_, rfl⟩
  obtain ⟨M, hM⟩ : ∃ n, n = us.length := ⟨_, rfl⟩
  rw [← hN] at HFDl ⊢
  rw [← hM] at HFDm ⊢
  have HFDl' : (N : Int) ≤ 1048576 := by omega
  have HFDm' : (M : Int) ≤ 1048576 := by omega
  have HN := Lib.hid hN
  have HM := Lib.hid hM
  clear hN hM
  have S1 := Lib.hid (show Sl.Sep w (w.alloc (.cells #[.string name, .int .i64 ver, .slice sa N sc, .slice ua M uc] 31)) [L4.boxR w.heap.size 31 #[.string name, .int .i64 ver, .slice sa N sc, .slice ua M uc]] from L4.push_box (Sl.Sep.start w) 31 #[.string name, .int .i64 ver, .slice sa N sc, .slice ua M uc] (w.heap.size) (by simp))
  obtain ⟨wa, hwa⟩ : ∃ u, u = (w.alloc (.cells #[.string name, .int .i64 ver, .slice sa N sc, .slice ua M uc] 31)) := ⟨_, rfl⟩
  rw [← hwa] at S1
  go_enter Try.func12, Try.ntmps12
  go_upto_region 1 with fail
  rw [← hwa]
  clear hwa
  go_wp2_with fail
  go_loopw [5] (fun i wr => ∃ k : Nat, k ≤ N ∧ i = .int .i64 k ∧ Hid ((∀ j (hj : j < (coS_Store ss).length), j < k → hasN n (coS_Store ss)[j] = false) ∧ Sl.Sep w wr [L4.boxR w.heap.size 31 #[.string name, .int .i64 ver, .slice sa N sc, .slice ua M uc]])) (fun i _ => N - (intOf i).toNat)
  case atStart => exact ⟨0, Nat.zero_le _, rfl, And.intro (fun j hj h => absurd h (by omega)) S1.out⟩
  case round =>
    obtain ⟨k, hk, rfl, hrel⟩ := hrel
    have HA := Lib.hid hrel.out.1
    have S2 := Lib.hid hrel.out.2
    clear hrel S1
    by_cases hlt : (k : Int) < (N : Int)
    · skip
      have hkl : k < ss.length := by have := HN.out; omega
      obtain ⟨x, hx⟩ : ∃ x, ss[k]? = some x := ⟨_, List.getElem?_eq_getElem hkl⟩
      obtain ⟨sad, e'⟩ := el_some cl_Store_len (by decide) (HR.out _ S2.out.old) hkl
      subst e'
      have HKx := Lib.hid (fun w' (h : Below w.heap.size w w') => el3 cl_Store_len (HR.out _ h) hx rfl)
      have HRx := Lib.hid (fun w' (h : Below w.heap.size w w') => rd_store (HX.out w' h) hx)
      have HFx := Lib.hid (fit_store HFD.out.stores hx)
      have HCx := Lib.hid (coS_at hx)
      clear hx
      have hci : k < (coS_Store ss).length := by rw [coS_len]; exact hkl
      have HC := Lib.hid (show (coS_Store ss)[k] = x.con from (List.getElem?_eq_some_iff.1 HCx.out).2)
      obtain ⟨b, hb⟩ : ∃ b, (x.name.toList == n.toList) = b := ⟨_, rfl⟩
      have HB := Lib.hid (show hasN n (coS_Store ss)[k] = b from by rw [HC.out]; exact hb)
      have hh := Bag.cs4 S2.out 0 rfl
      have f0 := hh.1; have f1 := hh.2.1; have f2 := hh.2.2.1; have f3 := hh.2.2.2; clear hh
      have hh := HKx.out _ S2.out.old
      have f4 := hh.1; have f5 := hh.2.1; have f6 := hh.2.2; clear hh
      cases b with
      | true =>
        go_wp2_with fail
        go_ret
        exact ⟨by unfold fndS; rw [idx_at k hci HB.out HA.out]; rfl, S2.out.old⟩
      | false =>
        go_wp2_with fail
        go_roundw
        case rel => exact ⟨k + 1, by omega, by go_num, And.intro (fun j hj h => by
          by_cases e : j < k
          · exact HA.out j hj e
          · obtain rfl : j = k := by omega
            exact HB.out) S2.out⟩
        case measure => simp [intOf]; omega
    · skip
      have hh := Bag.cs4 S2.out 0 rfl
      have f0 := hh.1; have f1 := hh.2.1; have f2 := hh.2.2.1; have f3 := hh.2.2.2; clear hh
      obtain rfl : k = N := by omega
      go_wp2_with fail
      go_ret
      exact ⟨by unfold fndS; rw [idx_none (fun j hj => HA.out j hj (by have := HN.out; rw [coS_len] at hj; omega))]; rfl, S2.out.old⟩
end Go.Proofs.Ytboefioalkjdaaa.L8

/-
  Words for the library's functions over slices of any type: parts of slices, places, what stays; an append within a row of one's own. No condition.
-/
namespace Go.Proofs.Ytboefioalkjdaaa.V
set_option maxRecDepth 100000
open Go.ChangeShapes Go.WideShapes Go.ChangeAt Go.RowKit Mem Sl Sv Bag
set_option linter.unusedVariables false
set_option linter.unusedSimpArgs false

section
variable {α : Type} {cl : α → List Value} {m : Nat} {w : World} {B k g : Nat} {xs : List α}
end
def ixV {α : Type} (f : α → Bool) (xs : List α) : Int := match xs.findIdx? f with
  | some i => i
  | none => -1
theorem ixV_at {α : Type} {f : α → Bool} {xs : List α} (i : Nat) (x : α) (hx : xs[i]? = some x) (h : f x = true) (ha : ∀ (j : Nat) (y : α), xs[j]? = some y → j < i → f y = false) : ixV f xs = i := by
  obtain ⟨hi, rfl⟩ := List.getElem?_eq_some_iff.1 hx
  unfold ixV
  rw [show xs.findIdx? f = some i from by
    rw [List.findIdx?_eq_some_iff_getElem]
    exact ⟨hi, h, fun j hj => by rw [ha j _ (List.getElem?_eq_getElem (by omega)) hj]; simp⟩]
theorem ixV_none {α : Type} {f : α → Bool} {xs : List α} (ha : ∀ (j : Nat) (y : α), xs[j]? = some y → f y = false) : ixV f xs = -1 := by
  unfold ixV
  rw [show xs.findIdx? f = none from by
    rw [List.findIdx?_eq_none_iff]
    intro x hx
    obtain ⟨j, hj, rfl⟩ := List.getElem_of_mem hx
    exact ha j _ (List.getElem?_eq_getElem hj)]
def stays {α : Type} (f : α → Bool) (ys : List α) : List α := ys.filter fun x => !f x
section
variable {P : Program} {W w : World} {rs : List Res} {e : TypeId} {k c n g : Nat} {xs : List Value}
end
end Go.Proofs.Ytboefioalkjdaaa.V

/-
  The contracts of the library's functions of slices over Store. Condition: at most 2^20 elements. (Written by my program gen_vl.py.)
-/
namespace Go.Proofs.Ytboefioalkjdaaa.V
set_option maxRecDepth 100000
open Go.ChangeShapes Go.WideShapes Go.ChangeAt Go.RowKit Mem Sl Sv Bag
set_option linter.unusedVariables false
set_option linter.unusedSimpArgs false
def Tests_Store (Fn g : Nat) (f : L6.LS → Bool) (xs : List L6.LS) (w : World) : Prop :=
  ∀ x ∈ xs, ∀ w', Below w.heap.size w w' → Calls Try.prog Fn #[vv_Store x, .pointer (some ⟨g, 0, none⟩)] w' fun e w'' => e = .returned (.bool (f x)) ∧ Below w'.heap.size w' w''
def TestsC_Store (Fn g : Nat) (f : L6.LS → Bool) (xs : List L6.LS) (w : World) : Prop :=
  ∀ x ∈ xs, ∀ w', w.heap.size ≤ w'.heap.size → w'.heap[g]? = w.heap[g]? → Calls Try.prog Fn #[vv_Store x, .pointer (some ⟨g, 0, none⟩)] w' fun e w'' => e = .returned (.bool (f x)) ∧ Below w'.heap.size w' w''
theorem TestsC_Store.below {Fn g : Nat} {f : L6.LS → Bool} {xs : List L6.LS} {w : World} (h : TestsC_Store Fn g f xs w) (hg : g < w.heap.size) : Tests_Store Fn g f xs w := fun x hx w' hb => h x hx w' hb.size (hb.block g hg)
set_option maxHeartbeats 2000000 in
theorem indexFunc_Store (g : Nat) (f : L6.LS → Bool) (a : Option Addr) (c : Nat) (xs : List L6.LS) (hl : xs.length ≤ 1048576) (w : World) (hr : Reads w w.heap.size a ((xs).flatMap cl_Store)) (hp : Tests_Store 33 g f xs w) :
    Calls Try.prog 32 #[.slice a xs.length c, .func (.func 33) #[] #[.pointer (some ⟨g, 0, none⟩)]] w fun e w' => e = .returned (.int .i64 (ixV f xs)) ∧ Below w.heap.size w w' := by
  have HR := Lib.hid (fun w' (h : Below w.heap.size w w') => hr.below h)
  have HP := Lib.hid hp
  obtain ⟨N, hN⟩ : ∃ n, n = xs.length := ⟨_, rfl⟩
  rw [← hN] at hl ⊢
  have hl' : (N : Int) ≤ 1048576 := by omega
  have HN := Lib.hid hN
  clear hN hr hp
  have S1 := Lib.hid (show Sl.Sep w w [] from Sl.Sep.start w)
  go_enter Try.func32, Try.ntmps32
  go_wp2_with fail
  go_loopw [8] (fun i wr => ∃ k : Nat, k ≤ N ∧ i = .int .i64 k ∧ Hid ((∀ (j : Nat) (y : L6.LS), xs[j]? = some y → j < k → f y = false) ∧ Sl.Sep w wr [])) (fun i _ => N - (intOf i).toNat)
  case atStart => exact ⟨0, Nat.zero_le _, rfl, And.intro (fun j y hj h => absurd h (by omega)) S1.out⟩
  case round =>
    obtain ⟨k, hk, rfl, hrel⟩ := hrel
    have HA := Lib.hid hrel.out.1
    have S2 := Lib.hid hrel.out.2
    clear hrel S1
    by_cases hlt : (k : Int) < (N : Int)
    · skip
      have hkl : k < xs.length := by have := HN.out; omega
      obtain ⟨x, hx⟩ : ∃ x, xs[k]? = some x := ⟨_, List.getElem?_eq_getElem hkl⟩
      obtain ⟨ad, e'⟩ := el_some cl_Store_len (by decide) (HR.out _ S2.out.old) hkl
      subst e'
      have HKx := Lib.hid (fun w' (h : Below w.heap.size w w') => el3 cl_Store_len (HR.out _ h) hx rfl)
      have HXx := Lib.hid hx
      clear hx
      have HPX := fun w' (h : Below w.heap.size w w') => HP.out x (List.mem_of_getElem? HXx.out) w' h
      dsimp only [vv_Store] at HPX
      obtain ⟨b, hb⟩ : ∃ b, f x = b := ⟨_, rfl⟩
      rw [hb] at HPX
      replace HPX := Lib.hid HPX
      have HB := Lib.hid hb
      clear hb
      have hh := HKx.out _ S2.out.old
      have f0 := hh.1; have f1 := hh.2.1; have f2 := hh.2.2; clear hh
      go_wp2_with fail
      go_at_call 33
      refine (HPX.out _ S2.out.old).mono ?_
      rintro e w3 ⟨rfl, hb⟩
      clear f0 f1 f2
      have S3 := Lib.hid (S2.out.keep hb)
      clear S2
      clear hb
      cases b with
      | true =>
        go_wp2_with fail
        go_ret
        exact ⟨by rw [ixV_at k _ HXx.out HB.out HA.out]; rfl, S3.out.old⟩
      | false =>
        go_wp2_with fail
        go_roundw
        case rel => exact ⟨k + 1, by omega, by go_num, And.intro (fun j y hj h => by
          by_cases e : j < k
          · exact HA.out j y hj e
          · obtain rfl : j = k := by omega
            rw [HXx.out] at hj; rw [← Option.some.inj hj]; exact HB.out) S3.out⟩
        case measure => simp [intOf]; omega
    · skip
      go_wp2_with fail
      go_ret
      obtain rfl : k = N := by omega
      exact ⟨by rw [ixV_none (fun j y hj => HA.out j y hj (by have := HN.out; have := (List.getElem?_eq_some_iff.1 hj).1; omega))]; rfl, S2.out.old⟩
end Go.Proofs.Ytboefioalkjdaaa.V

/-
  The contracts of the library's functions of slices over IndexDef. Condition: at most 2^20 elements. (Written by my program gen_vl.py.)
-/
namespace Go.Proofs.Ytboefioalkjdaaa.V
set_option maxRecDepth 100000
open Go.ChangeShapes Go.WideShapes Go.ChangeAt Go.RowKit Mem Sl Sv Bag
set_option linter.unusedVariables false
set_option linter.unusedSimpArgs false
def Tests_IndexDef (Fn g : Nat) (f : X_IndexDef → Bool) (xs : List X_IndexDef) (w : World) : Prop :=
  ∀ x ∈ xs, ∀ w', Below w.heap.size w w' → Calls Try.prog Fn #[vv_IndexDef x, .pointer (some ⟨g, 0, none⟩)] w' fun e w'' => e = .returned (.bool (f x)) ∧ Below w'.heap.size w' w''
def TestsC_IndexDef (Fn g : Nat) (f : X_IndexDef → Bool) (xs : List X_IndexDef) (w : World) : Prop :=
  ∀ x ∈ xs, ∀ w', w.heap.size ≤ w'.heap.size → w'.heap[g]? = w.heap[g]? → Calls Try.prog Fn #[vv_IndexDef x, .pointer (some ⟨g, 0, none⟩)] w' fun e w'' => e = .returned (.bool (f x)) ∧ Below w'.heap.size w' w''
theorem TestsC_IndexDef.below {Fn g : Nat} {f : X_IndexDef → Bool} {xs : List X_IndexDef} {w : World} (h : TestsC_IndexDef Fn g f xs w) (hg : g < w.heap.size) : Tests_IndexDef Fn g f xs w := fun x hx w' hb => h x hx w' hb.size (hb.block g hg)
end Go.Proofs.Ytboefioalkjdaaa.V

/-
  The contract of chapter 5's IsRecord of the program. Conditions: names of at most 2^48 bytes, a record of at most 2^40 fields. (The region that draws its order is written by my program gen_l5ib.py.)
-/
namespace Go.Proofs.Ytboefioalkjdaaa.L5
set_option maxRecDepth 100000
open Go.Op (bytesLess)
open L4 (boxR push_box box_at)
open Go.ChangeShapes Go.WideShapes Go.ChangeAt Go.RowKit Mem Sl Ex L2 Sv
set_option linter.unusedVariables false
set_option linter.unusedSimpArgs false

theorem Row.two {w : World} {g : Nat} {t : TypeId} {x y : Value} (h : Row w g t #[x, y]) : w.cell? ⟨g, 0, none⟩ = some x ∧ w.cell? ⟨g, 1, none⟩ = some y := ⟨by rw [h.cell]; rfl, by rw [h.cell]; rfl⟩
end Go.Proofs.Ytboefioalkjdaaa.L5

/-
  The contracts of chapter 8's functions of the program, I: FindStore, isKept, hasValidStores, hasValidIndexes, IsDatabase, copyDatabase. Conditions: names of at most 2^48 bytes, at most 2^20 stores, indexes, items and fields. (Written by my program gen_l8b.py.)
-/
namespace Go.Proofs.Ytboefioalkjdaaa.L8
set_option maxRecDepth 100000
open V L6 L7
open L4 (K isK cmpK)
open L5 (F isR isN string_geq)
open Go.Op (bytesLess)
open Go.ChangeShapes Go.WideShapes Go.ChangeAt Go.RowKit Mem Sl Ex L2 Sv Bag
set_option linter.unusedVariables false
set_option linter.unusedSimpArgs false

theorem ixV_map {α β : Type} (co : α → β) (p : β → Bool) (xs : List α) : ixV (fun x => p (co x)) xs = numO ((xs.map co).findIdx? p) := by
  unfold ixV numO
  rw [List.findIdx?_map]
  rfl
set_option maxHeartbeats 2000000 in
theorem findStore1_any (x : LS) (n : ByteArray) (g : Nat) (w : World) (hg : g < w.heap.size) (h0 : w.cell? ⟨g, 0, none⟩ = some (.string n)) :
    Calls Try.prog 33 #[vv_Store x, .pointer (some ⟨g, 0, none⟩)] w fun e w' => e = .returned (.bool (hasN n x.con)) ∧ Below w.heap.size w w' := by
  have HK := Lib.hid (fun w' (h : Below w.heap.size w w') => (⟨(h.cell (p := ⟨g, 0, none⟩) hg).trans h0, trivial⟩ : w'.cell? ⟨g, 0, none⟩ = some (.string n) ∧ True).1)
  clear h0
  unfold vv_Store hasN
  dsimp only [LS.con]
  have S1 := Lib.hid (show Sl.Sep w (w.alloc (.cells #[.string x.name, .slice x.a x.xs.length x.c, .int .i64 x.auto] 44)) [L4.boxR w.heap.size 44 #[.string x.name, .slice x.a x.xs.length x.c, .int .i64 x.auto]] from L4.push_box (Sl.Sep.start w) 44 #[.string x.name, .slice x.a x.xs.length x.c, .int .i64 x.auto] (w.heap.size) (by simp))
  obtain ⟨wa, hwa⟩ : ∃ w_, w_ = (w.alloc (.cells #[.string x.name, .slice x.a x.xs.length x.c, .int .i64 x.auto] 44)) := ⟨_, rfl⟩
  rw [← hwa] at S1
  go_enter Try.func33, Try.ntmps33
  go_upto_region 1 with fail
  rw [← hwa]
  clear hwa
  have hh := Bag.cs3 S1.out 0 rfl
  have f0 := hh.1; have f1 := hh.2.1; have f2 := hh.2.2; clear hh
  have fk := HK.out _ S1.out.old
  go_wp2_with fail
  go_ret
  exact ⟨rfl, S1.out.old⟩
set_option maxHeartbeats 2000000 in
theorem findStore_any (z : Y_Database) (n : ByteArray) (hf : FitD (co_Database z)) (w : World) (hr : RowsRd w w.heap.size (rw_Database z)) :
    Calls Try.prog 13 #[vv_Database z, .string n] w fun e w' => e = .returned (.int .i64 (numO (fndS (co_Database z).f_Stores n))) ∧ Below w.heap.size w w' := by
  have HR : Hid (∀ w' (h : Below w.heap.size w w'), Reads w' w.heap.size z.f_Stores_a (z.f_Stores.flatMap cl_Store)) := Lib.hid (fun w' h => (rdS hr).below h)
  have HX : Hid (∀ w' (h : Below w.heap.size w w'), RowsRd w' w'.heap.size (rws_Store z.f_Stores)) := Lib.hid (fun w' h => ((rdX hr).below h).more h.size)
  have HU : Hid (∀ w' (h : Below w.heap.size w w'), Reads w' w.heap.size z.f_Unique_a (z.f_Unique.flatMap cl_IndexDef)) := Lib.hid (fun w' h => (rdU hr).below h)
  have HFD := Lib.hid hf
  have HFDl : z.f_Stores.length ≤ 1048576 := by have h := hf.len; rwa [co_len] at h
  have HFDm : z.f_Unique.length ≤ 1048576 := hf.many
  clear hf hr
  obtain ⟨name, ver, sa, sc, ss, ua, uc, us⟩ := z
  dsimp only [co_Database] at HR HX HU HFD HFDl HFDm
  try unfold vv_Database
  try unfold co_Database
  try dsimp only
  try rw [show coS_IndexDef us = us from rfl]
  rw [show coS_IndexDef us = us from rfl] at HFD
  obtain ⟨N, hN⟩ : ∃ n, n = ss.length := ⟨_, rfl⟩
  obtain ⟨M, hM⟩ : ∃ n, n = us.length := ⟨_, rfl⟩
  rw [← hN] at HFDl ⊢
  rw [← hM] at HFDm ⊢
  have HFDl' : (N : Int) ≤ 1048576 := by omega
  have HFDm' : (M : Int) ≤ 1048576 := by omega
  have HN := Lib.hid hN
  have HM := Lib.hid hM
  clear hN hM
  obtain ⟨R, hR⟩ : ∃ r, numO (fndS (coS_Store ss) n) = r := ⟨_, rfl⟩
  rw [hR]
  have HRR := Lib.hid (show numO ((ss.map LS.con).findIdx? (hasN n)) = R from hR)
  clear hR
  have hmf : ∀ (fn : Fn) (first cap : Array Value) (w : World), (Instr.makeFunc fn first cap).run Try.prog w = .ok (.func fn first cap) w := fun _ _ _ _ => rfl
  have S1 := Lib.hid (show Sl.Sep w ((w.alloc (.cells #[.string name, .int .i64 ver, .slice sa N sc, .slice ua M uc] 31)).alloc (.cells #[.string n] 9)) [L4.boxR w.heap.size 31 #[.string name, .int .i64 ver, .slice sa N sc, .slice ua M uc], L4.boxR (w.heap.size + 1) 9 #[.string n]] from L4.push_box (L4.push_box (Sl.Sep.start w) 31 #[.string name, .int .i64 ver, .slice sa N sc, .slice ua M uc] (w.heap.size) (by simp)) 9 #[.string n] (w.heap.size + 1) (by simp))
  obtain ⟨wa, hwa⟩ : ∃ w_, w_ = ((w.alloc (.cells #[.string name, .int .i64 ver, .slice sa N sc, .slice ua M uc] 31)).alloc (.cells #[.string n] 9)) := ⟨_, rfl⟩
  rw [← hwa] at S1
  go_enter Try.func13, Try.ntmps13
  go_upto_region 1 with fail
  rw [← hwa]
  clear hwa
  have hg0 := Bag.cell_at S1.out 1 rfl 0 rfl
  have hlt := (S1.out.lies 1 _ rfl (w.heap.size + 1) (by simp [L4.boxR])).2
  skip
  skip
  have hh := Bag.cs4 S1.out 0 rfl
  have f0 := hh.1; have f1 := hh.2.1; have f2 := hh.2.2.1; have f3 := hh.2.2.2; clear hh
  have f4 := Bag.cs1 S1.out 1 rfl
  go_wp2_with fail
  go_at_call 32
  have HIX := indexFunc_Store (w.heap.size + 1) (fun x => hasN n x.con) sa sc ss (by have := HN.out; omega) _ ((HR.out _ S1.out.old).more S1.out.old.size) (fun x hx w' hb => findStore1_any x n _ w' (Nat.lt_of_lt_of_le hlt hb.size) ((hb.cell (p := ⟨w.heap.size + 1, 0, none⟩) hlt).trans hg0))
  rw [ixV_map LS.con (hasN n) ss, HRR.out, ← HN.out] at HIX
  refine HIX.mono ?_
  rintro e w3 ⟨rfl, hb⟩
  clear HIX hg0 hlt
  clear f0 f1 f2 f3 f4
  have S2 := Lib.hid (S1.out.keep hb)
  clear S1
  clear hb
  go_wp2_with fail
  go_ret
  exact ⟨rfl, S2.out.old⟩
end Go.Proofs.Ytboefioalkjdaaa.L8

