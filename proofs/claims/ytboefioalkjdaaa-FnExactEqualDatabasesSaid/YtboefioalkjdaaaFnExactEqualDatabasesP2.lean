/-
  What the law FnExactEqualDatabases needs, laid by my program lawpack.py, part 2: the texts VDatabase, L8Num, L8Fw, L6Sa, L6Sb, L7Sc, L7Sd, L8Sa, L6Sc, L8Se, L5Ib, L5Ihe, L6Ih, L8Ie, one behind the other; each begins with its own words.
-/
import Derived.Test.YtboefioalkjdaaaFnExactEqualDatabasesP1
set_option linter.unusedSimpArgs false
/-
  The exact laws' helpers for Database, and for slices of it: how such a value opens, its copy, its room, comparison, marks. Condition: a weight of at most 2^20 (2^50 for comparison and marks). (Written by my program gen_v.py.)
-/
namespace Go.Proofs.Ytboefioalkjdaaa.V
set_option maxRecDepth 100000
open Go.ChangeShapes Go.WideShapes Go.ChangeAt Go.RowKit Mem Sl Sv Bag
open L5 (markT)
set_option linter.unusedVariables false
set_option linter.unusedSimpArgs false
structure X_Database where
  f_Name : ByteArray
  f_Version : Int
  f_Stores : List L6.S6
  f_Unique : List X_IndexDef
structure Y_Database where
  f_Name : ByteArray
  f_Version : Int
  f_Stores_a : Option Addr
  f_Stores_c : Nat
  f_Stores : List L6.LS
  f_Unique_a : Option Addr
  f_Unique_c : Nat
  f_Unique : List X_IndexDef
def co_Database (z : Y_Database) : X_Database := ⟨z.f_Name, z.f_Version, coS_Store z.f_Stores, coS_IndexDef z.f_Unique⟩
def cl_Database (z : Y_Database) : List Value := [.string z.f_Name, .int .i64 z.f_Version, .slice z.f_Stores_a z.f_Stores.length z.f_Stores_c, .slice z.f_Unique_a z.f_Unique.length z.f_Unique_c]
def cs_Database (z : Y_Database) : Array Value := #[.string z.f_Name, .int .i64 z.f_Version, .slice z.f_Stores_a z.f_Stores.length z.f_Stores_c, .slice z.f_Unique_a z.f_Unique.length z.f_Unique_c]
def vv_Database (z : Y_Database) : Value := .agg #[.string z.f_Name, .int .i64 z.f_Version, .slice z.f_Stores_a z.f_Stores.length z.f_Stores_c, .slice z.f_Unique_a z.f_Unique.length z.f_Unique_c]
def rw_Database (z : Y_Database) : List RowS := rs_Store z.f_Stores_a z.f_Stores_c z.f_Stores ++ (rs_IndexDef z.f_Unique_a z.f_Unique_c z.f_Unique)
def wt_Database (c : X_Database) : Nat := c.f_Name.size + (wsum wt_Store c.f_Stores + (wsum wt_IndexDef c.f_Unique))
theorem wt_Database_parts (z : Y_Database) : wt_Database (co_Database z) = z.f_Name.size + (wsum wt_Store (coS_Store z.f_Stores) + (wsum wt_IndexDef (coS_IndexDef z.f_Unique))) := rfl
def Wide_Database (z : Y_Database) : Prop := z.f_Name.size ≤ maxLen ∧ (-9223372036854775808 ≤ z.f_Version ∧ z.f_Version ≤ 9223372036854775807) ∧ (z.f_Stores.length ≤ maxLen ∧ ∀ x ∈ z.f_Stores, Wide_Store x) ∧ (z.f_Unique.length ≤ maxLen ∧ ∀ x ∈ z.f_Unique, Wide_IndexDef x)
section
variable {H : Type} {enc : TypeId × Value → H} {W : World} {b : Nat} {sp : Nat → Bool} {hd : Bool}
theorem trod_Database {fuel : Nat} {cs : List Value} {x : DataW H × List MemPlace} (h : DataW.trod enc Try.prog W b sp hd fuel 25 cs = some x) (hlt : ∀ p ∈ x.2, p.block < W.heap.size) : ∃ z : Y_Database, cs = cl_Database z ∧ RowsRd W W.heap.size (rw_Database z) ∧ Wide_Database z := by
  obtain ⟨xs, n, _, hx, hl, hlen, hf⟩ := DataW.trod_struct Try.underlying25 h
  have hlN : cs.length = 4 := hl.trans (by kernel_rfl)
  match cs, hlN with
  | [c0, c1, c2, c3], _ =>
    have h0 : DataW.trod enc Try.prog W b sp hd n 9 (List.take (Try.prog.cellsOf 9) (List.drop 0 [c0, c1, c2, c3])) = xs[0]? := hf 0 _ rfl
    rw [show Try.prog.cellsOf 9 = 1 by kernel_rfl, List.getElem?_eq_getElem (by rw [hlen]; decide)] at h0
    obtain ⟨x0, e0, _, w0⟩ := DataW.trod_string Try.underlying9 h0
    have h1 : DataW.trod enc Try.prog W b sp hd n 3 (List.take (Try.prog.cellsOf 3) (List.drop 1 [c0, c1, c2, c3])) = xs[1]? := hf 1 _ rfl
    rw [show Try.prog.cellsOf 3 = 1 by kernel_rfl, List.getElem?_eq_getElem (by rw [hlen]; decide)] at h1
    obtain ⟨x1, e1, _, w1⟩ := DataW.trod_int Try.underlying3 h1
    have h2 : DataW.trod enc Try.prog W b sp hd n 22 (List.take (Try.prog.cellsOf 22) (List.drop 2 [c0, c1, c2, c3])) = xs[2]? := hf 2 _ rfl
    rw [show Try.prog.cellsOf 22 = 1 by kernel_rfl, List.getElem?_eq_getElem (by rw [hlen]; decide)] at h2
    obtain ⟨a2, x2, c2', e2, r2, v2, l2, w2⟩ := trods_Store h2 (fun p hp => hlt p (by rw [hx]; exact List.mem_flatMap.2 ⟨_, List.getElem_mem (show 2 < xs.length by rw [hlen]; decide), hp⟩))
    have h3 : DataW.trod enc Try.prog W b sp hd n 23 (List.take (Try.prog.cellsOf 23) (List.drop 3 [c0, c1, c2, c3])) = xs[3]? := hf 3 _ rfl
    rw [show Try.prog.cellsOf 23 = 1 by kernel_rfl, List.getElem?_eq_getElem (by rw [hlen]; decide)] at h3
    obtain ⟨a3, x3, c3', e3, r3, v3, l3, w3⟩ := trods_IndexDef h3 (fun p hp => hlt p (by rw [hx]; exact List.mem_flatMap.2 ⟨_, List.getElem_mem (show 3 < xs.length by rw [hlen]; decide), hp⟩))
    simp only [List.drop_succ_cons, List.drop_zero, List.take_succ_cons, List.take_zero, List.cons.injEq, and_true] at e0
    subst e0
    simp only [List.drop_succ_cons, List.drop_zero, List.take_succ_cons, List.take_zero, List.cons.injEq, and_true] at e1
    subst e1
    simp only [List.drop_succ_cons, List.drop_zero, List.take_succ_cons, List.take_zero, List.cons.injEq, and_true] at e2
    subst e2
    simp only [List.drop_succ_cons, List.drop_zero, List.take_succ_cons, List.take_zero, List.cons.injEq, and_true] at e3
    subst e3
    exact ⟨⟨x0, x1, a2, c2', x2, a3, c3', x3⟩, rfl, rd_app (rd_cons ⟨r2.1, r2.2.1, r2.2.2⟩ (by rw [rws_Store_eq]; exact v2)) (rd_cons ⟨r3.1, r3.2.1, r3.2.2⟩ (by rw [rws_IndexDef_eq]; exact v3)), ⟨w0, Law.wf_i64 w1, ⟨l2, w2⟩, ⟨l3, w3⟩⟩⟩
theorem open_Database {b0 : Nat} {v : Value} {d : DataW H} {ps : List MemPlace} (hval : Value.okWide Try.prog W .any b0 25 v) (h0 : DataW.Trod enc Try.prog W b sp hd 25 v d ps) (hlt : ∀ p ∈ ps, p.block < W.heap.size) : ∃ z : Y_Database, v = vv_Database z ∧ RowsRd W W.heap.size (rw_Database z) ∧ Wide_Database z := by
  obtain ⟨cs, rfl, _⟩ := okWide_struct Try.underlying25 hval
  obtain ⟨fuel, hf0⟩ := h0
  obtain ⟨z, e, h1, h2⟩ := trod_Database hf0 hlt
  obtain ⟨l⟩ := cs
  exact ⟨z, by rw [show l = cl_Database z from e]; rfl, h1, h2⟩
end
set_option maxHeartbeats 4000000 in
theorem to_Database (z : Y_Database) (hf : wt_Database (co_Database z) ≤ 1048576) (w : World) (hr : RowsRd w w.heap.size (rw_Database z)) : Calls Try.prog 9 #[vv_Database z] w fun e w' => ∃ y : Y_Database, e = .returned (vv_Database y) ∧ co_Database y = co_Database z ∧ BagOwn w' w.heap.size (rw_Database y) ∧ Below w.heap.size w w' := by
  have hfp := hf
  rw [wt_Database_parts] at hfp
  have HC2 := Lib.hid (fun w' (h : Below w.heap.size w w') => to_StoreS z.f_Stores_a z.f_Stores_c z.f_Stores (by omega) w' (((rd_head (rd_left hr)).reads.below h).more h.size) (((rd_tail (rd_left hr)).below h).more h.size))
  have HC3 := Lib.hid (fun w' (h : Below w.heap.size w w') => to_IndexDefS z.f_Unique_a z.f_Unique_c z.f_Unique (by omega) w' (((rd_head (rd_right hr)).reads.below h).more h.size) (((rd_tail (rd_right hr)).below h).more h.size))
  clear hfp hf hr
  unfold vv_Database
  have S1 := Lib.hid (show Sl.Sep w ((w.alloc (.cells #[.string z.f_Name, .int .i64 z.f_Version, .slice z.f_Stores_a z.f_Stores.length z.f_Stores_c, .slice z.f_Unique_a z.f_Unique.length z.f_Unique_c] 25)).alloc (.cells #[.string ⟨#[]⟩, .int .i64 0, .slice none 0 0, .slice none 0 0] 31)) [L4.boxR w.heap.size 25 #[.string z.f_Name, .int .i64 z.f_Version, .slice z.f_Stores_a z.f_Stores.length z.f_Stores_c, .slice z.f_Unique_a z.f_Unique.length z.f_Unique_c], L4.boxR (w.heap.size + 1) 31 #[.string ⟨#[]⟩, .int .i64 0, .slice none 0 0, .slice none 0 0]] from L4.push_box (L4.push_box (Sl.Sep.start w) 25 #[.string z.f_Name, .int .i64 z.f_Version, .slice z.f_Stores_a z.f_Stores.length z.f_Stores_c, .slice z.f_Unique_a z.f_Unique.length z.f_Unique_c] (w.heap.size) (by simp)) 31 #[.string ⟨#[]⟩, .int .i64 0, .slice none 0 0, .slice none 0 0] (w.heap.size + 1) (by simp))
  obtain ⟨wa, hwa⟩ : ∃ u, u = ((w.alloc (.cells #[.string z.f_Name, .int .i64 z.f_Version, .slice z.f_Stores_a z.f_Stores.length z.f_Stores_c, .slice z.f_Unique_a z.f_Unique.length z.f_Unique_c] 25)).alloc (.cells #[.string ⟨#[]⟩, .int .i64 0, .slice none 0 0, .slice none 0 0] 31)) := ⟨_, rfl⟩
  rw [← hwa] at S1
  go_enter Try.func9, Try.ntmps9
  go_upto_region 1 with fail
  rw [← hwa]
  clear hwa
  go_upto_region 2 with fail
  have S2 := Lib.hid (show Sl.Sep w _ [L4.boxR w.heap.size 25 #[.string z.f_Name, .int .i64 z.f_Version, .slice z.f_Stores_a z.f_Stores.length z.f_Stores_c, .slice z.f_Unique_a z.f_Unique.length z.f_Unique_c], L4.boxR (w.heap.size + 1) 31 #[.string ⟨#[]⟩, .int .i64 0, .slice none 0 0, .slice none 0 0], L4.boxR wa.heap.size 31 #[.string ⟨#[]⟩, .int .i64 0, .slice none 0 0, .slice none 0 0]] from L4.push_box S1.out 31 #[.string ⟨#[]⟩, .int .i64 0, .slice none 0 0, .slice none 0 0] wa.heap.size rfl)
  clear S1
  obtain ⟨g1, hg⟩ : ∃ g', g' = wa.heap.size := ⟨_, rfl⟩
  rw [← hg] at S2 ⊢
  clear hg
  generalize wa.alloc (.cells #[.string ⟨#[]⟩, .int .i64 0, .slice none 0 0, .slice none 0 0] 31) = w1 at S2 ⊢
  have hh := Bag.cs4 S2.out 0 rfl
  have f0 := hh.1; have f1 := hh.2.1; have f2 := hh.2.2.1; have f3 := hh.2.2.2; clear hh
  have hh := Bag.cs4 S2.out 2 rfl
  have f4 := hh.1; have f5 := hh.2.1; have f6 := hh.2.2.1; have f7 := hh.2.2.2; clear hh
  have z0 := Bag.free_at S2.out 2 rfl 0
  go_upto_region 3 with fail
  clear f0 f1 f2 f3 f4 f5 f6 f7 z0
  have S3 := Lib.hid (show Sl.Sep w _ [L4.boxR w.heap.size 25 #[.string z.f_Name, .int .i64 z.f_Version, .slice z.f_Stores_a z.f_Stores.length z.f_Stores_c, .slice z.f_Unique_a z.f_Unique.length z.f_Unique_c], L4.boxR (w.heap.size + 1) 31 #[.string ⟨#[]⟩, .int .i64 0, .slice none 0 0, .slice none 0 0], L4.boxR g1 31 #[.string z.f_Name, .int .i64 0, .slice none 0 0, .slice none 0 0]] from L5.put_box5 (S2.out) 2 rfl 0 (.string z.f_Name))
  clear S2
  have hh := Bag.cs4 S3.out 0 rfl
  have f0 := hh.1; have f1 := hh.2.1; have f2 := hh.2.2.1; have f3 := hh.2.2.2; clear hh
  have hh := Bag.cs4 S3.out 2 rfl
  have f4 := hh.1; have f5 := hh.2.1; have f6 := hh.2.2.1; have f7 := hh.2.2.2; clear hh
  have z1 := Bag.free_at S3.out 2 rfl 1
  go_upto_region 4 with fail
  clear f0 f1 f2 f3 f4 f5 f6 f7 z1
  have S4 := Lib.hid (show Sl.Sep w _ [L4.boxR w.heap.size 25 #[.string z.f_Name, .int .i64 z.f_Version, .slice z.f_Stores_a z.f_Stores.length z.f_Stores_c, .slice z.f_Unique_a z.f_Unique.length z.f_Unique_c], L4.boxR (w.heap.size + 1) 31 #[.string ⟨#[]⟩, .int .i64 0, .slice none 0 0, .slice none 0 0], L4.boxR g1 31 #[.string z.f_Name, .int .i64 z.f_Version, .slice none 0 0, .slice none 0 0]] from L5.put_box5 (S3.out) 2 rfl 1 (.int .i64 z.f_Version))
  clear S3
  have hh := Bag.cs4 S4.out 0 rfl
  have f0 := hh.1; have f1 := hh.2.1; have f2 := hh.2.2.1; have f3 := hh.2.2.2; clear hh
  go_wp2_with fail
  go_at_call 24
  refine (HC2.out _ S4.out.old).mono ?_
  rintro e w2 ⟨a2', c2', y2, rfl, hc2, ho, hb⟩
  clear f0 f1 f2 f3
  have S5 := Lib.hid (show Sl.Sep w _ [L4.boxR w.heap.size 25 #[.string z.f_Name, .int .i64 z.f_Version, .slice z.f_Stores_a z.f_Stores.length z.f_Stores_c, .slice z.f_Unique_a z.f_Unique.length z.f_Unique_c], L4.boxR (w.heap.size + 1) 31 #[.string ⟨#[]⟩, .int .i64 0, .slice none 0 0, .slice none 0 0], L4.boxR g1 31 #[.string z.f_Name, .int .i64 z.f_Version, .slice none 0 0, .slice none 0 0], Bag.bag (rs_Store a2' c2' y2)] from Bag.push_bag S4.out hb ho)
  clear S4
  clear hb ho
  have HQ2 := Lib.hid hc2
  clear hc2
  have hh := Bag.cs4 S5.out 0 rfl
  have f0 := hh.1; have f1 := hh.2.1; have f2 := hh.2.2.1; have f3 := hh.2.2.2; clear hh
  have hh := Bag.cs4 S5.out 2 rfl
  have f4 := hh.1; have f5 := hh.2.1; have f6 := hh.2.2.1; have f7 := hh.2.2.2; clear hh
  have z2 := Bag.free_at S5.out 2 rfl 2
  go_upto_region 5 with fail
  clear f0 f1 f2 f3 f4 f5 f6 f7 z2
  have S6 := Lib.hid (show Sl.Sep w _ [L4.boxR w.heap.size 25 #[.string z.f_Name, .int .i64 z.f_Version, .slice z.f_Stores_a z.f_Stores.length z.f_Stores_c, .slice z.f_Unique_a z.f_Unique.length z.f_Unique_c], L4.boxR (w.heap.size + 1) 31 #[.string ⟨#[]⟩, .int .i64 0, .slice none 0 0, .slice none 0 0], L4.boxR g1 31 #[.string z.f_Name, .int .i64 z.f_Version, .slice a2' y2.length c2', .slice none 0 0], Bag.bag (rs_Store a2' c2' y2)] from L5.put_box5 (S5.out) 2 rfl 2 (.slice a2' y2.length c2'))
  clear S5
  have hh := Bag.cs4 S6.out 0 rfl
  have f0 := hh.1; have f1 := hh.2.1; have f2 := hh.2.2.1; have f3 := hh.2.2.2; clear hh
  go_wp2_with fail
  go_at_call 25
  refine (HC3.out _ S6.out.old).mono ?_
  rintro e w3 ⟨a3', c3', y3, rfl, hc3, ho, hb⟩
  clear f0 f1 f2 f3
  have S7 := Lib.hid (show Sl.Sep w _ [L4.boxR w.heap.size 25 #[.string z.f_Name, .int .i64 z.f_Version, .slice z.f_Stores_a z.f_Stores.length z.f_Stores_c, .slice z.f_Unique_a z.f_Unique.length z.f_Unique_c], L4.boxR (w.heap.size + 1) 31 #[.string ⟨#[]⟩, .int .i64 0, .slice none 0 0, .slice none 0 0], L4.boxR g1 31 #[.string z.f_Name, .int .i64 z.f_Version, .slice a2' y2.length c2', .slice none 0 0], Bag.bag (rs_Store a2' c2' y2), Bag.bag (rs_IndexDef a3' c3' y3)] from Bag.push_bag S6.out hb ho)
  clear S6
  clear hb ho
  have HQ3 := Lib.hid hc3
  clear hc3
  have hh := Bag.cs4 S7.out 0 rfl
  have f0 := hh.1; have f1 := hh.2.1; have f2 := hh.2.2.1; have f3 := hh.2.2.2; clear hh
  have hh := Bag.cs4 S7.out 2 rfl
  have f4 := hh.1; have f5 := hh.2.1; have f6 := hh.2.2.1; have f7 := hh.2.2.2; clear hh
  have z3 := Bag.free_at S7.out 2 rfl 3
  go_upto_region 6 with fail
  clear f0 f1 f2 f3 f4 f5 f6 f7 z3
  have S8 := Lib.hid (show Sl.Sep w _ [L4.boxR w.heap.size 25 #[.string z.f_Name, .int .i64 z.f_Version, .slice z.f_Stores_a z.f_Stores.length z.f_Stores_c, .slice z.f_Unique_a z.f_Unique.length z.f_Unique_c], L4.boxR (w.heap.size + 1) 31 #[.string ⟨#[]⟩, .int .i64 0, .slice none 0 0, .slice none 0 0], L4.boxR g1 31 #[.string z.f_Name, .int .i64 z.f_Version, .slice a2' y2.length c2', .slice a3' y3.length c3'], Bag.bag (rs_Store a2' c2' y2), Bag.bag (rs_IndexDef a3' c3' y3)] from L5.put_box5 (S7.out) 2 rfl 3 (.slice a3' y3.length c3'))
  clear S7
  have hh := Bag.cs4 S8.out 1 rfl
  have f0 := hh.1; have f1 := hh.2.1; have f2 := hh.2.2.1; have f3 := hh.2.2.2; clear hh
  have hh := Bag.cs4 S8.out 2 rfl
  have f4 := hh.1; have f5 := hh.2.1; have f6 := hh.2.2.1; have f7 := hh.2.2.2; clear hh
  have hh := Bag.fs4 S8.out 1 rfl
  have z0 := hh.1; have z1 := hh.2.1; have z2 := hh.2.2.1; have z3 := hh.2.2.2; clear hh
  go_wp2_with fail
  clear f0 f1 f2 f3 f4 f5 f6 f7 z0 z1 z2 z3
  have S9 := Lib.hid (show Sl.Sep w _ [L4.boxR w.heap.size 25 #[.string z.f_Name, .int .i64 z.f_Version, .slice z.f_Stores_a z.f_Stores.length z.f_Stores_c, .slice z.f_Unique_a z.f_Unique.length z.f_Unique_c], L4.boxR (w.heap.size + 1) 31 #[.string z.f_Name, .int .i64 z.f_Version, .slice a2' y2.length c2', .slice a3' y3.length c3'], L4.boxR g1 31 #[.string z.f_Name, .int .i64 z.f_Version, .slice a2' y2.length c2', .slice a3' y3.length c3'], Bag.bag (rs_Store a2' c2' y2), Bag.bag (rs_IndexDef a3' c3' y3)] from L5.put_box5 (L5.put_box5 (L5.put_box5 (L5.put_box5 (S8.out) 1 rfl 0 (.string z.f_Name)) 1 rfl 1 (.int .i64 z.f_Version)) 1 rfl 2 (.slice a2' y2.length c2')) 1 rfl 3 (.slice a3' y3.length c3'))
  clear S8
  have hh := Bag.cs4 S9.out 1 rfl
  have f0 := hh.1; have f1 := hh.2.1; have f2 := hh.2.2.1; have f3 := hh.2.2.2; clear hh
  refine bodyPost_ret (v := .agg #[.string z.f_Name, .int .i64 z.f_Version, .slice a2' y2.length c2', .slice a3' y3.length c3']) (by simp [results, Try.results9, go_sem, *]) rfl ?_
  clear f0 f1 f2 f3
  have S10 := Lib.hid (show Sl.Sep w _ [L4.boxR w.heap.size 25 #[.string z.f_Name, .int .i64 z.f_Version, .slice z.f_Stores_a z.f_Stores.length z.f_Stores_c, .slice z.f_Unique_a z.f_Unique.length z.f_Unique_c], L4.boxR (w.heap.size + 1) 31 #[.string z.f_Name, .int .i64 z.f_Version, .slice a2' y2.length c2', .slice a3' y3.length c3'], L4.boxR g1 31 #[.string z.f_Name, .int .i64 z.f_Version, .slice a2' y2.length c2', .slice a3' y3.length c3'], Bag.bag ((rs_Store a2' c2' y2) ++ (rs_IndexDef a3' c3' y3)), Bag.bag ([])] from Bag.bag_join S9.out 3 4 (by decide) rfl rfl)
  clear S9
  refine ⟨⟨z.f_Name, z.f_Version, a2', c2', y2, a3', c3', y3⟩, rfl, ?_, Bag.bag_from S10.out 3 rfl, S10.out.old⟩
  show (⟨z.f_Name, z.f_Version, coS_Store y2, coS_IndexDef y3⟩ : X_Database) = (⟨z.f_Name, z.f_Version, coS_Store z.f_Stores, coS_IndexDef z.f_Unique⟩ : X_Database)
  rw [HQ2.out, HQ3.out]
set_option maxHeartbeats 4000000 in
theorem sz_Database (z : Y_Database) (q : Int) (hw : Wide_Database z) (hq0 : -1 ≤ q) (hq1 : q ≤ 1048576) (w : World) (hr : RowsRd w w.heap.size (rw_Database z)) : Calls Try.prog 7 #[vv_Database z, .int .i64 q] w fun e w' => e = .returned (.int .i64 (lft q (wt_Database (co_Database z)))) ∧ Below w.heap.size w w' := by
  have hs0 : (z.f_Name.size : Int) ≤ 9223372036854775807 := by have h : z.f_Name.size ≤ maxLen := hw.1; unfold maxLen at h; omega
  have HS2 := Lib.hid (fun (m : Int) (h0 : -1 ≤ m) (h1 : m ≤ 1048576) w' (h : Below w.heap.size w w') => sz_StoreS z.f_Stores_a z.f_Stores_c z.f_Stores m hw.2.2.1.2 hw.2.2.1.1 h0 h1 w' (((rd_head (rd_left hr)).reads.below h).more h.size) (((rd_tail (rd_left hr)).below h).more h.size))
  have HS3 := Lib.hid (fun (m : Int) (h0 : -1 ≤ m) (h1 : m ≤ 1048576) w' (h : Below w.heap.size w w') => sz_IndexDefS z.f_Unique_a z.f_Unique_c z.f_Unique m hw.2.2.2.2 hw.2.2.2.1 h0 h1 w' (((rd_head (rd_right hr)).reads.below h).more h.size) (((rd_tail (rd_right hr)).below h).more h.size))
  have HW := Lib.hid (wt_Database_parts z)
  clear hw hr
  unfold vv_Database
  have S1 := Lib.hid (show Sl.Sep w (w.alloc (.cells #[.string z.f_Name, .int .i64 z.f_Version, .slice z.f_Stores_a z.f_Stores.length z.f_Stores_c, .slice z.f_Unique_a z.f_Unique.length z.f_Unique_c] 25)) [L4.boxR w.heap.size 25 #[.string z.f_Name, .int .i64 z.f_Version, .slice z.f_Stores_a z.f_Stores.length z.f_Stores_c, .slice z.f_Unique_a z.f_Unique.length z.f_Unique_c]] from L4.push_box (Sl.Sep.start w) 25 #[.string z.f_Name, .int .i64 z.f_Version, .slice z.f_Stores_a z.f_Stores.length z.f_Stores_c, .slice z.f_Unique_a z.f_Unique.length z.f_Unique_c] (w.heap.size) (by simp))
  obtain ⟨wa, hwa⟩ : ∃ u, u = (w.alloc (.cells #[.string z.f_Name, .int .i64 z.f_Version, .slice z.f_Stores_a z.f_Stores.length z.f_Stores_c, .slice z.f_Unique_a z.f_Unique.length z.f_Unique_c] 25)) := ⟨_, rfl⟩
  rw [← hwa] at S1
  go_enter Try.func7, Try.ntmps7
  go_upto_region 1 with fail
  rw [← hwa]
  clear hwa
  have hh := Bag.cs4 S1.out 0 rfl
  have f0 := hh.1; have f1 := hh.2.1; have f2 := hh.2.2.1; have f3 := hh.2.2.2; clear hh
  by_cases hn0 : q - (z.f_Name.size : Int) < 0
  · skip
    go_wp2_with fail
    go_ret
    exact ⟨by rw [HW.out, lft_neg (by omega)] <;> rfl, S1.out.old⟩
  · skip
    obtain ⟨u2, hu⟩ : ∃ u, lft (q - (z.f_Name.size : Int)) (wsum wt_Store (coS_Store z.f_Stores)) = u := ⟨_, rfl⟩
    have hc2 := lft_cases hu
    have hr2 := lft_range (q := (q - (z.f_Name.size : Int))) (wsum wt_Store (coS_Store z.f_Stores)) (by omega)
    rw [hu] at hr2
    have HCU := HS2.out (q - (z.f_Name.size : Int)) (by omega) (by omega)
    simp only [hu] at HCU
    replace HCU := Lib.hid HCU
    clear hu
    go_wp2_with fail
    go_at_call 18
    refine (HCU.out _ S1.out.old).mono ?_
    rintro e w1 ⟨rfl, hb⟩
    clear f0 f1 f2 f3
    have S2 := Lib.hid (S1.out.keep hb)
    clear S1
    clear hb
    have hh := Bag.cs4 S2.out 0 rfl
    have f0 := hh.1; have f1 := hh.2.1; have f2 := hh.2.2.1; have f3 := hh.2.2.2; clear hh
    clear HCU
    by_cases hn2 : u2 < 0
    · have hm1 : u2 = -1 := by omega
      subst hm1
      go_wp2_with fail
      go_ret
      exact ⟨by rw [HW.out, lft_neg (by omega)] <;> rfl, S2.out.old⟩
    · skip
      obtain ⟨u3, hu⟩ : ∃ u, lft u2 (wsum wt_IndexDef (coS_IndexDef z.f_Unique)) = u := ⟨_, rfl⟩
      have hc3 := lft_cases hu
      have hr3 := lft_range (q := u2) (wsum wt_IndexDef (coS_IndexDef z.f_Unique)) (by omega)
      rw [hu] at hr3
      have HCU := HS3.out u2 (by omega) (by omega)
      simp only [hu] at HCU
      replace HCU := Lib.hid HCU
      clear hu
      go_wp2_with fail
      go_at_call 19
      refine (HCU.out _ S2.out.old).mono ?_
      rintro e w2 ⟨rfl, hb⟩
      clear f0 f1 f2 f3
      have S3 := Lib.hid (S2.out.keep hb)
      clear S2
      clear hb
      have hh := Bag.cs4 S3.out 0 rfl
      have f0 := hh.1; have f1 := hh.2.1; have f2 := hh.2.2.1; have f3 := hh.2.2.2; clear hh
      clear HCU
      by_cases hn3 : u3 < 0
      · have hm1 : u3 = -1 := by omega
        subst hm1
        go_wp2_with fail
        go_ret
        exact ⟨by rw [HW.out, lft_neg (by omega)] <;> rfl, S3.out.old⟩
      · skip
        go_wp2_with fail
        go_ret
        exact ⟨by rw [HW.out, lft_pos (by omega)] <;> first | rfl | (refine congrArg (fun i => Ending.returned (.int .i64 i)) ?_; omega), S3.out.old⟩
set_option maxHeartbeats 4000000 in
theorem eq_Database (y z : Y_Database) (hc : co_Database y = co_Database z) (hf : wt_Database (co_Database y) ≤ 1125899906842624) (w : World) (hr : RowsRd w w.heap.size (rw_Database y)) (hr2 : RowsRd w w.heap.size (rw_Database z)) : Calls Try.prog 11 #[vv_Database y, vv_Database z] w fun e w' => e = .returned (.bool true) ∧ Below w.heap.size w w' := by
  have hfp := hf
  rw [wt_Database_parts] at hfp
  have ee0 : z.f_Name = y.f_Name := (show y.f_Name = z.f_Name from congrArg X_Database.f_Name (hc)).symm
  have ee1 : z.f_Version = y.f_Version := (show y.f_Version = z.f_Version from congrArg X_Database.f_Version (hc)).symm
  have ee2 : z.f_Stores.length = y.f_Stores.length := (by have h := congrArg List.length (show coS_Store y.f_Stores = coS_Store z.f_Stores from congrArg X_Database.f_Stores (hc)); rw [coS_Store_eq, coS_Store_eq, List.length_map, List.length_map] at h; exact h.symm)
  have ee3 : z.f_Unique.length = y.f_Unique.length := (by have h := congrArg List.length (show coS_IndexDef y.f_Unique = coS_IndexDef z.f_Unique from congrArg X_Database.f_Unique (hc)); rw [coS_IndexDef_eq, coS_IndexDef_eq, List.length_map, List.length_map] at h; exact h.symm)
  have HE2 := Lib.hid (fun w' (h : Below w.heap.size w w') => eq_StoreS y.f_Stores_a z.f_Stores_a y.f_Stores_c z.f_Stores_c y.f_Stores z.f_Stores (congrArg X_Database.f_Stores hc) (by omega) w' (((rd_head (rd_left hr)).reads.below h).more h.size) (((rd_tail (rd_left hr)).below h).more h.size) (((rd_head (rd_left hr2)).reads.below h).more h.size) (((rd_tail (rd_left hr2)).below h).more h.size))
  simp only [ee0, ee1, ee2, ee3] at HE2
  have HE3 := Lib.hid (fun w' (h : Below w.heap.size w w') => eq_IndexDefS y.f_Unique_a z.f_Unique_a y.f_Unique_c z.f_Unique_c y.f_Unique z.f_Unique (congrArg X_Database.f_Unique hc) (by omega) w' (((rd_head (rd_right hr)).reads.below h).more h.size) (((rd_tail (rd_right hr)).below h).more h.size) (((rd_head (rd_right hr2)).reads.below h).more h.size) (((rd_tail (rd_right hr2)).below h).more h.size))
  simp only [ee0, ee1, ee2, ee3] at HE3
  have hv : vv_Database z = .agg #[.string y.f_Name, .int .i64 y.f_Version, .slice z.f_Stores_a y.f_Stores.length z.f_Stores_c, .slice z.f_Unique_a y.f_Unique.length z.f_Unique_c] := by unfold vv_Database; simp only [ee0, ee1, ee2, ee3]
  rw [hv]
  clear hv hfp hf hc hr hr2 ee0 ee1 ee2 ee3
  unfold vv_Database
  have S1 := Lib.hid (show Sl.Sep w ((w.alloc (.cells #[.string y.f_Name, .int .i64 y.f_Version, .slice y.f_Stores_a y.f_Stores.length y.f_Stores_c, .slice y.f_Unique_a y.f_Unique.length y.f_Unique_c] 31)).alloc (.cells #[.string y.f_Name, .int .i64 y.f_Version, .slice z.f_Stores_a y.f_Stores.length z.f_Stores_c, .slice z.f_Unique_a y.f_Unique.length z.f_Unique_c] 31)) [L4.boxR w.heap.size 31 #[.string y.f_Name, .int .i64 y.f_Version, .slice y.f_Stores_a y.f_Stores.length y.f_Stores_c, .slice y.f_Unique_a y.f_Unique.length y.f_Unique_c], L4.boxR (w.heap.size + 1) 31 #[.string y.f_Name, .int .i64 y.f_Version, .slice z.f_Stores_a y.f_Stores.length z.f_Stores_c, .slice z.f_Unique_a y.f_Unique.length z.f_Unique_c]] from L4.push_box (L4.push_box (Sl.Sep.start w) 31 #[.string y.f_Name, .int .i64 y.f_Version, .slice y.f_Stores_a y.f_Stores.length y.f_Stores_c, .slice y.f_Unique_a y.f_Unique.length y.f_Unique_c] (w.heap.size) (by simp)) 31 #[.string y.f_Name, .int .i64 y.f_Version, .slice z.f_Stores_a y.f_Stores.length z.f_Stores_c, .slice z.f_Unique_a y.f_Unique.length z.f_Unique_c] (w.heap.size + 1) (by simp))
  obtain ⟨wa, hwa⟩ : ∃ u, u = ((w.alloc (.cells #[.string y.f_Name, .int .i64 y.f_Version, .slice y.f_Stores_a y.f_Stores.length y.f_Stores_c, .slice y.f_Unique_a y.f_Unique.length y.f_Unique_c] 31)).alloc (.cells #[.string y.f_Name, .int .i64 y.f_Version, .slice z.f_Stores_a y.f_Stores.length z.f_Stores_c, .slice z.f_Unique_a y.f_Unique.length z.f_Unique_c] 31)) := ⟨_, rfl⟩
  rw [← hwa] at S1
  go_enter Try.func11, Try.ntmps11
  go_upto_region 1 with fail
  rw [← hwa]
  clear hwa
  have hh := Bag.cs4 S1.out 0 rfl
  have f0 := hh.1; have f1 := hh.2.1; have f2 := hh.2.2.1; have f3 := hh.2.2.2; clear hh
  have hh := Bag.cs4 S1.out 1 rfl
  have f4 := hh.1; have f5 := hh.2.1; have f6 := hh.2.2.1; have f7 := hh.2.2.2; clear hh
  go_wp2_with fail
  go_at_call 30
  refine (HE2.out _ S1.out.old).mono ?_
  rintro e w1 ⟨rfl, hb⟩
  clear f0 f1 f2 f3 f4 f5 f6 f7
  have S2 := Lib.hid (S1.out.keep hb)
  clear S1
  clear hb
  have hh := Bag.cs4 S2.out 0 rfl
  have f0 := hh.1; have f1 := hh.2.1; have f2 := hh.2.2.1; have f3 := hh.2.2.2; clear hh
  have hh := Bag.cs4 S2.out 1 rfl
  have f4 := hh.1; have f5 := hh.2.1; have f6 := hh.2.2.1; have f7 := hh.2.2.2; clear hh
  go_wp2_with fail
  go_at_call 31
  refine (HE3.out _ S2.out.old).mono ?_
  rintro e w2 ⟨rfl, hb⟩
  clear f0 f1 f2 f3 f4 f5 f6 f7
  have S3 := Lib.hid (S2.out.keep hb)
  clear S2
  clear hb
  have hh := Bag.cs4 S3.out 0 rfl
  have f0 := hh.1; have f1 := hh.2.1; have f2 := hh.2.2.1; have f3 := hh.2.2.2; clear hh
  have hh := Bag.cs4 S3.out 1 rfl
  have f4 := hh.1; have f5 := hh.2.1; have f6 := hh.2.2.1; have f7 := hh.2.2.2; clear hh
  go_wp2_with fail
  go_ret
  exact ⟨rfl, S3.out.old⟩
end Go.Proofs.Ytboefioalkjdaaa.V

/-
  Chapter 8's models: databases, their structure's changes as plain mathematics; what the contracts ask. No condition.
-/
namespace Go.Proofs.Ytboefioalkjdaaa.L8
set_option maxRecDepth 100000
open V L6 L7
open L4 (K isK cmpK)
open L5 (F isR isN)
open Go.Op (bytesLess)
open Go.ChangeShapes Go.WideShapes Go.ChangeAt Go.RowKit Mem Sl Sv Bag
set_option linter.unusedVariables false
set_option linter.unusedSimpArgs false

/-! ### stores and indexes by their names -/
def eqX (a b : X_IndexDef) : Bool := a.f_Store.toList == b.f_Store.toList && a.f_Field.toList == b.f_Field.toList
/-! ### a valid database -/
/-! ### its changes -/
def eqD (a b : X_Database) : Bool := a.f_Name.toList == b.f_Name.toList && (a.f_Version == b.f_Version && ((a.f_Stores.length == b.f_Stores.length && (a.f_Stores.zip b.f_Stores).all fun p => eqS p.1 p.2) && (a.f_Unique.length == b.f_Unique.length && (a.f_Unique.zip b.f_Unique).all fun p => eqX p.1 p.2)))

/-! ### what the contracts ask -/
structure FitX (u : X_IndexDef) : Prop where
  store : u.f_Store.size ≤ 281474976710656
  field : u.f_Field.size ≤ 281474976710656
structure FitD (d : X_Database) : Prop where
  name : d.f_Name.size ≤ 281474976710656
  len : d.f_Stores.length ≤ 1048576
  stores : ∀ s ∈ d.f_Stores, FitS s
  many : d.f_Unique.length ≤ 1048576
  unique : ∀ u ∈ d.f_Unique, FitX u
section
variable {w : World} {B : Nat} {z : Y_Database}
theorem rdS (h : RowsRd w B (rw_Database z)) : Reads w B z.f_Stores_a (z.f_Stores.flatMap cl_Store) := (rd_head (rd_left h)).reads
theorem rdX (h : RowsRd w B (rw_Database z)) : RowsRd w B (rws_Store z.f_Stores) := rd_tail (rd_left h)
theorem rdU (h : RowsRd w B (rw_Database z)) : Reads w B z.f_Unique_a (z.f_Unique.flatMap cl_IndexDef) := (rd_head (rd_right h)).reads
theorem co_len : (co_Database z).f_Stores.length = z.f_Stores.length := by show (coS_Store z.f_Stores).length = _; rw [coS_Store_eq, List.length_map]
theorem coS_at {ss : List LS} {k : Nat} {x : LS} (h : ss[k]? = some x) : (coS_Store ss)[k]? = some x.con := by rw [coS_Store_eq, List.getElem?_map, h]; rfl
theorem coS_len {ss : List LS} : (coS_Store ss).length = ss.length := by rw [coS_Store_eq, List.length_map]
theorem rd_store {ss : List LS} (h : RowsRd w B (rws_Store ss)) {k : Nat} {x : LS} (hx : ss[k]? = some x) : RowsRd w B x.rows := rd_el (rw_ := rw_Store) h hx
theorem fit_store {ss : List LS} (h : ∀ s ∈ coS_Store ss, FitS s) {k : Nat} {x : LS} (hx : ss[k]? = some x) : FitS x.con := h _ (List.mem_of_getElem? (coS_at hx))
end
end Go.Proofs.Ytboefioalkjdaaa.L8

/-
  What the room of the exact laws tells: fits from weights; the weight of an upgraded database. (By hand.)
-/
namespace Go.Proofs.Ytboefioalkjdaaa.L8
set_option maxRecDepth 100000
open V L6 L7
open L4 (K isK cmpK)
open L5 (F isR isN string_geq Small)
open Go.ChangeShapes Go.WideShapes Go.ChangeAt Go.RowKit Mem Sl Ex L2 Sv Bag
set_option linter.unusedVariables false
set_option linter.unusedSimpArgs false

theorem fitR_wt {l : List F} (h : wt_Record l ≤ 1048576) : l.length ≤ 1048576 ∧ Small l := by
  have h1 : l.length ≤ wt_Record l := wsum_len wt_Field l
  refine ⟨by omega, fun f hf => ?_⟩
  have h2 : wt_Field f + 1 ≤ wt_Record l := wsum_mem hf
  have h3 : wt_Field f = f.name.size := rfl
  omega
theorem fitI_wt {x : It} (h : wt_Item x ≤ 1048576) : FitI x := by
  have h1 : wt_Item x = x.k.text.size + wt_Record x.l := rfl
  obtain ⟨h2, h3⟩ := fitR_wt (l := x.l) (by omega)
  exact ⟨by omega, h2, h3⟩
theorem fitS_wt {s : S6} (h : wt_Store s ≤ 1048576) : FitS s := by
  have h1 : wt_Store s = s.name.size + wsum wt_Item s.items := rfl
  have h2 := wsum_len wt_Item s.items
  refine ⟨by omega, by omega, fun x hx => fitI_wt ?_⟩
  have h3 : wt_Item x + 1 ≤ wsum wt_Item s.items := wsum_mem hx
  omega
theorem fitX_wt {u : X_IndexDef} (h : wt_IndexDef u ≤ 1048576) : FitX u := by
  have h1 : wt_IndexDef u = u.f_Store.size + u.f_Field.size := rfl
  exact ⟨by omega, by omega⟩
theorem fitD_wt {d : X_Database} (h : wt_Database d ≤ 1048576) : FitD d := by
  have h1 : wt_Database d = d.f_Name.size + (wsum wt_Store d.f_Stores + wsum wt_IndexDef d.f_Unique) := rfl
  have h2 := wsum_len wt_Store d.f_Stores
  have h3 := wsum_len wt_IndexDef d.f_Unique
  refine ⟨by omega, by omega, fun s hs => fitS_wt ?_, by omega, fun u hu => fitX_wt ?_⟩
  · have h4 : wt_Store s + 1 ≤ wsum wt_Store d.f_Stores := wsum_mem hs
    omega
  · have h4 : wt_IndexDef u + 1 ≤ wsum wt_IndexDef d.f_Unique := wsum_mem hu
    omega
end Go.Proofs.Ytboefioalkjdaaa.L8

/-
  The contracts of chapter 6's functions of the specification: l6Item, l6Copy. Conditions: keys' texts of at most 2^40 bytes, at most 2^20 fields and items. (Written by my program gen_l6a.py.)
-/
namespace Go.Proofs.Ytboefioalkjdaaa.L6
set_option maxRecDepth 100000
open L4 (K isK cmpK R inR encU)
open L5 (F isR isN cellsF encR eqR Small)
open Go.ChangeShapes Go.WideShapes Go.ChangeAt Go.RowKit Mem Sl Ex L2 Sv Bag
set_option linter.unusedVariables false
set_option linter.unusedSimpArgs false

theorem readsI_at {w : World} {B : Nat} {ad : Addr} {xs : List LI} (h : Reads w B (some ad) (cellsI xs)) (j : Nat) (x : LI) (hx : xs[j]? = some x) :
    w.cell? (ad.add (j * 4)) = some (.int .i64 x.k.kind) ∧ w.cell? ⟨(ad.add (j * 4)).block, (ad.add (j * 4)).off + 1, none⟩ = some (.int .i64 x.k.n) ∧ w.cell? ⟨(ad.add (j * 4)).block, (ad.add (j * 4)).off + 2, none⟩ = some (.string x.k.text) ∧ w.cell? ⟨(ad.add (j * 4)).block, (ad.add (j * 4)).off + 3, none⟩ = some (.slice x.a x.l.length x.c) := by
  obtain ⟨hj, rfl⟩ := List.getElem?_eq_some_iff.1 hx
  obtain ⟨ad', e, _, h1⟩ := readsI h j hj
  injection e with e
  subst e
  exact h1
theorem readsI_some {w : World} {B : Nat} {a : Option Addr} {xs : List LI} (h : Reads w B a (cellsI xs)) (j : Nat) (hj : j < xs.length) : ∃ ad x, a = some ad ∧ xs[j]? = some x := by
  obtain ⟨ad, e, _⟩ := readsI h j hj
  exact ⟨ad, _, e, List.getElem?_eq_getElem hj⟩
theorem rowsI_mem {xs : List LI} {j : Nat} {x : LI} (hx : xs[j]? = some x) : x.row ∈ rowsI xs := by
  obtain ⟨hj, rfl⟩ := List.getElem?_eq_some_iff.1 hx
  exact rowsI_at xs j hj
theorem fit_at {xs : List LI} {j : Nat} {x : LI} (h : ∀ y ∈ conI xs, FitI y) (hx : xs[j]? = some x) : FitI x.con := by
  obtain ⟨hj, rfl⟩ := List.getElem?_eq_some_iff.1 hx
  exact h _ (List.mem_map.2 ⟨_, List.getElem_mem hj, rfl⟩)
end Go.Proofs.Ytboefioalkjdaaa.L6

/-
  The contracts of chapter 6's functions of the specification that only read: FindItem, IsStore, EqualStores, SizeStore. Conditions: keys' texts of at most 2^40 bytes, at most 2^20 fields and items. (Written by my program gen_l6b.py.)
-/
namespace Go.Proofs.Ytboefioalkjdaaa.L6
set_option maxRecDepth 100000
open L4 (K isK cmpK R inR encU)
open L5 (F isR isN cellsF encR eqR Small)
open Go.ChangeShapes Go.WideShapes Go.ChangeAt Go.RowKit Mem Sl Ex L2 Sv Bag
set_option linter.unusedVariables false
set_option linter.unusedSimpArgs false

theorem key_eq (kd n : Int) (s : ByteArray) (kd2 n2 : Int) (s2 : ByteArray) (w : World) :
    (Op.equalIn 10000 49 (.agg #[.int .i64 kd, .int .i64 n, .string s]) (.agg #[.int .i64 kd2, .int .i64 n2, .string s2])).run Try.prog w = .ok (eqK ⟨kd, n, s⟩ ⟨kd2, n2, s2⟩) w := by
  unfold eqK K.t
  rw [← ByteArray.toList_eq, ← ByteArray.toList_eq]
  cases h1 : kd == kd2 <;> cases h2 : n == n2 <;> cases h3 : s.toList == s2.toList <;> simp [go_sem, h1, h2, h3]
theorem con_of {xs : List LI} {k : Nat} {x : LI} (hx : xs[k]? = some x) : (conI xs)[k]? = some x.con := by unfold conI; rw [List.getElem?_map, hx]; rfl
end Go.Proofs.Ytboefioalkjdaaa.L6

/-
  The contracts of chapter 7's functions of the specification, III: CursorNext, WalkStore. Conditions: keys' texts of at most 2^40 bytes, at most 2^20 fields and items. (Written by my program gen_l7c.py.)
-/
namespace Go.Proofs.Ytboefioalkjdaaa.L7
set_option maxRecDepth 100000
open L4 (K isK cmpK R inR encU)
open L5 (F isR isN cellsF encR eqR Small getO getN getB)
open L6
open Go.ChangeShapes Go.WideShapes Go.ChangeAt Go.RowKit Mem Sl Ex L2 Sv Bag
set_option linter.unusedVariables false
set_option linter.unusedSimpArgs false

structure FitC (x : Cu) : Prop where
  lo : x.r.lo.text.size ≤ 281474976710656
  hi : x.r.hi.text.size ≤ 281474976710656
  at_ : x.k.text.size ≤ 281474976710656

end Go.Proofs.Ytboefioalkjdaaa.L7

/-
  The contracts of chapter 7's functions of the specification, IV: UniqueFault, WalkStore. Conditions: keys' texts of at most 2^40 bytes, at most 2^20 fields and items. (Written by my program gen_l7d.py.)
-/
namespace Go.Proofs.Ytboefioalkjdaaa.L7
set_option maxRecDepth 100000
open L4 (K isK cmpK R inR encU)
open L5 (F isR isN cellsF encR eqR Small getO getN getB)
open L6
open Go.ChangeShapes Go.WideShapes Go.ChangeAt Go.RowKit Mem Sl Ex L2 Sv Bag
set_option linter.unusedVariables false
set_option linter.unusedSimpArgs false

theorem FitC.to {x : Cu} (h : FitC x) (k : K) (hk : k.text.size ≤ 281474976710656) : FitC (x.to k) := ⟨h.lo, h.hi, hk⟩
end Go.Proofs.Ytboefioalkjdaaa.L7

/-
  The contracts of chapter 8's functions of the specification that only read, I: FindStore, l8Index, IsDatabase. Conditions: names of at most 2^48 bytes, at most 2^20 stores, indexes, items and fields. (Written by my program gen_l8a.py.)
-/
namespace Go.Proofs.Ytboefioalkjdaaa.L8
set_option maxRecDepth 100000
open V L6 L7
open L4 (K isK cmpK)
open L5 (F isR isN string_geq)
open Go.Op (bytesLess)
open Go.ChangeShapes Go.WideShapes Go.ChangeAt Go.RowKit Mem Sl Ex L2 Sv Bag
set_option linter.unusedVariables false
set_option linter.unusedSimpArgs false

theorem index_eq (a b : X_IndexDef) (w : World) :
    (Op.equalIn 10000 46 (.agg #[.string a.f_Store, .string a.f_Field]) (.agg #[.string b.f_Store, .string b.f_Field])).run Try.prog w = .ok (eqX a b) w := by
  unfold eqX
  cases h1 : a.f_Store.toList == b.f_Store.toList <;> cases h2 : a.f_Field.toList == b.f_Field.toList <;> simp [go_sem, h1, h2]
end Go.Proofs.Ytboefioalkjdaaa.L8

/-
  The contracts of chapter 6's functions of the specification that only read, II: EqualStores, SizeStore. Conditions: keys' texts of at most 2^40 bytes, at most 2^20 fields and items. (Written by my program gen_l6c.py.)
-/
namespace Go.Proofs.Ytboefioalkjdaaa.L6
set_option maxRecDepth 100000
open L4 (K isK cmpK R inR encU)
open L5 (F isR isN cellsF encR eqR Small)
open Go.ChangeShapes Go.WideShapes Go.ChangeAt Go.RowKit Mem Sl Ex L2 Sv Bag
set_option linter.unusedVariables false
set_option linter.unusedSimpArgs false

set_option maxHeartbeats 8000000 in
theorem specEqualStores_any (y y2 : LS) (hf : FitS y.con) (hf2 : FitS y2.con) (w : World) (hr : RowsRd w w.heap.size y.rows) (hr2 : RowsRd w w.heap.size y2.rows) :
    Calls Try.prog 36 #[y.v, y2.v] w fun e w' => e = .returned (.bool (eqS y.con y2.con)) ∧ Below w.heap.size w w' := by
  obtain ⟨name, a, c, xs, auto⟩ := y
  have HR := Lib.hid (fun w' (h : Below w.heap.size w w') => LS.outer (hr.below h))
  have HX := Lib.hid (fun w' (h : Below w.heap.size w w') => (LS.inner (hr.below h)).more h.size)
  have HF := Lib.hid hf.items
  have HNM := Lib.hid hf.name
  have hl := hf.len
  simp only [LS.con, conI_length] at hl
  dsimp only [LS.con] at HR HX HF HNM
  try unfold LS.v LS.cells LS.con
  try dsimp only
  obtain ⟨N, hN⟩ : ∃ n, n = xs.length := ⟨_, rfl⟩
  rw [← hN] at hl ⊢
  have hl' : (N : Int) ≤ 1048576 := by omega
  have HN := Lib.hid hN
  clear hN hr hf
  obtain ⟨name2, a2, c2, xs2, auto2⟩ := y2
  have HR2 := Lib.hid (fun w' (h : Below w.heap.size w w') => LS.outer (hr2.below h))
  have HX2 := Lib.hid (fun w' (h : Below w.heap.size w w') => (LS.inner (hr2.below h)).more h.size)
  have HF2 := Lib.hid hf2.items
  have HNM2 := Lib.hid hf2.name
  have hl2 := hf2.len
  simp only [LS.con, conI_length] at hl2
  dsimp only [LS.con] at HR2 HX2 HF2 HNM2
  try unfold LS.v LS.cells LS.con
  try dsimp only
  obtain ⟨N2, hN2⟩ : ∃ n, n = xs2.length := ⟨_, rfl⟩
  rw [← hN2] at hl2 ⊢
  have hl2' : (N2 : Int) ≤ 1048576 := by omega
  have HN2 := Lib.hid hN2
  clear hN2 hr2 hf2
  obtain ⟨be, hbe⟩ : ∃ b, eqS ⟨name, conI xs, auto⟩ ⟨name2, conI xs2, auto2⟩ = b := ⟨_, rfl⟩
  rw [hbe]
  have HE := Lib.hid (show be = ((name.toList == name2.toList) && ((auto == auto2) && eqI (conI xs) (conI xs2))) from by rw [← hbe]; unfold eqS; rw [ByteArray.toList_eq, ByteArray.toList_eq])
  clear hbe
  have S1 := Lib.hid (show Sl.Sep w ((w.alloc (.cells #[.string name, .slice a N c, .int .i64 auto] 44)).alloc (.cells #[.string name2, .slice a2 N2 c2, .int .i64 auto2] 44)) [L4.boxR w.heap.size 44 #[.string name, .slice a N c, .int .i64 auto], L4.boxR (w.heap.size + 1) 44 #[.string name2, .slice a2 N2 c2, .int .i64 auto2]] from L4.push_box (L4.push_box (Sl.Sep.start w) 44 #[.string name, .slice a N c, .int .i64 auto] (w.heap.size) (by simp)) 44 #[.string name2, .slice a2 N2 c2, .int .i64 auto2] (w.heap.size + 1) (by simp))
  obtain ⟨wa, hwa⟩ : ∃ u, u = ((w.alloc (.cells #[.string name, .slice a N c, .int .i64 auto] 44)).alloc (.cells #[.string name2, .slice a2 N2 c2, .int .i64 auto2] 44)) := ⟨_, rfl⟩
  rw [← hwa] at S1
  go_enter Try.func36, Try.ntmps36
  go_upto_region 1 with fail
  rw [← hwa]
  clear hwa
  have f0 : World.cell? _ ⟨w.heap.size, 0, none⟩ = some (.string name) := Bag.cell_at S1.out 0 rfl 0 rfl
  have f1 : World.cell? _ ⟨w.heap.size, 1, none⟩ = some (.slice a N c) := Bag.cell_at S1.out 0 rfl 1 rfl
  have f2 : World.cell? _ ⟨w.heap.size, 2, none⟩ = some (.int .i64 auto) := Bag.cell_at S1.out 0 rfl 2 rfl
  have f3 : World.cell? _ ⟨w.heap.size + 1, 0, none⟩ = some (.string name2) := Bag.cell_at S1.out 1 rfl 0 rfl
  have f4 : World.cell? _ ⟨w.heap.size + 1, 1, none⟩ = some (.slice a2 N2 c2) := Bag.cell_at S1.out 1 rfl 1 rfl
  have f5 : World.cell? _ ⟨w.heap.size + 1, 2, none⟩ = some (.int .i64 auto2) := Bag.cell_at S1.out 1 rfl 2 rfl
  cases hn : name.toList == name2.toList with
  | false =>
    have HB := Lib.hid (show be = false from by rw [HE.out, hn]; rfl)
    go_wp2_with fail
    go_ret
    exact ⟨by rw [HB.out]; rfl, S1.out.old⟩
  | true =>
    cases hu : auto == auto2 with
    | false =>
      have hu2 : (auto != auto2) = true := by rw [bne, hu]; rfl
      have HB := Lib.hid (show be = false from by rw [HE.out, hn, hu]; rfl)
      go_wp2_with fail
      go_ret
      exact ⟨by rw [HB.out]; rfl, S1.out.old⟩
    | true =>
      have HB := Lib.hid (show be = eqI (conI xs) (conI xs2) from by rw [HE.out, hn, hu]; rfl)
      have hu2 : (auto != auto2) = false := by rw [bne, hu]; rfl
      by_cases hN : N = N2
      · subst hN
        go_wp2_with fail
        go_loopw [5] (fun i wr => ∃ k : Nat, k ≤ N ∧ i = .int .i64 k ∧ Hid ((∀ j (h1 : j < (conI xs).length) (h2 : j < (conI xs2).length), j < k → (eqK (conI xs)[j].k (conI xs2)[j].k && eqR (conI xs)[j].l (conI xs2)[j].l) = true) ∧ Sl.Sep w wr [L4.boxR w.heap.size 44 #[.string name, .slice a N c, .int .i64 auto], L4.boxR (w.heap.size + 1) 44 #[.string name2, .slice a2 N c2, .int .i64 auto2]])) (fun i _ => N - (intOf i).toNat)
        case atStart => exact ⟨0, Nat.zero_le _, rfl, And.intro (fun j h1 h2 h => absurd h (by omega)) S1.out⟩
        case round =>
          clear f0 f1 f2 f3 f4 f5
          obtain ⟨k, hk, rfl, hrel⟩ := hrel
          have HA := Lib.hid hrel.out.1
          have S2 := Lib.hid hrel.out.2
          clear hrel S1
          by_cases hlt : (k : Int) < (N : Int)
          · skip
            have hkl : k < xs.length := by have := HN.out; omega
            have hkl2 : k < xs2.length := by have := HN2.out; omega
            obtain ⟨ad, x, rfl, hx⟩ := readsI_some (HR.out _ S2.out.old) k hkl
            obtain ⟨⟨kd, n, t⟩, ia, ic, l⟩ := x
            have HK := Lib.hid (fun w' (h : Below w.heap.size w w') => readsI_at (HR.out _ h) k _ hx)
            try dsimp only at HK
            have HFI := Lib.hid (fit_at HF.out hx)
            try dsimp only [LI.con] at HFI
            obtain ⟨ad2, x, rfl, hx2⟩ := readsI_some (HR2.out _ S2.out.old) k hkl2
            obtain ⟨⟨kd2, n2, t2⟩, ia2, ic2, l2⟩ := x
            have HK2 := Lib.hid (fun w' (h : Below w.heap.size w w') => readsI_at (HR2.out _ h) k _ hx2)
            try dsimp only at HK2
            have HFI2 := Lib.hid (fit_at HF2.out hx2)
            try dsimp only [LI.con] at HFI2
            have HC := Lib.hid (show (conI xs)[k]? = some (⟨⟨kd, n, t⟩, l⟩ : It) from con_of hx)
            have HC2 := Lib.hid (show (conI xs2)[k]? = some (⟨⟨kd2, n2, t2⟩, l2⟩ : It) from con_of hx2)
            obtain ⟨b, hb⟩ : ∃ b, eqK ⟨kd, n, t⟩ ⟨kd2, n2, t2⟩ = b := ⟨_, rfl⟩
            have HEQ := fun w => key_eq kd n t kd2 n2 t2 w
            rw [hb] at HEQ
            have HBK := Lib.hid hb
            clear hb
            obtain ⟨br, hbr⟩ : ∃ b, eqR l l2 = b := ⟨_, rfl⟩
            have HER := fun w' (h : Below w.heap.size w w') => L5.specEqualRecords_any ia ia2 ic ic2 l l2 (by have : l.length ≤ 1048576 := HFI.out.len; omega) (by have : l2.length ≤ 1048576 := HFI2.out.len; omega) w' (((HX.out _ h).at_ (rowsI_mem hx)).reads) (((HX2.out _ h).at_ (rowsI_mem hx2)).reads)
            rw [hbr] at HER
            replace HER := Lib.hid HER
            have HBR := Lib.hid hbr
            clear hbr hx hx2
            have f0 : World.cell? _ ⟨w.heap.size, 0, none⟩ = some (.string name) := Bag.cell_at S2.out 0 rfl 0 rfl
            have f1 : World.cell? _ ⟨w.heap.size, 1, none⟩ = some (.slice (some ad) N c) := Bag.cell_at S2.out 0 rfl 1 rfl
            have f2 : World.cell? _ ⟨w.heap.size, 2, none⟩ = some (.int .i64 auto) := Bag.cell_at S2.out 0 rfl 2 rfl
            have f3 : World.cell? _ ⟨w.heap.size + 1, 0, none⟩ = some (.string name2) := Bag.cell_at S2.out 1 rfl 0 rfl
            have f4 : World.cell? _ ⟨w.heap.size + 1, 1, none⟩ = some (.slice (some ad2) N c2) := Bag.cell_at S2.out 1 rfl 1 rfl
            have f5 : World.cell? _ ⟨w.heap.size + 1, 2, none⟩ = some (.int .i64 auto2) := Bag.cell_at S2.out 1 rfl 2 rfl
            have f6 : World.cell? _ (ad.add (k * 4)) = some (.int .i64 kd) := (HK.out _ S2.out.old).1
            have f7 : World.cell? _ (⟨(ad.add (k * 4)).block, (ad.add (k * 4)).off + 1, none⟩) = some (.int .i64 n) := (HK.out _ S2.out.old).2.1
            have f8 : World.cell? _ (⟨(ad.add (k * 4)).block, (ad.add (k * 4)).off + 2, none⟩) = some (.string t) := (HK.out _ S2.out.old).2.2.1
            have f9 : World.cell? _ (⟨(ad.add (k * 4)).block, (ad.add (k * 4)).off + 3, none⟩) = some (.slice ia l.length ic) := (HK.out _ S2.out.old).2.2.2
            have f10 : World.cell? _ (ad2.add (k * 4)) = some (.int .i64 kd2) := (HK2.out _ S2.out.old).1
            have f11 : World.cell? _ (⟨(ad2.add (k * 4)).block, (ad2.add (k * 4)).off + 1, none⟩) = some (.int .i64 n2) := (HK2.out _ S2.out.old).2.1
            have f12 : World.cell? _ (⟨(ad2.add (k * 4)).block, (ad2.add (k * 4)).off + 2, none⟩) = some (.string t2) := (HK2.out _ S2.out.old).2.2.1
            have f13 : World.cell? _ (⟨(ad2.add (k * 4)).block, (ad2.add (k * 4)).off + 3, none⟩) = some (.slice ia2 l2.length ic2) := (HK2.out _ S2.out.old).2.2.2
            cases b with
            | false =>
              go_upto_region 6 with fail
              clear f0 f1 f2 f3 f4 f5 f6 f7 f8 f9 f10 f11 f12 f13
              refine wp_region_held_drew (S := (fun w' => World.cell? w' ⟨w.heap.size, 0, none⟩ = some (.string name) ∧ World.cell? w' ⟨w.heap.size, 1, none⟩ = some (.slice (some ad) N c) ∧ World.cell? w' ⟨w.heap.size, 2, none⟩ = some (.int .i64 auto) ∧ World.cell? w' ⟨w.heap.size + 1, 0, none⟩ = some (.string name2) ∧ World.cell? w' ⟨w.heap.size + 1, 1, none⟩ = some (.slice (some ad2) N c2) ∧ World.cell? w' ⟨w.heap.size + 1, 2, none⟩ = some (.int .i64 auto2) ∧ World.cell? w' (ad.add (k * 4)) = some (.int .i64 kd) ∧ World.cell? w' (⟨(ad.add (k * 4)).block, (ad.add (k * 4)).off + 1, none⟩) = some (.int .i64 n) ∧ World.cell? w' (⟨(ad.add (k * 4)).block, (ad.add (k * 4)).off + 2, none⟩) = some (.string t) ∧ World.cell? w' (⟨(ad.add (k * 4)).block, (ad.add (k * 4)).off + 3, none⟩) = some (.slice ia l.length ic) ∧ World.cell? w' (ad2.add (k * 4)) = some (.int .i64 kd2) ∧ World.cell? w' (⟨(ad2.add (k * 4)).block, (ad2.add (k * 4)).off + 1, none⟩) = some (.int .i64 n2) ∧ World.cell? w' (⟨(ad2.add (k * 4)).block, (ad2.add (k * 4)).off + 2, none⟩) = some (.string t2) ∧ World.cell? w' (⟨(ad2.add (k * 4)).block, (ad2.add (k * 4)).off + 3, none⟩) = some (.slice ia2 l2.length ic2))) (by kernel_rfl) ⟨Bag.cell_at S2.out 0 rfl 0 rfl, Bag.cell_at S2.out 0 rfl 1 rfl, Bag.cell_at S2.out 0 rfl 2 rfl, Bag.cell_at S2.out 1 rfl 0 rfl, Bag.cell_at S2.out 1 rfl 1 rfl, Bag.cell_at S2.out 1 rfl 2 rfl, (HK.out _ S2.out.old).1, (HK.out _ S2.out.old).2.1, (HK.out _ S2.out.old).2.2.1, (HK.out _ S2.out.old).2.2.2, (HK2.out _ S2.out.old).1, (HK2.out _ S2.out.old).2.1, (HK2.out _ S2.out.old).2.2.1, (HK2.out _ S2.out.old).2.2.2⟩ (fun hS => ?_)
              have S3 := Lib.hid (show Sl.Sep w _ [L4.boxR w.heap.size 44 #[.string name, .slice (some ad) N c, .int .i64 auto], L4.boxR (w.heap.size + 1) 44 #[.string name2, .slice (some ad2) N c2, .int .i64 auto2]] from Bag.drew1 S2.out)
              clear S2
              generalize World.drew _ = w1 at hS S3 ⊢
              refine tk 0 rfl ?_
              try simp only [zp0, zp1, zp2, zp3, zp4]
              refine tk 1 rfl ?_
              try simp only [zp0, zp1, zp2, zp3, zp4]
              refine tk 2 rfl ?_
              try simp only [zp0, zp1, zp2, zp3, zp4]
              refine tk 3 rfl ?_
              try simp only [zp0, zp1, zp2, zp3, zp4]
              refine tk 4 rfl ?_
              try simp only [zp0, zp1, zp2, zp3, zp4]
              refine tk 5 rfl ?_
              try simp only [zp0, zp1, zp2, zp3, zp4]
              refine tk 6 rfl ?_
              try simp only [zp0, zp1, zp2, zp3, zp4]
              refine tk 7 rfl ?_
              try simp only [zp0, zp1, zp2, zp3, zp4]
              refine tk 8 rfl ?_
              try simp only [zp0, zp1, zp2, zp3, zp4]
              refine tk 9 rfl ?_
              try simp only [zp0, zp1, zp2, zp3, zp4]
              refine tk 10 rfl ?_
              try simp only [zp0, zp1, zp2, zp3, zp4]
              refine tk 11 rfl ?_
              try simp only [zp0, zp1, zp2, zp3, zp4]
              refine tk 12 rfl ?_
              try simp only [zp0, zp1, zp2, zp3, zp4]
              refine tk 13 rfl ?_
              try simp only [zp0, zp1, zp2, zp3, zp4]
              refine sk 14 rfl ?_
              try simp only [zp0, zp1, zp2, zp3, zp4]
              refine sk 15 rfl ?_
              try simp only [zp0, zp1, zp2, zp3, zp4]
              refine sk 16 rfl ?_
              try simp only [zp0, zp1, zp2, zp3, zp4]
              refine sk 17 rfl ?_
              try simp only [zp0, zp1, zp2, zp3, zp4]
              refine sk 18 rfl ?_
              try simp only [zp0, zp1, zp2, zp3, zp4]
              refine sk 19 rfl ?_
              try simp only [zp0, zp1, zp2, zp3, zp4]
              refine sk 20 rfl ?_
              try simp only [zp0, zp1, zp2, zp3, zp4]
              refine sk 21 rfl ?_
              try simp only [zp0, zp1, zp2, zp3, zp4]
              refine sk 22 rfl ?_
              try simp only [zp0, zp1, zp2, zp3, zp4]
              refine sk 23 rfl ?_
              try simp only [zp0, zp1, zp2, zp3, zp4]
              refine sk 24 rfl ?_
              try simp only [zp0, zp1, zp2, zp3, zp4]
              refine sk 25 rfl ?_
              try simp only [zp0, zp1, zp2, zp3, zp4]
              refine Reg.skip_one (i := 26) rfl (by kernel_rfl) (by rfl) (by assumption) ?_
              try simp only [zp0, zp1, zp2, zp3, zp4]
              refine sk 27 rfl ?_
              try simp only [zp0, zp1, zp2, zp3, zp4]
              refine tk 28 rfl ?_
              try simp only [zp0, zp1, zp2, zp3, zp4]
              refine wpAnyH_done (by kernel_rfl) ?_ _
              have f0 : World.cell? _ ⟨w.heap.size, 0, none⟩ = some (.string name) := Bag.cell_at S3.out 0 rfl 0 rfl
              have f1 : World.cell? _ ⟨w.heap.size, 1, none⟩ = some (.slice (some ad) N c) := Bag.cell_at S3.out 0 rfl 1 rfl
              have f2 : World.cell? _ ⟨w.heap.size, 2, none⟩ = some (.int .i64 auto) := Bag.cell_at S3.out 0 rfl 2 rfl
              have f3 : World.cell? _ ⟨w.heap.size + 1, 0, none⟩ = some (.string name2) := Bag.cell_at S3.out 1 rfl 0 rfl
              have f4 : World.cell? _ ⟨w.heap.size + 1, 1, none⟩ = some (.slice (some ad2) N c2) := Bag.cell_at S3.out 1 rfl 1 rfl
              have f5 : World.cell? _ ⟨w.heap.size + 1, 2, none⟩ = some (.int .i64 auto2) := Bag.cell_at S3.out 1 rfl 2 rfl
              have f6 : World.cell? _ (ad.add (k * 4)) = some (.int .i64 kd) := (HK.out _ S3.out.old).1
              have f7 : World.cell? _ (⟨(ad.add (k * 4)).block, (ad.add (k * 4)).off + 1, none⟩) = some (.int .i64 n) := (HK.out _ S3.out.old).2.1
              have f8 : World.cell? _ (⟨(ad.add (k * 4)).block, (ad.add (k * 4)).off + 2, none⟩) = some (.string t) := (HK.out _ S3.out.old).2.2.1
              have f9 : World.cell? _ (⟨(ad.add (k * 4)).block, (ad.add (k * 4)).off + 3, none⟩) = some (.slice ia l.length ic) := (HK.out _ S3.out.old).2.2.2
              have f10 : World.cell? _ (ad2.add (k * 4)) = some (.int .i64 kd2) := (HK2.out _ S3.out.old).1
              have f11 : World.cell? _ (⟨(ad2.add (k * 4)).block, (ad2.add (k * 4)).off + 1, none⟩) = some (.int .i64 n2) := (HK2.out _ S3.out.old).2.1
              have f12 : World.cell? _ (⟨(ad2.add (k * 4)).block, (ad2.add (k * 4)).off + 2, none⟩) = some (.string t2) := (HK2.out _ S3.out.old).2.2.1
              have f13 : World.cell? _ (⟨(ad2.add (k * 4)).block, (ad2.add (k * 4)).off + 3, none⟩) = some (.slice ia2 l2.length ic2) := (HK2.out _ S3.out.old).2.2.2
              have HNO := Lib.hid (show eqI (conI xs) (conI xs2) = false from eqI_no k (List.getElem?_eq_some_iff.1 HC.out).1 (List.getElem?_eq_some_iff.1 HC2.out).1 (by rw [(List.getElem?_eq_some_iff.1 HC.out).2, (List.getElem?_eq_some_iff.1 HC2.out).2]; dsimp only; rw [HBK.out]; rfl))
              go_wp2_with fail
              go_ret
              exact ⟨by rw [HB.out, HNO.out]; rfl, S3.out.old⟩
            | true =>
              cases br with
              | false =>
                go_upto_region 6 with fail
                clear f0 f1 f2 f3 f4 f5 f6 f7 f8 f9 f10 f11 f12 f13
                refine wp_region_held_drew (S := (fun w' => World.cell? w' ⟨w.heap.size, 0, none⟩ = some (.string name) ∧ World.cell? w' ⟨w.heap.size, 1, none⟩ = some (.slice (some ad) N c) ∧ World.cell? w' ⟨w.heap.size, 2, none⟩ = some (.int .i64 auto) ∧ World.cell? w' ⟨w.heap.size + 1, 0, none⟩ = some (.string name2) ∧ World.cell? w' ⟨w.heap.size + 1, 1, none⟩ = some (.slice (some ad2) N c2) ∧ World.cell? w' ⟨w.heap.size + 1, 2, none⟩ = some (.int .i64 auto2) ∧ World.cell? w' (ad.add (k * 4)) = some (.int .i64 kd) ∧ World.cell? w' (⟨(ad.add (k * 4)).block, (ad.add (k * 4)).off + 1, none⟩) = some (.int .i64 n) ∧ World.cell? w' (⟨(ad.add (k * 4)).block, (ad.add (k * 4)).off + 2, none⟩) = some (.string t) ∧ World.cell? w' (⟨(ad.add (k * 4)).block, (ad.add (k * 4)).off + 3, none⟩) = some (.slice ia l.length ic) ∧ World.cell? w' (ad2.add (k * 4)) = some (.int .i64 kd2) ∧ World.cell? w' (⟨(ad2.add (k * 4)).block, (ad2.add (k * 4)).off + 1, none⟩) = some (.int .i64 n2) ∧ World.cell? w' (⟨(ad2.add (k * 4)).block, (ad2.add (k * 4)).off + 2, none⟩) = some (.string t2) ∧ World.cell? w' (⟨(ad2.add (k * 4)).block, (ad2.add (k * 4)).off + 3, none⟩) = some (.slice ia2 l2.length ic2))) (by kernel_rfl) ⟨Bag.cell_at S2.out 0 rfl 0 rfl, Bag.cell_at S2.out 0 rfl 1 rfl, Bag.cell_at S2.out 0 rfl 2 rfl, Bag.cell_at S2.out 1 rfl 0 rfl, Bag.cell_at S2.out 1 rfl 1 rfl, Bag.cell_at S2.out 1 rfl 2 rfl, (HK.out _ S2.out.old).1, (HK.out _ S2.out.old).2.1, (HK.out _ S2.out.old).2.2.1, (HK.out _ S2.out.old).2.2.2, (HK2.out _ S2.out.old).1, (HK2.out _ S2.out.old).2.1, (HK2.out _ S2.out.old).2.2.1, (HK2.out _ S2.out.old).2.2.2⟩ (fun hS => ?_)
                have S3 := Lib.hid (show Sl.Sep w _ [L4.boxR w.heap.size 44 #[.string name, .slice (some ad) N c, .int .i64 auto], L4.boxR (w.heap.size + 1) 44 #[.string name2, .slice (some ad2) N c2, .int .i64 auto2]] from Bag.drew1 S2.out)
                clear S2
                generalize World.drew _ = w1 at hS S3 ⊢
                refine tk 0 rfl ?_
                try simp only [zp0, zp1, zp2, zp3, zp4]
                refine tk 1 rfl ?_
                try simp only [zp0, zp1, zp2, zp3, zp4]
                refine tk 2 rfl ?_
                try simp only [zp0, zp1, zp2, zp3, zp4]
                refine tk 3 rfl ?_
                try simp only [zp0, zp1, zp2, zp3, zp4]
                refine tk 4 rfl ?_
                try simp only [zp0, zp1, zp2, zp3, zp4]
                refine tk 5 rfl ?_
                try simp only [zp0, zp1, zp2, zp3, zp4]
                refine tk 6 rfl ?_
                try simp only [zp0, zp1, zp2, zp3, zp4]
                refine tk 7 rfl ?_
                try simp only [zp0, zp1, zp2, zp3, zp4]
                refine tk 8 rfl ?_
                try simp only [zp0, zp1, zp2, zp3, zp4]
                refine tk 9 rfl ?_
                try simp only [zp0, zp1, zp2, zp3, zp4]
                refine tk 10 rfl ?_
                try simp only [zp0, zp1, zp2, zp3, zp4]
                refine tk 11 rfl ?_
                try simp only [zp0, zp1, zp2, zp3, zp4]
                refine tk 12 rfl ?_
                try simp only [zp0, zp1, zp2, zp3, zp4]
                refine tk 13 rfl ?_
                try simp only [zp0, zp1, zp2, zp3, zp4]
                refine tk 14 rfl ?_
                try simp only [zp0, zp1, zp2, zp3, zp4]
                refine tk 15 rfl ?_
                try simp only [zp0, zp1, zp2, zp3, zp4]
                refine tk 16 rfl ?_
                try simp only [zp0, zp1, zp2, zp3, zp4]
                refine tk 17 rfl ?_
                try simp only [zp0, zp1, zp2, zp3, zp4]
                refine tk 18 rfl ?_
                try simp only [zp0, zp1, zp2, zp3, zp4]
                refine tk 19 rfl ?_
                try simp only [zp0, zp1, zp2, zp3, zp4]
                refine tk 20 rfl ?_
                try simp only [zp0, zp1, zp2, zp3, zp4]
                refine tk 21 rfl ?_
                try simp only [zp0, zp1, zp2, zp3, zp4]
                refine tk 22 rfl ?_
                try simp only [zp0, zp1, zp2, zp3, zp4]
                refine tk 23 rfl ?_
                try simp only [zp0, zp1, zp2, zp3, zp4]
                refine tk 24 rfl ?_
                try simp only [zp0, zp1, zp2, zp3, zp4]
                refine tk 25 rfl ?_
                try simp only [zp0, zp1, zp2, zp3, zp4]
                refine Reg.one_op (i := 26) rfl (by kernel_rfl) (fun K hK => ?_)
                go_simp
                go_at_call 59
                refine (HER.out _ S3.out.old).mono ?_
                rintro e w2 ⟨rfl, hb⟩
                have S4 := Lib.hid (show Sl.Sep w _ [L4.boxR w.heap.size 44 #[.string name, .slice (some ad) N c, .int .i64 auto], L4.boxR (w.heap.size + 1) 44 #[.string name2, .slice (some ad2) N c2, .int .i64 auto2]] from S3.out.keep hb)
                clear S3
                clear hb
                go_wp2_with fail
                refine hK.out _ _ ⟨Bag.cell_at S4.out 0 rfl 0 rfl, Bag.cell_at S4.out 0 rfl 1 rfl, Bag.cell_at S4.out 0 rfl 2 rfl, Bag.cell_at S4.out 1 rfl 0 rfl, Bag.cell_at S4.out 1 rfl 1 rfl, Bag.cell_at S4.out 1 rfl 2 rfl, (HK.out _ S4.out.old).1, (HK.out _ S4.out.old).2.1, (HK.out _ S4.out.old).2.2.1, (HK.out _ S4.out.old).2.2.2, (HK2.out _ S4.out.old).1, (HK2.out _ S4.out.old).2.1, (HK2.out _ S4.out.old).2.2.1, (HK2.out _ S4.out.old).2.2.2⟩ (fun hS => ?_)
                clear hK K
                try simp only [zp0, zp1, zp2, zp3, zp4]
                refine tk 27 rfl ?_
                try simp only [zp0, zp1, zp2, zp3, zp4]
                refine tk 28 rfl ?_
                try simp only [zp0, zp1, zp2, zp3, zp4]
                refine wpAnyH_done (by kernel_rfl) ?_ _
                have f0 : World.cell? _ ⟨w.heap.size, 0, none⟩ = some (.string name) := Bag.cell_at S4.out 0 rfl 0 rfl
                have f1 : World.cell? _ ⟨w.heap.size, 1, none⟩ = some (.slice (some ad) N c) := Bag.cell_at S4.out 0 rfl 1 rfl
                have f2 : World.cell? _ ⟨w.heap.size, 2, none⟩ = some (.int .i64 auto) := Bag.cell_at S4.out 0 rfl 2 rfl
                have f3 : World.cell? _ ⟨w.heap.size + 1, 0, none⟩ = some (.string name2) := Bag.cell_at S4.out 1 rfl 0 rfl
                have f4 : World.cell? _ ⟨w.heap.size + 1, 1, none⟩ = some (.slice (some ad2) N c2) := Bag.cell_at S4.out 1 rfl 1 rfl
                have f5 : World.cell? _ ⟨w.heap.size + 1, 2, none⟩ = some (.int .i64 auto2) := Bag.cell_at S4.out 1 rfl 2 rfl
                have f6 : World.cell? _ (ad.add (k * 4)) = some (.int .i64 kd) := (HK.out _ S4.out.old).1
                have f7 : World.cell? _ (⟨(ad.add (k * 4)).block, (ad.add (k * 4)).off + 1, none⟩) = some (.int .i64 n) := (HK.out _ S4.out.old).2.1
                have f8 : World.cell? _ (⟨(ad.add (k * 4)).block, (ad.add (k * 4)).off + 2, none⟩) = some (.string t) := (HK.out _ S4.out.old).2.2.1
                have f9 : World.cell? _ (⟨(ad.add (k * 4)).block, (ad.add (k * 4)).off + 3, none⟩) = some (.slice ia l.length ic) := (HK.out _ S4.out.old).2.2.2
                have f10 : World.cell? _ (ad2.add (k * 4)) = some (.int .i64 kd2) := (HK2.out _ S4.out.old).1
                have f11 : World.cell? _ (⟨(ad2.add (k * 4)).block, (ad2.add (k * 4)).off + 1, none⟩) = some (.int .i64 n2) := (HK2.out _ S4.out.old).2.1
                have f12 : World.cell? _ (⟨(ad2.add (k * 4)).block, (ad2.add (k * 4)).off + 2, none⟩) = some (.string t2) := (HK2.out _ S4.out.old).2.2.1
                have f13 : World.cell? _ (⟨(ad2.add (k * 4)).block, (ad2.add (k * 4)).off + 3, none⟩) = some (.slice ia2 l2.length ic2) := (HK2.out _ S4.out.old).2.2.2
                have HNO := Lib.hid (show eqI (conI xs) (conI xs2) = false from eqI_no k (List.getElem?_eq_some_iff.1 HC.out).1 (List.getElem?_eq_some_iff.1 HC2.out).1 (by rw [(List.getElem?_eq_some_iff.1 HC.out).2, (List.getElem?_eq_some_iff.1 HC2.out).2]; dsimp only; rw [HBK.out, HBR.out]; rfl))
                go_wp2_with fail
                go_ret
                exact ⟨by rw [HB.out, HNO.out]; rfl, S4.out.old⟩
              | true =>
                go_upto_region 6 with fail
                clear f0 f1 f2 f3 f4 f5 f6 f7 f8 f9 f10 f11 f12 f13
                refine wp_region_held_drew (S := (fun w' => World.cell? w' ⟨w.heap.size, 0, none⟩ = some (.string name) ∧ World.cell? w' ⟨w.heap.size, 1, none⟩ = some (.slice (some ad) N c) ∧ World.cell? w' ⟨w.heap.size, 2, none⟩ = some (.int .i64 auto) ∧ World.cell? w' ⟨w.heap.size + 1, 0, none⟩ = some (.string name2) ∧ World.cell? w' ⟨w.heap.size + 1, 1, none⟩ = some (.slice (some ad2) N c2) ∧ World.cell? w' ⟨w.heap.size + 1, 2, none⟩ = some (.int .i64 auto2) ∧ World.cell? w' (ad.add (k * 4)) = some (.int .i64 kd) ∧ World.cell? w' (⟨(ad.add (k * 4)).block, (ad.add (k * 4)).off + 1, none⟩) = some (.int .i64 n) ∧ World.cell? w' (⟨(ad.add (k * 4)).block, (ad.add (k * 4)).off + 2, none⟩) = some (.string t) ∧ World.cell? w' (⟨(ad.add (k * 4)).block, (ad.add (k * 4)).off + 3, none⟩) = some (.slice ia l.length ic) ∧ World.cell? w' (ad2.add (k * 4)) = some (.int .i64 kd2) ∧ World.cell? w' (⟨(ad2.add (k * 4)).block, (ad2.add (k * 4)).off + 1, none⟩) = some (.int .i64 n2) ∧ World.cell? w' (⟨(ad2.add (k * 4)).block, (ad2.add (k * 4)).off + 2, none⟩) = some (.string t2) ∧ World.cell? w' (⟨(ad2.add (k * 4)).block, (ad2.add (k * 4)).off + 3, none⟩) = some (.slice ia2 l2.length ic2))) (by kernel_rfl) ⟨Bag.cell_at S2.out 0 rfl 0 rfl, Bag.cell_at S2.out 0 rfl 1 rfl, Bag.cell_at S2.out 0 rfl 2 rfl, Bag.cell_at S2.out 1 rfl 0 rfl, Bag.cell_at S2.out 1 rfl 1 rfl, Bag.cell_at S2.out 1 rfl 2 rfl, (HK.out _ S2.out.old).1, (HK.out _ S2.out.old).2.1, (HK.out _ S2.out.old).2.2.1, (HK.out _ S2.out.old).2.2.2, (HK2.out _ S2.out.old).1, (HK2.out _ S2.out.old).2.1, (HK2.out _ S2.out.old).2.2.1, (HK2.out _ S2.out.old).2.2.2⟩ (fun hS => ?_)
                have S3 := Lib.hid (show Sl.Sep w _ [L4.boxR w.heap.size 44 #[.string name, .slice (some ad) N c, .int .i64 auto], L4.boxR (w.heap.size + 1) 44 #[.string name2, .slice (some ad2) N c2, .int .i64 auto2]] from Bag.drew1 S2.out)
                clear S2
                generalize World.drew _ = w1 at hS S3 ⊢
                refine tk 0 rfl ?_
                try simp only [zp0, zp1, zp2, zp3, zp4]
                refine tk 1 rfl ?_
                try simp only [zp0, zp1, zp2, zp3, zp4]
                refine tk 2 rfl ?_
                try simp only [zp0, zp1, zp2, zp3, zp4]
                refine tk 3 rfl ?_
                try simp only [zp0, zp1, zp2, zp3, zp4]
                refine tk 4 rfl ?_
                try simp only [zp0, zp1, zp2, zp3, zp4]
                refine tk 5 rfl ?_
                try simp only [zp0, zp1, zp2, zp3, zp4]
                refine tk 6 rfl ?_
                try simp only [zp0, zp1, zp2, zp3, zp4]
                refine tk 7 rfl ?_
                try simp only [zp0, zp1, zp2, zp3, zp4]
                refine tk 8 rfl ?_
                try simp only [zp0, zp1, zp2, zp3, zp4]
                refine tk 9 rfl ?_
                try simp only [zp0, zp1, zp2, zp3, zp4]
                refine tk 10 rfl ?_
                try simp only [zp0, zp1, zp2, zp3, zp4]
                refine tk 11 rfl ?_
                try simp only [zp0, zp1, zp2, zp3, zp4]
                refine tk 12 rfl ?_
                try simp only [zp0, zp1, zp2, zp3, zp4]
                refine tk 13 rfl ?_
                try simp only [zp0, zp1, zp2, zp3, zp4]
                refine tk 14 rfl ?_
                try simp only [zp0, zp1, zp2, zp3, zp4]
                refine tk 15 rfl ?_
                try simp only [zp0, zp1, zp2, zp3, zp4]
                refine tk 16 rfl ?_
                try simp only [zp0, zp1, zp2, zp3, zp4]
                refine tk 17 rfl ?_
                try simp only [zp0, zp1, zp2, zp3, zp4]
                refine tk 18 rfl ?_
                try simp only [zp0, zp1, zp2, zp3, zp4]
                refine tk 19 rfl ?_
                try simp only [zp0, zp1, zp2, zp3, zp4]
                refine tk 20 rfl ?_
                try simp only [zp0, zp1, zp2, zp3, zp4]
                refine tk 21 rfl ?_
                try simp only [zp0, zp1, zp2, zp3, zp4]
                refine tk 22 rfl ?_
                try simp only [zp0, zp1, zp2, zp3, zp4]
                refine tk 23 rfl ?_
                try simp only [zp0, zp1, zp2, zp3, zp4]
                refine tk 24 rfl ?_
                try simp only [zp0, zp1, zp2, zp3, zp4]
                refine tk 25 rfl ?_
                try simp only [zp0, zp1, zp2, zp3, zp4]
                refine Reg.one_op (i := 26) rfl (by kernel_rfl) (fun K hK => ?_)
                go_simp
                go_at_call 59
                refine (HER.out _ S3.out.old).mono ?_
                rintro e w2 ⟨rfl, hb⟩
                have S4 := Lib.hid (show Sl.Sep w _ [L4.boxR w.heap.size 44 #[.string name, .slice (some ad) N c, .int .i64 auto], L4.boxR (w.heap.size + 1) 44 #[.string name2, .slice (some ad2) N c2, .int .i64 auto2]] from S3.out.keep hb)
                clear S3
                clear hb
                go_wp2_with fail
                refine hK.out _ _ ⟨Bag.cell_at S4.out 0 rfl 0 rfl, Bag.cell_at S4.out 0 rfl 1 rfl, Bag.cell_at S4.out 0 rfl 2 rfl, Bag.cell_at S4.out 1 rfl 0 rfl, Bag.cell_at S4.out 1 rfl 1 rfl, Bag.cell_at S4.out 1 rfl 2 rfl, (HK.out _ S4.out.old).1, (HK.out _ S4.out.old).2.1, (HK.out _ S4.out.old).2.2.1, (HK.out _ S4.out.old).2.2.2, (HK2.out _ S4.out.old).1, (HK2.out _ S4.out.old).2.1, (HK2.out _ S4.out.old).2.2.1, (HK2.out _ S4.out.old).2.2.2⟩ (fun hS => ?_)
                clear hK K
                try simp only [zp0, zp1, zp2, zp3, zp4]
                refine tk 27 rfl ?_
                try simp only [zp0, zp1, zp2, zp3, zp4]
                refine tk 28 rfl ?_
                try simp only [zp0, zp1, zp2, zp3, zp4]
                refine wpAnyH_done (by kernel_rfl) ?_ _
                have f0 : World.cell? _ ⟨w.heap.size, 0, none⟩ = some (.string name) := Bag.cell_at S4.out 0 rfl 0 rfl
                have f1 : World.cell? _ ⟨w.heap.size, 1, none⟩ = some (.slice (some ad) N c) := Bag.cell_at S4.out 0 rfl 1 rfl
                have f2 : World.cell? _ ⟨w.heap.size, 2, none⟩ = some (.int .i64 auto) := Bag.cell_at S4.out 0 rfl 2 rfl
                have f3 : World.cell? _ ⟨w.heap.size + 1, 0, none⟩ = some (.string name2) := Bag.cell_at S4.out 1 rfl 0 rfl
                have f4 : World.cell? _ ⟨w.heap.size + 1, 1, none⟩ = some (.slice (some ad2) N c2) := Bag.cell_at S4.out 1 rfl 1 rfl
                have f5 : World.cell? _ ⟨w.heap.size + 1, 2, none⟩ = some (.int .i64 auto2) := Bag.cell_at S4.out 1 rfl 2 rfl
                have f6 : World.cell? _ (ad.add (k * 4)) = some (.int .i64 kd) := (HK.out _ S4.out.old).1
                have f7 : World.cell? _ (⟨(ad.add (k * 4)).block, (ad.add (k * 4)).off + 1, none⟩) = some (.int .i64 n) := (HK.out _ S4.out.old).2.1
                have f8 : World.cell? _ (⟨(ad.add (k * 4)).block, (ad.add (k * 4)).off + 2, none⟩) = some (.string t) := (HK.out _ S4.out.old).2.2.1
                have f9 : World.cell? _ (⟨(ad.add (k * 4)).block, (ad.add (k * 4)).off + 3, none⟩) = some (.slice ia l.length ic) := (HK.out _ S4.out.old).2.2.2
                have f10 : World.cell? _ (ad2.add (k * 4)) = some (.int .i64 kd2) := (HK2.out _ S4.out.old).1
                have f11 : World.cell? _ (⟨(ad2.add (k * 4)).block, (ad2.add (k * 4)).off + 1, none⟩) = some (.int .i64 n2) := (HK2.out _ S4.out.old).2.1
                have f12 : World.cell? _ (⟨(ad2.add (k * 4)).block, (ad2.add (k * 4)).off + 2, none⟩) = some (.string t2) := (HK2.out _ S4.out.old).2.2.1
                have f13 : World.cell? _ (⟨(ad2.add (k * 4)).block, (ad2.add (k * 4)).off + 3, none⟩) = some (.slice ia2 l2.length ic2) := (HK2.out _ S4.out.old).2.2.2
                go_wp2_with fail
                go_roundw
                case rel => exact ⟨k + 1, by omega, by go_num, And.intro (fun j h1 h2 h => by
                  by_cases e : j < k
                  · exact HA.out j h1 h2 e
                  · obtain rfl : j = k := by omega
                    rw [(List.getElem?_eq_some_iff.1 HC.out).2, (List.getElem?_eq_some_iff.1 HC2.out).2]; dsimp only; rw [HBK.out, HBR.out]; rfl) S4.out⟩
                case measure => simp [intOf]; omega
          · skip
            have HI := Lib.hid (eqI_all (xs := conI xs) (ys := conI xs2) (by rw [conI_length, conI_length, ← HN.out, ← HN2.out]) (fun j h1 h2 => HA.out j h1 h2 (by rw [conI_length] at h1; have := HN.out; omega)))
            have f0 : World.cell? _ ⟨w.heap.size, 0, none⟩ = some (.string name) := Bag.cell_at S2.out 0 rfl 0 rfl
            have f1 : World.cell? _ ⟨w.heap.size, 1, none⟩ = some (.slice a N c) := Bag.cell_at S2.out 0 rfl 1 rfl
            have f2 : World.cell? _ ⟨w.heap.size, 2, none⟩ = some (.int .i64 auto) := Bag.cell_at S2.out 0 rfl 2 rfl
            have f3 : World.cell? _ ⟨w.heap.size + 1, 0, none⟩ = some (.string name2) := Bag.cell_at S2.out 1 rfl 0 rfl
            have f4 : World.cell? _ ⟨w.heap.size + 1, 1, none⟩ = some (.slice a2 N c2) := Bag.cell_at S2.out 1 rfl 1 rfl
            have f5 : World.cell? _ ⟨w.heap.size + 1, 2, none⟩ = some (.int .i64 auto2) := Bag.cell_at S2.out 1 rfl 2 rfl
            go_wp2_with fail
            go_ret
            exact ⟨by rw [HB.out, HI.out]; rfl, S2.out.old⟩
      · have hne : ((N : Int) == (N2 : Int)) = false := by simp; omega
        have HI := Lib.hid (eqI_len (xs := conI xs) (ys := conI xs2) (by rw [conI_length, conI_length, ← HN.out, ← HN2.out]; exact hN))
        go_wp2_with fail
        go_ret
        exact ⟨by rw [HB.out, HI.out]; rfl, S1.out.old⟩
end Go.Proofs.Ytboefioalkjdaaa.L6

/-
  The contracts of chapter 8's SizeDatabase and EqualDatabases of the specification. Conditions: names of at most 2^48 bytes, at most 2^20 stores, indexes, items and fields. (Written by my program gen_l8h.py.)
-/
namespace Go.Proofs.Ytboefioalkjdaaa.L8
set_option maxRecDepth 100000
open V L6 L7
open L4 (K isK cmpK)
open L5 (F isR isN string_geq)
open Go.Op (bytesLess)
open Go.ChangeShapes Go.WideShapes Go.ChangeAt Go.RowKit Mem Sl Ex L2 Sv Bag
set_option linter.unusedVariables false
set_option linter.unusedSimpArgs false

def eqSs (xs ys : List S6) : Bool := xs.length == ys.length && (xs.zip ys).all fun p => eqS p.1 p.2
def eqXs (xs ys : List X_IndexDef) : Bool := xs.length == ys.length && (xs.zip ys).all fun p => eqX p.1 p.2
theorem eqD_eq (a b : X_Database) : eqD a b = (a.f_Name.toList == b.f_Name.toList && (a.f_Version == b.f_Version && (eqSs a.f_Stores b.f_Stores && eqXs a.f_Unique b.f_Unique))) := rfl
theorem zip_len {α : Type} {f : α → α → Bool} {xs ys : List α} (h : ¬ xs.length = ys.length) : (xs.length == ys.length && (xs.zip ys).all fun p => f p.1 p.2) = false := by
  rw [show (xs.length == ys.length) = false by simpa using h]; rfl
theorem zip_yes {α : Type} {f : α → α → Bool} {xs ys : List α} (h : xs.length = ys.length) (ha : ∀ j (h1 : j < xs.length) (h2 : j < ys.length), f xs[j] ys[j] = true) : (xs.length == ys.length && (xs.zip ys).all fun p => f p.1 p.2) = true := by
  rw [h, beq_self_eq_true, Bool.true_and, List.all_eq_true]
  intro p hp
  obtain ⟨j, hj, rfl⟩ := List.mem_iff_getElem.1 hp
  rw [List.getElem_zip]
  exact ha j _ _
theorem zip_no {α : Type} {f : α → α → Bool} {xs ys : List α} (j : Nat) (h1 : j < xs.length) (h2 : j < ys.length) (h : f xs[j] ys[j] = false) : (xs.length == ys.length && (xs.zip ys).all fun p => f p.1 p.2) = false := by
  cases he : (xs.length == ys.length && (xs.zip ys).all fun p => f p.1 p.2) with
  | false => rfl
  | true =>
    rw [Bool.and_eq_true, List.all_eq_true] at he
    have h3 := he.2 (xs[j], ys[j]) (by rw [List.mem_iff_getElem]; exact ⟨j, by rw [List.length_zip]; omega, by rw [List.getElem_zip]⟩)
    dsimp only at h3
    rw [h] at h3
    cases h3
theorem len_of {α : Type} {xs : List α} {k : Nat} {x : α} (h : xs[k]? = some x) : k < xs.length := (List.getElem?_eq_some_iff.1 h).1
theorem val_of {α : Type} {xs : List α} {k : Nat} {x : α} (h : xs[k]? = some x) : xs[k]'(len_of h) = x := (List.getElem?_eq_some_iff.1 h).2

set_option maxHeartbeats 8000000 in
theorem specEqualDatabases_any (z z2 : Y_Database) (hf : FitD (co_Database z)) (hf2 : FitD (co_Database z2)) (w : World) (hr : RowsRd w w.heap.size (rw_Database z)) (hr2 : RowsRd w w.heap.size (rw_Database z2)) :
    Calls Try.prog 16 #[vv_Database z, vv_Database z2] w fun e w' => e = .returned (.bool (eqD (co_Database z) (co_Database z2))) ∧ Below w.heap.size w w' := by
  have HR : Hid (∀ w' (h : Below w.heap.size w w'), Reads w' w.heap.size z.f_Stores_a (z.f_Stores.flatMap cl_Store)) := Lib.hid (fun w' h => (rdS hr).below h)
  have HX : Hid (∀ w' (h : Below w.heap.size w w'), RowsRd w' w'.heap.size (rws_Store z.f_Stores)) := Lib.hid (fun w' h => ((rdX hr).below h).more h.size)
  have HU : Hid (∀ w' (h : Below w.heap.size w w'), Reads w' w.heap.size z.f_Unique_a (z.f_Unique.flatMap cl_IndexDef)) := Lib.hid (fun w' h => (rdU hr).below h)
  have HFD := Lib.hid hf
  have HFDl : z.f_Stores.length ≤ 1048576 := by have h := hf.len; rwa [co_len] at h
  have HFDm : z.f_Unique.length ≤ 1048576 := hf.many
  clear hf hr
  obtain ⟨name, ver, sa, sc, ss, ua, uc, us⟩ := z
  dsimp only [co_Database] at HR HX HU HFD HFDl HFDm
  try unfold vv_Database
  try unfold co_Database
  try dsimp only
  try rw [show coS_IndexDef us = us from rfl]
  rw [show coS_IndexDef us = us from rfl] at HFD
  obtain ⟨N, hN⟩ : ∃ n, n = ss.length := ⟨_, rfl⟩
  obtain ⟨M, hM⟩ : ∃ n, n = us.length := ⟨_, rfl⟩
  rw [← hN] at HFDl ⊢
  rw [← hM] at HFDm ⊢
  have HFDl' : (N : Int) ≤ 1048576 := by omega
  have HFDm' : (M : Int) ≤ 1048576 := by omega
  have HN := Lib.hid hN
  have HM := Lib.hid hM
  clear hN hM
  have HR2 : Hid (∀ w' (h : Below w.heap.size w w'), Reads w' w.heap.size z2.f_Stores_a (z2.f_Stores.flatMap cl_Store)) := Lib.hid (fun w' h => (rdS hr2).below h)
  have HX2 : Hid (∀ w' (h : Below w.heap.size w w'), RowsRd w' w'.heap.size (rws_Store z2.f_Stores)) := Lib.hid (fun w' h => ((rdX hr2).below h).more h.size)
  have HU2 : Hid (∀ w' (h : Below w.heap.size w w'), Reads w' w.heap.size z2.f_Unique_a (z2.f_Unique.flatMap cl_IndexDef)) := Lib.hid (fun w' h => (rdU hr2).below h)
  have HFD2 := Lib.hid hf2
  have HFD2l : z2.f_Stores.length ≤ 1048576 := by have h := hf2.len; rwa [co_len] at h
  have HFD2m : z2.f_Unique.length ≤ 1048576 := hf2.many
  clear hf2 hr2
  obtain ⟨name2, ver2, sa2, sc2, ss2, ua2, uc2, us2⟩ := z2
  dsimp only [co_Database] at HR2 HX2 HU2 HFD2 HFD2l HFD2m
  try unfold vv_Database
  try unfold co_Database
  try dsimp only
  try rw [show coS_IndexDef us2 = us2 from rfl]
  rw [show coS_IndexDef us2 = us2 from rfl] at HFD2
  obtain ⟨N2, hN2⟩ : ∃ n, n = ss2.length := ⟨_, rfl⟩
  obtain ⟨M2, hM2⟩ : ∃ n, n = us2.length := ⟨_, rfl⟩
  rw [← hN2] at HFD2l ⊢
  rw [← hM2] at HFD2m ⊢
  have HFD2l' : (N2 : Int) ≤ 1048576 := by omega
  have HFD2m' : (M2 : Int) ≤ 1048576 := by omega
  have HN2 := Lib.hid hN2
  have HM2 := Lib.hid hM2
  clear hN2 hM2
  rw [eqD_eq]
  dsimp only
  obtain ⟨be, hbe⟩ : ∃ b, (name.toList == name2.toList && (ver == ver2 && (eqSs (coS_Store ss) (coS_Store ss2) && eqXs us us2))) = b := ⟨_, rfl⟩
  rw [hbe]
  have HE := Lib.hid hbe.symm
  clear hbe
  have HSL := Lib.hid (show (coS_Store ss).length = N ∧ (coS_Store ss2).length = N2 from by rw [coS_len, coS_len, HN.out, HN2.out]; exact ⟨rfl, rfl⟩)
  have S1 := Lib.hid (show Sl.Sep w ((w.alloc (.cells #[.string name, .int .i64 ver, .slice sa N sc, .slice ua M uc] 31)).alloc (.cells #[.string name2, .int .i64 ver2, .slice sa2 N2 sc2, .slice ua2 M2 uc2] 31)) [L4.boxR w.heap.size 31 #[.string name, .int .i64 ver, .slice sa N sc, .slice ua M uc], L4.boxR (w.heap.size + 1) 31 #[.string name2, .int .i64 ver2, .slice sa2 N2 sc2, .slice ua2 M2 uc2]] from L4.push_box (L4.push_box (Sl.Sep.start w) 31 #[.string name, .int .i64 ver, .slice sa N sc, .slice ua M uc] (w.heap.size) (by simp)) 31 #[.string name2, .int .i64 ver2, .slice sa2 N2 sc2, .slice ua2 M2 uc2] (w.heap.size + 1) (by simp))
  obtain ⟨wa, hwa⟩ : ∃ w_, w_ = ((w.alloc (.cells #[.string name, .int .i64 ver, .slice sa N sc, .slice ua M uc] 31)).alloc (.cells #[.string name2, .int .i64 ver2, .slice sa2 N2 sc2, .slice ua2 M2 uc2] 31)) := ⟨_, rfl⟩
  rw [← hwa] at S1
  go_enter Try.func16, Try.ntmps16
  go_upto_region 1 with fail
  rw [← hwa]
  clear hwa
  have hh := Bag.cs4 S1.out 0 rfl
  have f0 := hh.1; have f1 := hh.2.1; have f2 := hh.2.2.1; have f3 := hh.2.2.2; clear hh
  have hh := Bag.cs4 S1.out 1 rfl
  have f4 := hh.1; have f5 := hh.2.1; have f6 := hh.2.2.1; have f7 := hh.2.2.2; clear hh
  cases hn : name.toList == name2.toList with
  | false =>
    have HB := Lib.hid (show be = false from by rw [HE.out, hn]; rfl)
    go_wp2_with fail
    go_ret
    exact ⟨by rw [HB.out] <;> rfl, S1.out.old⟩
  | true =>
    cases hu : ver == ver2 with
    | false =>
      have hu2 : (ver != ver2) = true := by rw [bne, hu]; rfl
      have HB := Lib.hid (show be = false from by rw [HE.out, hn, hu]; rfl)
      go_wp2_with fail
      go_ret
      exact ⟨by rw [HB.out] <;> rfl, S1.out.old⟩
    | true =>
      have hu2 : (ver != ver2) = false := by rw [bne, hu]; rfl
      have HB := Lib.hid (show be = (eqSs (coS_Store ss) (coS_Store ss2) && eqXs us us2) from by rw [HE.out, hn, hu]; rfl)
      by_cases hN : N = N2
      rotate_left
      · have hne : ((N : Int) == (N2 : Int)) = false := by simp; omega
        have HI := Lib.hid (show eqSs (coS_Store ss) (coS_Store ss2) = false from zip_len (by rw [HSL.out.1, HSL.out.2]; exact hN))
        go_wp2_with fail
        go_ret
        exact ⟨by rw [HB.out, HI.out, Bool.false_and] <;> rfl, S1.out.old⟩
      subst hN
      by_cases hM : M = M2
      rotate_left
      · have hne : ((M : Int) == (M2 : Int)) = false := by simp; omega
        have HI := Lib.hid (show eqXs us us2 = false from zip_len (by rw [← HM.out, ← HM2.out]; exact hM))
        go_wp2_with fail
        go_ret
        exact ⟨by rw [HB.out, HI.out, Bool.and_false] <;> rfl, S1.out.old⟩
      subst hM
      go_wp2_with fail
      clear f0 f1 f2 f3 f4 f5 f6 f7
      go_loopw [5] (fun i wr => ∃ k : Nat, k ≤ N ∧ i = .int .i64 k ∧ Hid ((∀ j (h1 : j < (coS_Store ss).length) (h2 : j < (coS_Store ss2).length), j < k → eqS (coS_Store ss)[j] (coS_Store ss2)[j] = true) ∧ Sl.Sep w wr [L4.boxR w.heap.size 31 #[.string name, .int .i64 ver, .slice sa N sc, .slice ua M uc], L4.boxR (w.heap.size + 1) 31 #[.string name2, .int .i64 ver2, .slice sa2 N sc2, .slice ua2 M uc2]])) (fun i _ => N - (intOf i).toNat)
      case atStart => exact ⟨0, Nat.zero_le _, rfl, And.intro (fun j h1 h2 h => absurd h (by omega)) S1.out⟩
      case round =>
        obtain ⟨k, hk, rfl, hrel⟩ := hrel
        have HA := Lib.hid hrel.out.1
        have S2 := Lib.hid hrel.out.2
        clear hrel S1
        by_cases hlt : (k : Int) < (N : Int)
        · skip
          have hkl : k < ss.length := by have := HN.out; omega
          have hkl2 : k < ss2.length := by have := HN2.out; omega
          obtain ⟨x, hx⟩ : ∃ x, ss[k]? = some x := ⟨_, List.getElem?_eq_getElem hkl⟩
          obtain ⟨sad, e'⟩ := el_some cl_Store_len (by decide) (HR.out _ S2.out.old) hkl
          subst e'
          have HKx := Lib.hid (fun w' (h : Below w.heap.size w w') => el3 cl_Store_len (HR.out _ h) hx rfl)
          have HRx := Lib.hid (fun w' (h : Below w.heap.size w w') => rd_store (HX.out w' h) hx)
          have HFx := Lib.hid (fit_store HFD.out.stores hx)
          have HCx := Lib.hid (coS_at hx)
          clear hx
          obtain ⟨y, hy⟩ : ∃ x, ss2[k]? = some x := ⟨_, List.getElem?_eq_getElem hkl2⟩
          obtain ⟨sad2, e'⟩ := el_some cl_Store_len (by decide) (HR2.out _ S2.out.old) hkl2
          subst e'
          have HKy := Lib.hid (fun w' (h : Below w.heap.size w w') => el3 cl_Store_len (HR2.out _ h) hy rfl)
          have HRy := Lib.hid (fun w' (h : Below w.heap.size w w') => rd_store (HX2.out w' h) hy)
          have HFy := Lib.hid (fit_store HFD2.out.stores hy)
          have HCy := Lib.hid (coS_at hy)
          clear hy
          have HEQ := fun w' (h : Below w.heap.size w w') => specEqualStores_any x y HFx.out HFy.out w' (HRx.out w' h) (HRy.out w' h)
          obtain ⟨b, hb⟩ : ∃ b, eqS x.con y.con = b := ⟨_, rfl⟩
          rw [hb] at HEQ
          dsimp only [LS.v, LS.cells] at HEQ
          replace HEQ := Lib.hid HEQ
          have HBK := Lib.hid hb
          clear hb
          have hh := Bag.cs4 S2.out 0 rfl
          have f0 := hh.1; have f1 := hh.2.1; have f2 := hh.2.2.1; have f3 := hh.2.2.2; clear hh
          have hh := Bag.cs4 S2.out 1 rfl
          have f4 := hh.1; have f5 := hh.2.1; have f6 := hh.2.2.1; have f7 := hh.2.2.2; clear hh
          have hh := HKx.out _ S2.out.old
          have f8 := hh.1; have f9 := hh.2.1; have f10 := hh.2.2; clear hh
          have hh := HKy.out _ S2.out.old
          have f11 := hh.1; have f12 := hh.2.1; have f13 := hh.2.2; clear hh
          cases b with
          | false =>
            go_upto_region 6 with fail
            clear f0 f1 f2 f3 f4 f5 f6 f7 f8 f9 f10 f11 f12 f13
            refine wp_region_held_drew (S := (fun w' => (World.cell? w' ⟨w.heap.size, 0, none⟩ = some (.string name) ∧ World.cell? w' ⟨w.heap.size, 1, none⟩ = some (.int .i64 ver) ∧ World.cell? w' ⟨w.heap.size, 2, none⟩ = some (.slice (some sad) N sc) ∧ World.cell? w' ⟨w.heap.size, 3, none⟩ = some (.slice ua M uc)) ∧ (World.cell? w' ⟨w.heap.size + 1, 0, none⟩ = some (.string name2) ∧ World.cell? w' ⟨w.heap.size + 1, 1, none⟩ = some (.int .i64 ver2) ∧ World.cell? w' ⟨w.heap.size + 1, 2, none⟩ = some (.slice (some sad2) N sc2) ∧ World.cell? w' ⟨w.heap.size + 1, 3, none⟩ = some (.slice ua2 M uc2)) ∧ (World.cell? w' (sad.add (k * 3)) = some (.string x.name) ∧ World.cell? w' (⟨(sad.add (k * 3)).block, (sad.add (k * 3)).off + 1, none⟩) = some (.slice x.a x.xs.length x.c) ∧ World.cell? w' (⟨(sad.add (k * 3)).block, (sad.add (k * 3)).off + 2, none⟩) = some (.int .i64 x.auto)) ∧ (World.cell? w' (sad2.add (k * 3)) = some (.string y.name) ∧ World.cell? w' (⟨(sad2.add (k * 3)).block, (sad2.add (k * 3)).off + 1, none⟩) = some (.slice y.a y.xs.length y.c) ∧ World.cell? w' (⟨(sad2.add (k * 3)).block, (sad2.add (k * 3)).off + 2, none⟩) = some (.int .i64 y.auto)))) (by kernel_rfl) ⟨Bag.cs4 (Bag.drew1 S2.out) 0 rfl, Bag.cs4 (Bag.drew1 S2.out) 1 rfl, HKx.out _ (Bag.drew1 S2.out).old, HKy.out _ (Bag.drew1 S2.out).old⟩ (fun hS => ?_)
            have S3 := Lib.hid (show Sl.Sep w _ [L4.boxR w.heap.size 31 #[.string name, .int .i64 ver, .slice (some sad) N sc, .slice ua M uc], L4.boxR (w.heap.size + 1) 31 #[.string name2, .int .i64 ver2, .slice (some sad2) N sc2, .slice ua2 M uc2]] from Bag.drew1 S2.out)
            clear S2
            generalize World.drew _ = w1 at hS S3 ⊢
            refine tk 0 rfl ?_
            try simp only [zp0, zp1, zp2, zp3, zp4]
            refine tk 1 rfl ?_
            try simp only [zp0, zp1, zp2, zp3, zp4]
            refine tk 2 rfl ?_
            try simp only [zp0, zp1, zp2, zp3, zp4]
            refine tk 3 rfl ?_
            try simp only [zp0, zp1, zp2, zp3, zp4]
            refine tk 4 rfl ?_
            try simp only [zp0, zp1, zp2, zp3, zp4]
            refine tk 5 rfl ?_
            try simp only [zp0, zp1, zp2, zp3, zp4]
            refine tk 6 rfl ?_
            try simp only [zp0, zp1, zp2, zp3, zp4]
            refine tk 7 rfl ?_
            try simp only [zp0, zp1, zp2, zp3, zp4]
            refine tk 8 rfl ?_
            try simp only [zp0, zp1, zp2, zp3, zp4]
            refine tk 9 rfl ?_
            try simp only [zp0, zp1, zp2, zp3, zp4]
            refine Reg.one_op (i := 10) rfl (by kernel_rfl) (fun K hK => ?_)
            go_simp
            go_at_call 36
            refine (HEQ.out _ S3.out.old).mono ?_
            rintro e w2 ⟨rfl, hb⟩
            have S4 := Lib.hid (S3.out.keep hb)
            clear S3
            clear hb
            go_wp2_with fail
            refine hK.out _ _ ⟨Bag.cs4 S4.out 0 rfl, Bag.cs4 S4.out 1 rfl, HKx.out _ S4.out.old, HKy.out _ S4.out.old⟩ (fun hS => ?_)
            clear hK K
            try simp only [zp0, zp1, zp2, zp3, zp4]
            refine tk 11 rfl ?_
            try simp only [zp0, zp1, zp2, zp3, zp4]
            refine wpAnyH_done (by kernel_rfl) ?_ _
            have hh := Bag.cs4 S4.out 0 rfl
            have f0 := hh.1; have f1 := hh.2.1; have f2 := hh.2.2.1; have f3 := hh.2.2.2; clear hh
            have hh := Bag.cs4 S4.out 1 rfl
            have f4 := hh.1; have f5 := hh.2.1; have f6 := hh.2.2.1; have f7 := hh.2.2.2; clear hh
            have hh := HKx.out _ S4.out.old
            have f8 := hh.1; have f9 := hh.2.1; have f10 := hh.2.2; clear hh
            have hh := HKy.out _ S4.out.old
            have f11 := hh.1; have f12 := hh.2.1; have f13 := hh.2.2; clear hh
            have HNO := Lib.hid (show eqSs (coS_Store ss) (coS_Store ss2) = false from zip_no k (len_of HCx.out) (len_of HCy.out) (by rw [val_of HCx.out, val_of HCy.out]; exact HBK.out))
            go_wp2_with fail
            go_ret
            exact ⟨by rw [HB.out, HNO.out, Bool.false_and] <;> rfl, S4.out.old⟩
          | true =>
            go_upto_region 6 with fail
            clear f0 f1 f2 f3 f4 f5 f6 f7 f8 f9 f10 f11 f12 f13
            refine wp_region_held_drew (S := (fun w' => (World.cell? w' ⟨w.heap.size, 0, none⟩ = some (.string name) ∧ World.cell? w' ⟨w.heap.size, 1, none⟩ = some (.int .i64 ver) ∧ World.cell? w' ⟨w.heap.size, 2, none⟩ = some (.slice (some sad) N sc) ∧ World.cell? w' ⟨w.heap.size, 3, none⟩ = some (.slice ua M uc)) ∧ (World.cell? w' ⟨w.heap.size + 1, 0, none⟩ = some (.string name2) ∧ World.cell? w' ⟨w.heap.size + 1, 1, none⟩ = some (.int .i64 ver2) ∧ World.cell? w' ⟨w.heap.size + 1, 2, none⟩ = some (.slice (some sad2) N sc2) ∧ World.cell? w' ⟨w.heap.size + 1, 3, none⟩ = some (.slice ua2 M uc2)) ∧ (World.cell? w' (sad.add (k * 3)) = some (.string x.name) ∧ World.cell? w' (⟨(sad.add (k * 3)).block, (sad.add (k * 3)).off + 1, none⟩) = some (.slice x.a x.xs.length x.c) ∧ World.cell? w' (⟨(sad.add (k * 3)).block, (sad.add (k * 3)).off + 2, none⟩) = some (.int .i64 x.auto)) ∧ (World.cell? w' (sad2.add (k * 3)) = some (.string y.name) ∧ World.cell? w' (⟨(sad2.add (k * 3)).block, (sad2.add (k * 3)).off + 1, none⟩) = some (.slice y.a y.xs.length y.c) ∧ World.cell? w' (⟨(sad2.add (k * 3)).block, (sad2.add (k * 3)).off + 2, none⟩) = some (.int .i64 y.auto)))) (by kernel_rfl) ⟨Bag.cs4 (Bag.drew1 S2.out) 0 rfl, Bag.cs4 (Bag.drew1 S2.out) 1 rfl, HKx.out _ (Bag.drew1 S2.out).old, HKy.out _ (Bag.drew1 S2.out).old⟩ (fun hS => ?_)
            have S3 := Lib.hid (show Sl.Sep w _ [L4.boxR w.heap.size 31 #[.string name, .int .i64 ver, .slice (some sad) N sc, .slice ua M uc], L4.boxR (w.heap.size + 1) 31 #[.string name2, .int .i64 ver2, .slice (some sad2) N sc2, .slice ua2 M uc2]] from Bag.drew1 S2.out)
            clear S2
            generalize World.drew _ = w1 at hS S3 ⊢
            refine tk 0 rfl ?_
            try simp only [zp0, zp1, zp2, zp3, zp4]
            refine tk 1 rfl ?_
            try simp only [zp0, zp1, zp2, zp3, zp4]
            refine tk 2 rfl ?_
            try simp only [zp0, zp1, zp2, zp3, zp4]
            refine tk 3 rfl ?_
            try simp only [zp0, zp1, zp2, zp3, zp4]
            refine tk 4 rfl ?_
            try simp only [zp0, zp1, zp2, zp3, zp4]
            refine tk 5 rfl ?_
            try simp only [zp0, zp1, zp2, zp3, zp4]
            refine tk 6 rfl ?_
            try simp only [zp0, zp1, zp2, zp3, zp4]
            refine tk 7 rfl ?_
            try simp only [zp0, zp1, zp2, zp3, zp4]
            refine tk 8 rfl ?_
            try simp only [zp0, zp1, zp2, zp3, zp4]
            refine tk 9 rfl ?_
            try simp only [zp0, zp1, zp2, zp3, zp4]
            refine Reg.one_op (i := 10) rfl (by kernel_rfl) (fun K hK => ?_)
            go_simp
            go_at_call 36
            refine (HEQ.out _ S3.out.old).mono ?_
            rintro e w2 ⟨rfl, hb⟩
            have S4 := Lib.hid (S3.out.keep hb)
            clear S3
            clear hb
            go_wp2_with fail
            refine hK.out _ _ ⟨Bag.cs4 S4.out 0 rfl, Bag.cs4 S4.out 1 rfl, HKx.out _ S4.out.old, HKy.out _ S4.out.old⟩ (fun hS => ?_)
            clear hK K
            try simp only [zp0, zp1, zp2, zp3, zp4]
            refine tk 11 rfl ?_
            try simp only [zp0, zp1, zp2, zp3, zp4]
            refine wpAnyH_done (by kernel_rfl) ?_ _
            have hh := Bag.cs4 S4.out 0 rfl
            have f0 := hh.1; have f1 := hh.2.1; have f2 := hh.2.2.1; have f3 := hh.2.2.2; clear hh
            have hh := Bag.cs4 S4.out 1 rfl
            have f4 := hh.1; have f5 := hh.2.1; have f6 := hh.2.2.1; have f7 := hh.2.2.2; clear hh
            have hh := HKx.out _ S4.out.old
            have f8 := hh.1; have f9 := hh.2.1; have f10 := hh.2.2; clear hh
            have hh := HKy.out _ S4.out.old
            have f11 := hh.1; have f12 := hh.2.1; have f13 := hh.2.2; clear hh
            go_wp2_with fail
            go_roundw
            case rel => exact ⟨k + 1, by omega, by go_num, And.intro (fun j h1 h2 h => by
              by_cases e : j < k
              · exact HA.out j h1 h2 e
              · obtain rfl : j = k := by omega
                rw [val_of HCx.out, val_of HCy.out]; exact HBK.out) S4.out⟩
            case measure => simp [intOf]; omega
        · skip
          have HI := Lib.hid (show eqSs (coS_Store ss) (coS_Store ss2) = true from zip_yes (by rw [HSL.out.1, HSL.out.2]) (fun j h1 h2 => HA.out j h1 h2 (by rw [HSL.out.1] at h1; omega)))
          clear HA
          have hh := Bag.cs4 S2.out 0 rfl
          have f0 := hh.1; have f1 := hh.2.1; have f2 := hh.2.2.1; have f3 := hh.2.2.2; clear hh
          have hh := Bag.cs4 S2.out 1 rfl
          have f4 := hh.1; have f5 := hh.2.1; have f6 := hh.2.2.1; have f7 := hh.2.2.2; clear hh
          go_wp2_with fail
          clear f0 f1 f2 f3 f4 f5 f6 f7
          clear hlt hk
          go_loopw [6] (fun i wr2 => ∃ k : Nat, k ≤ M ∧ i = .int .i64 k ∧ Hid ((∀ j (h1 : j < us.length) (h2 : j < us2.length), j < k → eqX us[j] us2[j] = true) ∧ Sl.Sep w wr2 [L4.boxR w.heap.size 31 #[.string name, .int .i64 ver, .slice sa N sc, .slice ua M uc], L4.boxR (w.heap.size + 1) 31 #[.string name2, .int .i64 ver2, .slice sa2 N sc2, .slice ua2 M uc2]])) (fun i _ => M - (intOf i).toNat)
          case atStart => exact ⟨0, Nat.zero_le _, rfl, And.intro (fun j h1 h2 h => absurd h (by omega)) S2.out⟩
          case round =>
            skip
            obtain ⟨k2, hk, rfl, hrel⟩ := hrel
            have HA := Lib.hid hrel.out.1
            have S3 := Lib.hid hrel.out.2
            clear hrel S2
            by_cases hlt : (k2 : Int) < (M : Int)
            · skip
              have hkl : k2 < us.length := by have := HM.out; omega
              have hkl2 : k2 < us2.length := by have := HM2.out; omega
              obtain ⟨u, hu⟩ : ∃ x, us[k2]? = some x := ⟨_, List.getElem?_eq_getElem hkl⟩
              obtain ⟨uad, e'⟩ := el_some cl_IndexDef_len (by decide) (HU.out _ S3.out.old) hkl
              subst e'
              have HKu := Lib.hid (fun w' (h : Below w.heap.size w w') => el2 cl_IndexDef_len (HU.out _ h) hu rfl)
              have HFu := Lib.hid (HFD.out.unique _ (List.mem_of_getElem? hu))
              have HCu := Lib.hid hu
              clear hu
              obtain ⟨v, hv⟩ : ∃ x, us2[k2]? = some x := ⟨_, List.getElem?_eq_getElem hkl2⟩
              obtain ⟨uad2, e'⟩ := el_some cl_IndexDef_len (by decide) (HU2.out _ S3.out.old) hkl2
              subst e'
              have HKv := Lib.hid (fun w' (h : Below w.heap.size w w') => el2 cl_IndexDef_len (HU2.out _ h) hv rfl)
              have HFv := Lib.hid (HFD2.out.unique _ (List.mem_of_getElem? hv))
              have HCv := Lib.hid hv
              clear hv
              obtain ⟨b, hb⟩ : ∃ b, eqX u v = b := ⟨_, rfl⟩
              have HE2 := fun w => index_eq u v w
              rw [hb] at HE2
              have HBK := Lib.hid hb
              clear hb
              have hh := Bag.cs4 S3.out 0 rfl
              have f0 := hh.1; have f1 := hh.2.1; have f2 := hh.2.2.1; have f3 := hh.2.2.2; clear hh
              have hh := Bag.cs4 S3.out 1 rfl
              have f4 := hh.1; have f5 := hh.2.1; have f6 := hh.2.2.1; have f7 := hh.2.2.2; clear hh
              have hh := HKu.out _ S3.out.old
              have f8 := hh.1; have f9 := hh.2; clear hh
              have hh := HKv.out _ S3.out.old
              have f10 := hh.1; have f11 := hh.2; clear hh
              cases b with
              | false =>
                go_upto_region 11 with fail
                clear f0 f1 f2 f3 f4 f5 f6 f7 f8 f9 f10 f11
                refine wp_region_held_drew (S := (fun w' => (World.cell? w' ⟨w.heap.size, 0, none⟩ = some (.string name) ∧ World.cell? w' ⟨w.heap.size, 1, none⟩ = some (.int .i64 ver) ∧ World.cell? w' ⟨w.heap.size, 2, none⟩ = some (.slice sa N sc) ∧ World.cell? w' ⟨w.heap.size, 3, none⟩ = some (.slice (some uad) M uc)) ∧ (World.cell? w' ⟨w.heap.size + 1, 0, none⟩ = some (.string name2) ∧ World.cell? w' ⟨w.heap.size + 1, 1, none⟩ = some (.int .i64 ver2) ∧ World.cell? w' ⟨w.heap.size + 1, 2, none⟩ = some (.slice sa2 N sc2) ∧ World.cell? w' ⟨w.heap.size + 1, 3, none⟩ = some (.slice (some uad2) M uc2)) ∧ (World.cell? w' (uad.add (k2 * 2)) = some (.string u.f_Store) ∧ World.cell? w' (⟨(uad.add (k2 * 2)).block, (uad.add (k2 * 2)).off + 1, none⟩) = some (.string u.f_Field)) ∧ (World.cell? w' (uad2.add (k2 * 2)) = some (.string v.f_Store) ∧ World.cell? w' (⟨(uad2.add (k2 * 2)).block, (uad2.add (k2 * 2)).off + 1, none⟩) = some (.string v.f_Field)))) (by kernel_rfl) ⟨Bag.cs4 (Bag.drew1 S3.out) 0 rfl, Bag.cs4 (Bag.drew1 S3.out) 1 rfl, HKu.out _ (Bag.drew1 S3.out).old, HKv.out _ (Bag.drew1 S3.out).old⟩ (fun hS => ?_)
                have S4 := Lib.hid (show Sl.Sep w _ [L4.boxR w.heap.size 31 #[.string name, .int .i64 ver, .slice sa N sc, .slice (some uad) M uc], L4.boxR (w.heap.size + 1) 31 #[.string name2, .int .i64 ver2, .slice sa2 N sc2, .slice (some uad2) M uc2]] from Bag.drew1 S3.out)
                clear S3
                generalize World.drew _ = w1 at hS S4 ⊢
                refine tk 0 rfl ?_
                try simp only [zp0, zp1, zp2, zp3, zp4]
                refine tk 1 rfl ?_
                try simp only [zp0, zp1, zp2, zp3, zp4]
                refine tk 2 rfl ?_
                try simp only [zp0, zp1, zp2, zp3, zp4]
                refine tk 3 rfl ?_
                try simp only [zp0, zp1, zp2, zp3, zp4]
                refine tk 4 rfl ?_
                try simp only [zp0, zp1, zp2, zp3, zp4]
                refine tk 5 rfl ?_
                try simp only [zp0, zp1, zp2, zp3, zp4]
                refine tk 6 rfl ?_
                try simp only [zp0, zp1, zp2, zp3, zp4]
                refine tk 7 rfl ?_
                try simp only [zp0, zp1, zp2, zp3, zp4]
                refine tk 8 rfl ?_
                try simp only [zp0, zp1, zp2, zp3, zp4]
                refine tk 9 rfl ?_
                try simp only [zp0, zp1, zp2, zp3, zp4]
                refine tk 10 rfl ?_
                try simp only [zp0, zp1, zp2, zp3, zp4]
                refine wpAnyH_done (by kernel_rfl) ?_ _
                have hh := Bag.cs4 S4.out 0 rfl
                have f0 := hh.1; have f1 := hh.2.1; have f2 := hh.2.2.1; have f3 := hh.2.2.2; clear hh
                have hh := Bag.cs4 S4.out 1 rfl
                have f4 := hh.1; have f5 := hh.2.1; have f6 := hh.2.2.1; have f7 := hh.2.2.2; clear hh
                have hh := HKu.out _ S4.out.old
                have f8 := hh.1; have f9 := hh.2; clear hh
                have hh := HKv.out _ S4.out.old
                have f10 := hh.1; have f11 := hh.2; clear hh
                have HNO := Lib.hid (show eqXs us us2 = false from zip_no k2 (len_of HCu.out) (len_of HCv.out) (by rw [val_of HCu.out, val_of HCv.out]; exact HBK.out))
                go_wp2_with fail
                go_ret
                exact ⟨by rw [HB.out, HI.out, HNO.out, Bool.and_false] <;> rfl, S4.out.old⟩
              | true =>
                go_upto_region 11 with fail
                clear f0 f1 f2 f3 f4 f5 f6 f7 f8 f9 f10 f11
                refine wp_region_held_drew (S := (fun w' => (World.cell? w' ⟨w.heap.size, 0, none⟩ = some (.string name) ∧ World.cell? w' ⟨w.heap.size, 1, none⟩ = some (.int .i64 ver) ∧ World.cell? w' ⟨w.heap.size, 2, none⟩ = some (.slice sa N sc) ∧ World.cell? w' ⟨w.heap.size, 3, none⟩ = some (.slice (some uad) M uc)) ∧ (World.cell? w' ⟨w.heap.size + 1, 0, none⟩ = some (.string name2) ∧ World.cell? w' ⟨w.heap.size + 1, 1, none⟩ = some (.int .i64 ver2) ∧ World.cell? w' ⟨w.heap.size + 1, 2, none⟩ = some (.slice sa2 N sc2) ∧ World.cell? w' ⟨w.heap.size + 1, 3, none⟩ = some (.slice (some uad2) M uc2)) ∧ (World.cell? w' (uad.add (k2 * 2)) = some (.string u.f_Store) ∧ World.cell? w' (⟨(uad.add (k2 * 2)).block, (uad.add (k2 * 2)).off + 1, none⟩) = some (.string u.f_Field)) ∧ (World.cell? w' (uad2.add (k2 * 2)) = some (.string v.f_Store) ∧ World.cell? w' (⟨(uad2.add (k2 * 2)).block, (uad2.add (k2 * 2)).off + 1, none⟩) = some (.string v.f_Field)))) (by kernel_rfl) ⟨Bag.cs4 (Bag.drew1 S3.out) 0 rfl, Bag.cs4 (Bag.drew1 S3.out) 1 rfl, HKu.out _ (Bag.drew1 S3.out).old, HKv.out _ (Bag.drew1 S3.out).old⟩ (fun hS => ?_)
                have S4 := Lib.hid (show Sl.Sep w _ [L4.boxR w.heap.size 31 #[.string name, .int .i64 ver, .slice sa N sc, .slice (some uad) M uc], L4.boxR (w.heap.size + 1) 31 #[.string name2, .int .i64 ver2, .slice sa2 N sc2, .slice (some uad2) M uc2]] from Bag.drew1 S3.out)
                clear S3
                generalize World.drew _ = w1 at hS S4 ⊢
                refine tk 0 rfl ?_
                try simp only [zp0, zp1, zp2, zp3, zp4]
                refine tk 1 rfl ?_
                try simp only [zp0, zp1, zp2, zp3, zp4]
                refine tk 2 rfl ?_
                try simp only [zp0, zp1, zp2, zp3, zp4]
                refine tk 3 rfl ?_
                try simp only [zp0, zp1, zp2, zp3, zp4]
                refine tk 4 rfl ?_
                try simp only [zp0, zp1, zp2, zp3, zp4]
                refine tk 5 rfl ?_
                try simp only [zp0, zp1, zp2, zp3, zp4]
                refine tk 6 rfl ?_
                try simp only [zp0, zp1, zp2, zp3, zp4]
                refine tk 7 rfl ?_
                try simp only [zp0, zp1, zp2, zp3, zp4]
                refine tk 8 rfl ?_
                try simp only [zp0, zp1, zp2, zp3, zp4]
                refine tk 9 rfl ?_
                try simp only [zp0, zp1, zp2, zp3, zp4]
                refine tk 10 rfl ?_
                try simp only [zp0, zp1, zp2, zp3, zp4]
                refine wpAnyH_done (by kernel_rfl) ?_ _
                have hh := Bag.cs4 S4.out 0 rfl
                have f0 := hh.1; have f1 := hh.2.1; have f2 := hh.2.2.1; have f3 := hh.2.2.2; clear hh
                have hh := Bag.cs4 S4.out 1 rfl
                have f4 := hh.1; have f5 := hh.2.1; have f6 := hh.2.2.1; have f7 := hh.2.2.2; clear hh
                have hh := HKu.out _ S4.out.old
                have f8 := hh.1; have f9 := hh.2; clear hh
                have hh := HKv.out _ S4.out.old
                have f10 := hh.1; have f11 := hh.2; clear hh
                go_wp2_with fail
                go_roundw
                case rel => exact ⟨k2 + 1, by omega, by go_num, And.intro (fun j h1 h2 h => by
                  by_cases e : j < k2
                  · exact HA.out j h1 h2 e
                  · obtain rfl : j = k2 := by omega
                    rw [val_of HCu.out, val_of HCv.out]; exact HBK.out) S4.out⟩
                case measure => simp [intOf]; omega
            · skip
              have HI2 := Lib.hid (show eqXs us us2 = true from zip_yes (by rw [← HM.out, ← HM2.out]) (fun j h1 h2 => HA.out j h1 h2 (by have := HM.out; omega)))
              have hh := Bag.cs4 S3.out 0 rfl
              have f0 := hh.1; have f1 := hh.2.1; have f2 := hh.2.2.1; have f3 := hh.2.2.2; clear hh
              have hh := Bag.cs4 S3.out 1 rfl
              have f4 := hh.1; have f5 := hh.2.1; have f6 := hh.2.2.1; have f7 := hh.2.2.2; clear hh
              go_wp2_with fail
              go_ret
              exact ⟨by rw [HB.out, HI.out, HI2.out, Bool.and_true] <;> rfl, S3.out.old⟩
end Go.Proofs.Ytboefioalkjdaaa.L8

/-
  The contract of chapter 5's IsRecord of the program. Conditions: names of at most 2^48 bytes, a record of at most 2^40 fields. (The region that draws its order is written by my program gen_l5ib.py.)
-/
namespace Go.Proofs.Ytboefioalkjdaaa.L5
set_option maxRecDepth 100000
open Go.Op (bytesLess)
open L4 (boxR push_box box_at)
open Go.ChangeShapes Go.WideShapes Go.ChangeAt Go.RowKit Mem Sl Ex L2 Sv
set_option linter.unusedVariables false
set_option linter.unusedSimpArgs false

theorem Row.two {w : World} {g : Nat} {t : TypeId} {x y : Value} (h : Row w g t #[x, y]) : w.cell? ⟨g, 0, none⟩ = some x ∧ w.cell? ⟨g, 1, none⟩ = some y := ⟨by rw [h.cell]; rfl, by rw [h.cell]; rfl⟩
end Go.Proofs.Ytboefioalkjdaaa.L5

/-
  The contracts of chapter 5's EqualRecords of the program, and of the library's slices.Equal over fields. Conditions: at most 2^40 fields.
-/
namespace Go.Proofs.Ytboefioalkjdaaa.L5
set_option maxRecDepth 100000
open L4 (boxR push_box box_at)
open Go.ChangeShapes Go.WideShapes Go.ChangeAt Go.RowKit Mem Sl Ex L2 Sv
set_option linter.unusedVariables false
set_option linter.unusedSimpArgs false

set_option maxHeartbeats 4000000 in
theorem slicesEqualF_any (a b : Option Addr) (c d : Nat) (l m : List F) (hl : l.length ≤ 1099511627776) (hm : m.length ≤ 1099511627776) (w : World) (hr : Reads w w.heap.size a (cellsF l)) (hs : Reads w w.heap.size b (cellsF m)) :
    Calls Try.prog 93 #[.slice a l.length c, .slice b m.length d] w fun e w' => e = .returned (.bool (eqR l m)) ∧ Below w.heap.size w w' := by
  have HR := Lib.hid (fun w' (h : Drew w w') => hr.below (h.below w.heap.size))
  have HS := Lib.hid (fun w' (h : Drew w w') => hs.below (h.below w.heap.size))
  obtain ⟨n, hn⟩ : ∃ n, n = l.length := ⟨_, rfl⟩
  obtain ⟨q, hq⟩ : ∃ q, q = m.length := ⟨_, rfl⟩
  rw [← hn, ← hq]
  rw [← hn] at hl
  rw [← hq] at hm
  have HN := Lib.hid hn
  have HQ := Lib.hid hq
  have hl' : (n : Int) ≤ 1099511627776 := by omega
  have hm' : (q : Int) ≤ 1099511627776 := by omega
  clear hn hq hr hs
  by_cases hlen : (n : Int) = (q : Int)
  · obtain rfl : n = q := by omega
    clear hlen
    go_enter Try.func93, Try.ntmps93
    go_wp2_with fail
    go_loopw [13] (fun i wr => ∃ k : Nat, k ≤ n ∧ i = .int .i64 k ∧ Hid (Drew w wr ∧ ∀ j (h1 : j < l.length) (h2 : j < m.length), j < k → eqF l[j] m[j] = true)) (fun i _ => n - (intOf i).toNat)
    case atStart => exact ⟨0, Nat.zero_le _, rfl, Drew.refl _, fun j _ _ h => by omega⟩
    case round =>
      obtain ⟨k, hk, rfl, hrel⟩ := hrel
      by_cases hlt : (k : Int) < (n : Int)
      · have hkl : k < l.length := by have := HN.out; omega
        have hkm : k < m.length := by have := HQ.out; omega
        obtain ⟨ad, rfl, had, h1, h2⟩ := readsF (HR.out _ hrel.out.1) k hkl
        obtain ⟨bd, rfl, hbd, h3, h4⟩ := readsF (HS.out _ hrel.out.1) k hkm
        obtain ⟨t, ht⟩ : ∃ t, t = l[k].name := ⟨_, rfl⟩
        obtain ⟨x, hx⟩ : ∃ m, m = l[k].n := ⟨_, rfl⟩
        obtain ⟨u, hu⟩ : ∃ t, t = m[k].name := ⟨_, rfl⟩
        obtain ⟨y, hy⟩ : ∃ v, v = m[k].n := ⟨_, rfl⟩
        obtain ⟨bo, hbo⟩ : ∃ b, eqF l[k] m[k] = b := ⟨_, rfl⟩
        have HB := Lib.hid hbo
        have HE := Lib.hid (show (t.toList == u.toList && x == y) = bo by
          rw [← hbo]
          unfold eqF F.t
          rw [← ht, ← hx, ← hu, ← hy, ByteArray.toList_eq, ByteArray.toList_eq])
        rw [← ht] at h1
        rw [← hx] at h2
        rw [← hu] at h3
        rw [← hy] at h4
        clear ht hx hu hy hbo
        have heq := HE.out
        cases bo with
        | true =>
          simp only [Bool.and_eq_true] at heq
          obtain ⟨he1, he2⟩ := heq
          go_wp2_with go_region
          go_roundw
          case rel => exact ⟨k + 1, by omega, by go_num, hrel.out.1.more 1, fun j h1 h2 h => by
            by_cases e : j < k
            · exact hrel.out.2 j h1 h2 e
            · obtain rfl : j = k := by omega
              exact HB.out⟩
          case measure => simp [intOf]; omega
        | false =>
          have HC := Lib.hid (show (t.toList == u.toList) = false ∨ ((t.toList == u.toList) = true ∧ (x == y) = false) by
            cases h : (t.toList == u.toList) with
            | false => exact .inl rfl
            | true => rw [h] at heq; exact .inr ⟨rfl, by simpa using heq⟩)
          clear heq
          rcases HC.out with he1 | ⟨he1, he2⟩
          · go_wp2_with go_region
            go_ret
            exact ⟨by rw [eqR_no k hkl hkm HB.out]; rfl, (hrel.out.1.more 1).below _⟩
          · go_wp2_with go_region
            go_ret
            exact ⟨by rw [eqR_no k hkl hkm HB.out]; rfl, (hrel.out.1.more 1).below _⟩
      · go_wp2_with fail
        go_ret
        exact ⟨by rw [eqR_all (by rw [← HN.out, ← HQ.out]) (fun j h1 h2 => hrel.out.2 j h1 h2 (by have := HN.out; omega))]; rfl, hrel.out.1.below _⟩
  · have hlen' : ((n : Int) == (q : Int)) = false := by rw [beq_eq_false_iff_ne]; exact hlen
    go_enter Try.func93, Try.ntmps93
    go_wp2_with fail
    go_ret
    exact ⟨by rw [eqR_len (by rw [← HN.out, ← HQ.out]; omega)]; rfl, Below.refl _ _⟩
set_option maxHeartbeats 2000000 in
theorem equalRecords_any (a b : Option Addr) (c d : Nat) (l m : List F) (hl : l.length ≤ 1099511627776) (hm : m.length ≤ 1099511627776) (w : World) (hr : Reads w w.heap.size a (cellsF l)) (hs : Reads w w.heap.size b (cellsF m)) :
    Calls Try.prog 79 #[.agg #[.slice a l.length c], .agg #[.slice b m.length d]] w fun e w' => e = .returned (.bool (eqR l m)) ∧ Below w.heap.size w w' := by
  have HE := Lib.hid (fun w' (h : Below w.heap.size w w') => slicesEqualF_any a b c d l m hl hm w' ((hr.below h).more h.size) ((hs.below h).more h.size))
  obtain ⟨n, hn⟩ : ∃ n, n = l.length := ⟨_, rfl⟩
  obtain ⟨q, hq⟩ : ∃ q, q = m.length := ⟨_, rfl⟩
  rw [← hn, ← hq]
  rw [← hn, ← hq] at HE
  obtain ⟨r, hr'⟩ : ∃ r, r = eqR l m := ⟨_, rfl⟩
  rw [← hr'] at HE ⊢
  clear hn hq hr hs hr'
  have S0 := Sep.start w
  have S1 := push_box S0 70 #[.slice a n c] w.heap.size rfl
  have S2 := Lib.hid (push_box S1 70 #[.slice b q d] (w.heap.size + 1) (by simp))
  clear S0 S1
  obtain ⟨W1, hW1⟩ : ∃ u, u = (w.alloc (.cells #[.slice a n c] 70)).alloc (.cells #[.slice b q d] 70) := ⟨_, rfl⟩
  rw [← hW1] at S2
  go_enter Try.func79, Try.ntmps79
  go_upto_region 1 with fail
  rw [← hW1]
  clear hW1
  obtain ⟨r0, r1⟩ := Row.one (box_at S2.out 0 rfl)
  obtain ⟨o0, o1⟩ := Row.one (box_at S2.out 1 rfl)
  go_wp2_with fail
  go_at_call 93
  refine (HE.out _ S2.out.old).mono ?_
  rintro e w3 ⟨rfl, h3⟩
  have S3 := Lib.hid (S2.out.keep h3)
  clear h3 r0 r1 o0 o1
  go_wp2_with fail
  go_ret
  exact ⟨rfl, S3.out.old⟩
end Go.Proofs.Ytboefioalkjdaaa.L5

/-
  The contracts of chapter 6's equalItems and EqualStores of the program, and of the library's slices.EqualFunc over items. Conditions: keys' texts of at most 2^40 bytes, at most 2^20 fields and items. (Written by my program gen_l6m.py.)
-/
namespace Go.Proofs.Ytboefioalkjdaaa.L6
set_option maxRecDepth 100000
open L4 (K isK cmpK R inR encU)
open L5 (F isR isN cellsF encR eqR Small)
open Go.ChangeShapes Go.WideShapes Go.ChangeAt Go.RowKit Mem Sl Ex L2 Sv Bag
set_option linter.unusedVariables false
set_option linter.unusedSimpArgs false

set_option maxHeartbeats 4000000 in
theorem equalItems_any (kd n : Int) (t : ByteArray) (ia : Option Addr) (ic : Nat) (l : List F) (kd2 n2 : Int) (t2 : ByteArray) (ia2 : Option Addr) (ic2 : Nat) (l2 : List F) (hl : l.length ≤ 1048576) (hl2 : l2.length ≤ 1048576) (w : World) (hr : Reads w w.heap.size ia (cellsF l)) (hr2 : Reads w w.heap.size ia2 (cellsF l2)) :
    Calls Try.prog 61 #[.agg #[.int .i64 kd, .int .i64 n, .string t, .slice ia l.length ic], .agg #[.int .i64 kd2, .int .i64 n2, .string t2, .slice ia2 l2.length ic2]] w fun e w' => e = .returned (.bool (eqK ⟨kd, n, t⟩ ⟨kd2, n2, t2⟩ && eqR l l2)) ∧ Below w.heap.size w w' := by
  have HER := Lib.hid (fun w' (h : Below w.heap.size w w') => L5.equalRecords_any ia ia2 ic ic2 l l2 (by omega) (by omega) w' ((hr.below h).more h.size) ((hr2.below h).more h.size))
  obtain ⟨N, hN⟩ : ∃ n, n = l.length := ⟨_, rfl⟩
  obtain ⟨N2, hN2⟩ : ∃ n, n = l2.length := ⟨_, rfl⟩
  rw [← hN, ← hN2] at HER ⊢
  clear hN hN2 hr hr2 hl hl2
  obtain ⟨b, hb⟩ : ∃ b, eqK ⟨kd, n, t⟩ ⟨kd2, n2, t2⟩ = b := ⟨_, rfl⟩
  have HE := fun w => key_eq kd n t kd2 n2 t2 w
  rw [hb] at HE ⊢
  clear hb
  obtain ⟨br, hbr⟩ : ∃ b, eqR l l2 = b := ⟨_, rfl⟩
  rw [hbr] at HER ⊢
  clear hbr
  have S1 := Lib.hid (show Sl.Sep w ((w.alloc (.cells #[.int .i64 kd, .int .i64 n, .string t, .slice ia N ic] 72)).alloc (.cells #[.int .i64 kd2, .int .i64 n2, .string t2, .slice ia2 N2 ic2] 72)) [L4.boxR w.heap.size 72 #[.int .i64 kd, .int .i64 n, .string t, .slice ia N ic], L4.boxR (w.heap.size + 1) 72 #[.int .i64 kd2, .int .i64 n2, .string t2, .slice ia2 N2 ic2]] from L4.push_box (L4.push_box (Sl.Sep.start w) 72 #[.int .i64 kd, .int .i64 n, .string t, .slice ia N ic] (w.heap.size) (by simp)) 72 #[.int .i64 kd2, .int .i64 n2, .string t2, .slice ia2 N2 ic2] (w.heap.size + 1) (by simp))
  obtain ⟨wa, hwa⟩ : ∃ u, u = ((w.alloc (.cells #[.int .i64 kd, .int .i64 n, .string t, .slice ia N ic] 72)).alloc (.cells #[.int .i64 kd2, .int .i64 n2, .string t2, .slice ia2 N2 ic2] 72)) := ⟨_, rfl⟩
  rw [← hwa] at S1
  go_enter Try.func61, Try.ntmps61
  go_upto_region 1 with fail
  rw [← hwa]
  clear hwa
  have hh := Bag.cs4 S1.out 0 rfl
  have f0 := hh.1; have f1 := hh.2.1; have f2 := hh.2.2.1; have f3 := hh.2.2.2; clear hh
  have hh := Bag.cs4 S1.out 1 rfl
  have f4 := hh.1; have f5 := hh.2.1; have f6 := hh.2.2.1; have f7 := hh.2.2.2; clear hh
  cases b with
  | false =>
    go_wp2_with fail
    go_ret
    exact ⟨rfl, S1.out.old⟩
  | true =>
    go_wp2_with fail
    go_at_call 79
    refine (HER.out _ S1.out.old).mono ?_
    rintro e w1 ⟨rfl, hb⟩
    clear f0 f1 f2 f3 f4 f5 f6 f7
    have S2 := Lib.hid (S1.out.keep hb)
    clear S1
    clear hb
    have hh := Bag.cs4 S2.out 0 rfl
    have f0 := hh.1; have f1 := hh.2.1; have f2 := hh.2.2.1; have f3 := hh.2.2.2; clear hh
    have hh := Bag.cs4 S2.out 1 rfl
    have f4 := hh.1; have f5 := hh.2.1; have f6 := hh.2.2.1; have f7 := hh.2.2.2; clear hh
    go_wp2_with fail
    go_ret
    exact ⟨rfl, S2.out.old⟩
set_option maxHeartbeats 8000000 in
theorem equalFuncI_any (a a2 : Option Addr) (c c2 : Nat) (xs xs2 : List LI) (hl : xs.length ≤ 1048576) (hl2 : xs2.length ≤ 1048576) (hf : ∀ x ∈ conI xs, FitI x) (hf2 : ∀ x ∈ conI xs2, FitI x) (w : World)
    (hr : Reads w w.heap.size a (cellsI xs)) (hr2 : Reads w w.heap.size a2 (cellsI xs2)) (hx : RowsRd w w.heap.size (rowsI xs)) (hx2 : RowsRd w w.heap.size (rowsI xs2)) :
    Calls Try.prog 60 #[.slice a xs.length c, .slice a2 xs2.length c2, .func (.func 61) #[] #[]] w fun e w' => e = .returned (.bool (eqI (conI xs) (conI xs2))) ∧ Below w.heap.size w w' := by
  have HR := Lib.hid (fun w' (h : Below w.heap.size w w') => hr.below h)
  have HR2 := Lib.hid (fun w' (h : Below w.heap.size w w') => hr2.below h)
  have HX := Lib.hid (fun w' (h : Below w.heap.size w w') => (hx.below h).more h.size)
  have HX2 := Lib.hid (fun w' (h : Below w.heap.size w w') => (hx2.below h).more h.size)
  have HF := Lib.hid hf
  have HF2 := Lib.hid hf2
  obtain ⟨N, hN⟩ : ∃ n, n = xs.length := ⟨_, rfl⟩
  obtain ⟨N2, hN2⟩ : ∃ n, n = xs2.length := ⟨_, rfl⟩
  rw [← hN] at hl ⊢
  rw [← hN2] at hl2 ⊢
  have hl' : (N : Int) ≤ 1048576 := by omega
  have hl2' : (N2 : Int) ≤ 1048576 := by omega
  have HN := Lib.hid hN
  have HN2 := Lib.hid hN2
  obtain ⟨be, hbe⟩ : ∃ b, eqI (conI xs) (conI xs2) = b := ⟨_, rfl⟩
  rw [hbe]
  have HB := Lib.hid hbe
  clear hN hN2 hr hr2 hx hx2 hf hf2 hbe
  have S1 := Lib.hid (show Sl.Sep w w [] from Sl.Sep.start w)
  by_cases hN : N = N2
  · subst hN
    go_enter Try.func60, Try.ntmps60
    go_wp2_with fail
    go_loopw [17] (fun i wr => ∃ k : Nat, k ≤ N ∧ i = .int .i64 k ∧ Hid ((∀ j (h1 : j < (conI xs).length) (h2 : j < (conI xs2).length), j < k → (eqK (conI xs)[j].k (conI xs2)[j].k && eqR (conI xs)[j].l (conI xs2)[j].l) = true) ∧ Sl.Sep w wr [])) (fun i _ => N - (intOf i).toNat)
    case atStart => exact ⟨0, Nat.zero_le _, rfl, And.intro (fun j h1 h2 h => absurd h (by omega)) S1.out⟩
    case round =>
      obtain ⟨k, hk, rfl, hrel⟩ := hrel
      have HA := Lib.hid hrel.out.1
      have S2 := Lib.hid hrel.out.2
      clear hrel S1
      by_cases hlt : (k : Int) < (N : Int)
      · skip
        have hkl : k < xs.length := by have := HN.out; omega
        have hkl2 : k < xs2.length := by have := HN2.out; omega
        obtain ⟨ad, x, rfl, hx⟩ := readsI_some (HR.out _ S2.out.old) k hkl
        obtain ⟨⟨kd, n, t⟩, ia, ic, l⟩ := x
        have HK := Lib.hid (fun w' (h : Below w.heap.size w w') => readsI_at (HR.out _ h) k _ hx)
        try dsimp only at HK
        have HFI := Lib.hid (fit_at HF.out hx)
        try dsimp only [LI.con] at HFI
        obtain ⟨ad2, x, rfl, hx2⟩ := readsI_some (HR2.out _ S2.out.old) k hkl2
        obtain ⟨⟨kd2, n2, t2⟩, ia2, ic2, l2⟩ := x
        have HK2 := Lib.hid (fun w' (h : Below w.heap.size w w') => readsI_at (HR2.out _ h) k _ hx2)
        try dsimp only at HK2
        have HFI2 := Lib.hid (fit_at HF2.out hx2)
        try dsimp only [LI.con] at HFI2
        have HC := Lib.hid (show (conI xs)[k]? = some (⟨⟨kd, n, t⟩, l⟩ : It) from con_of hx)
        have HC2 := Lib.hid (show (conI xs2)[k]? = some (⟨⟨kd2, n2, t2⟩, l2⟩ : It) from con_of hx2)
        have HEQ := fun w' (h : Below w.heap.size w w') => equalItems_any kd n t ia ic l kd2 n2 t2 ia2 ic2 l2 HFI.out.len HFI2.out.len w' (((HX.out _ h).at_ (rowsI_mem hx)).reads) (((HX2.out _ h).at_ (rowsI_mem hx2)).reads)
        obtain ⟨b, hb⟩ : ∃ b, (eqK ⟨kd, n, t⟩ ⟨kd2, n2, t2⟩ && eqR l l2) = b := ⟨_, rfl⟩
        rw [hb] at HEQ
        replace HEQ := Lib.hid HEQ
        have HBK := Lib.hid hb
        clear hb hx hx2
        have hh := HK.out _ S2.out.old
        have f0 := hh.1; have f1 := hh.2.1; have f2 := hh.2.2.1; have f3 := hh.2.2.2; clear hh
        have hh := HK2.out _ S2.out.old
        have f4 := hh.1; have f5 := hh.2.1; have f6 := hh.2.2.1; have f7 := hh.2.2.2; clear hh
        go_upto_region 6 with fail
        clear f0 f1 f2 f3 f4 f5 f6 f7
        have S3 := Lib.hid (show Sl.Sep w _ [L4.boxR wr.heap.size 72 #[.int .i64 kd, .int .i64 n, .string t, .slice ia l.length ic]] from L4.push_box S2.out 72 #[.int .i64 kd, .int .i64 n, .string t, .slice ia l.length ic] wr.heap.size rfl)
        clear S2
        obtain ⟨g1, hg⟩ : ∃ g', g' = wr.heap.size := ⟨_, rfl⟩
        rw [← hg] at S3 ⊢
        clear hg
        generalize wr.alloc (.cells #[.int .i64 kd, .int .i64 n, .string t, .slice ia l.length ic] 72) = w1 at S3 ⊢
        have hh := Bag.cs4 S3.out 0 rfl
        have f0 := hh.1; have f1 := hh.2.1; have f2 := hh.2.2.1; have f3 := hh.2.2.2; clear hh
        have hh := HK.out _ S3.out.old
        have f4 := hh.1; have f5 := hh.2.1; have f6 := hh.2.2.1; have f7 := hh.2.2.2; clear hh
        have hh := HK2.out _ S3.out.old
        have f8 := hh.1; have f9 := hh.2.1; have f10 := hh.2.2.1; have f11 := hh.2.2.2; clear hh
        go_upto_region 7 with fail
        clear f0 f1 f2 f3 f4 f5 f6 f7 f8 f9 f10 f11
        have S4 := Lib.hid (show Sl.Sep w _ [L4.boxR g1 72 #[.int .i64 kd, .int .i64 n, .string t, .slice ia l.length ic], L4.boxR w1.heap.size 72 #[.int .i64 kd2, .int .i64 n2, .string t2, .slice ia2 l2.length ic2]] from L4.push_box S3.out 72 #[.int .i64 kd2, .int .i64 n2, .string t2, .slice ia2 l2.length ic2] w1.heap.size rfl)
        clear S3
        obtain ⟨g2, hg⟩ : ∃ g', g' = w1.heap.size := ⟨_, rfl⟩
        rw [← hg] at S4 ⊢
        clear hg
        generalize w1.alloc (.cells #[.int .i64 kd2, .int .i64 n2, .string t2, .slice ia2 l2.length ic2] 72) = w2 at S4 ⊢
        have hh := Bag.cs4 S4.out 0 rfl
        have f0 := hh.1; have f1 := hh.2.1; have f2 := hh.2.2.1; have f3 := hh.2.2.2; clear hh
        have hh := Bag.cs4 S4.out 1 rfl
        have f4 := hh.1; have f5 := hh.2.1; have f6 := hh.2.2.1; have f7 := hh.2.2.2; clear hh
        have hh := HK.out _ S4.out.old
        have f8 := hh.1; have f9 := hh.2.1; have f10 := hh.2.2.1; have f11 := hh.2.2.2; clear hh
        have hh := HK2.out _ S4.out.old
        have f12 := hh.1; have f13 := hh.2.1; have f14 := hh.2.2.1; have f15 := hh.2.2.2; clear hh
        go_wp2_with fail
        go_at_call 61
        refine (HEQ.out _ S4.out.old).mono ?_
        rintro e w3 ⟨rfl, hb⟩
        clear f0 f1 f2 f3 f4 f5 f6 f7 f8 f9 f10 f11 f12 f13 f14 f15
        have S5 := Lib.hid (S4.out.keep hb)
        clear S4
        clear hb
        have hh := Bag.cs4 S5.out 0 rfl
        have f0 := hh.1; have f1 := hh.2.1; have f2 := hh.2.2.1; have f3 := hh.2.2.2; clear hh
        have hh := Bag.cs4 S5.out 1 rfl
        have f4 := hh.1; have f5 := hh.2.1; have f6 := hh.2.2.1; have f7 := hh.2.2.2; clear hh
        have hh := HK.out _ S5.out.old
        have f8 := hh.1; have f9 := hh.2.1; have f10 := hh.2.2.1; have f11 := hh.2.2.2; clear hh
        have hh := HK2.out _ S5.out.old
        have f12 := hh.1; have f13 := hh.2.1; have f14 := hh.2.2.1; have f15 := hh.2.2.2; clear hh
        cases b with
        | false =>
          have HNO := Lib.hid (show eqI (conI xs) (conI xs2) = false from eqI_no k (List.getElem?_eq_some_iff.1 HC.out).1 (List.getElem?_eq_some_iff.1 HC2.out).1 (by rw [(List.getElem?_eq_some_iff.1 HC.out).2, (List.getElem?_eq_some_iff.1 HC2.out).2]; dsimp only; exact HBK.out))
          go_wp2_with fail
          go_ret
          exact ⟨by rw [← HB.out, HNO.out]; rfl, S5.out.old⟩
        | true =>
          clear f0 f1 f2 f3 f4 f5 f6 f7 f8 f9 f10 f11 f12 f13 f14 f15
          have S6 := Lib.hid (show Sl.Sep w _ [] from Bag.take S5.out [] (by rfl) (by decide))
          clear S5
          go_wp2_with fail
          go_roundw
          case rel => exact ⟨k + 1, by omega, by go_num, And.intro (fun j h1 h2 h => by
            by_cases e : j < k
            · exact HA.out j h1 h2 e
            · obtain rfl : j = k := by omega
              rw [(List.getElem?_eq_some_iff.1 HC.out).2, (List.getElem?_eq_some_iff.1 HC2.out).2]; exact HBK.out) S6.out⟩
          case measure => simp [intOf]; omega
      · skip
        have HI := Lib.hid (eqI_all (xs := conI xs) (ys := conI xs2) (by rw [conI_length, conI_length, ← HN.out, ← HN2.out]) (fun j h1 h2 => HA.out j h1 h2 (by rw [conI_length] at h1; have := HN.out; omega)))
        go_wp2_with fail
        go_ret
        exact ⟨by rw [← HB.out, HI.out]; rfl, S2.out.old⟩
  · have hne : ((N : Int) == (N2 : Int)) = false := by simp; omega
    have hne2 : ¬ (N : Int) = (N2 : Int) := by omega
    have HI := Lib.hid (eqI_len (xs := conI xs) (ys := conI xs2) (by rw [conI_length, conI_length, ← HN.out, ← HN2.out]; exact hN))
    go_enter Try.func60, Try.ntmps60
    go_wp2_with fail
    go_ret
    exact ⟨by rw [← HB.out, HI.out]; rfl, S1.out.old⟩
set_option maxHeartbeats 8000000 in
theorem equalStores_any (y y2 : LS) (hf : FitS y.con) (hf2 : FitS y2.con) (w : World) (hr : RowsRd w w.heap.size y.rows) (hr2 : RowsRd w w.heap.size y2.rows) :
    Calls Try.prog 38 #[y.v, y2.v] w fun e w' => e = .returned (.bool (eqS y.con y2.con)) ∧ Below w.heap.size w w' := by
  have HEF := Lib.hid (fun w' (h : Below w.heap.size w w') => equalFuncI_any y.a y2.a y.c y2.c y.xs y2.xs (by have h1 := hf.len; simpa [LS.con] using h1) (by have h1 := hf2.len; simpa [LS.con] using h1) hf.items hf2.items w' (((LS.outer hr).below h).more h.size) (((LS.outer hr2).below h).more h.size) (((LS.inner hr).below h).more h.size) (((LS.inner hr2).below h).more h.size))
  obtain ⟨name, a, c, xs, auto⟩ := y
  have HR := Lib.hid (fun w' (h : Below w.heap.size w w') => LS.outer (hr.below h))
  have HX := Lib.hid (fun w' (h : Below w.heap.size w w') => (LS.inner (hr.below h)).more h.size)
  have HF := Lib.hid hf.items
  have HNM := Lib.hid hf.name
  have hl := hf.len
  simp only [LS.con, conI_length] at hl
  dsimp only [LS.con] at HR HX HF HNM
  try unfold LS.v LS.cells LS.con
  try dsimp only
  obtain ⟨N, hN⟩ : ∃ n, n = xs.length := ⟨_, rfl⟩
  rw [← hN] at hl ⊢
  have hl' : (N : Int) ≤ 1048576 := by omega
  have HN := Lib.hid hN
  clear hN hr hf
  obtain ⟨name2, a2, c2, xs2, auto2⟩ := y2
  have HR2 := Lib.hid (fun w' (h : Below w.heap.size w w') => LS.outer (hr2.below h))
  have HX2 := Lib.hid (fun w' (h : Below w.heap.size w w') => (LS.inner (hr2.below h)).more h.size)
  have HF2 := Lib.hid hf2.items
  have HNM2 := Lib.hid hf2.name
  have hl2 := hf2.len
  simp only [LS.con, conI_length] at hl2
  dsimp only [LS.con] at HR2 HX2 HF2 HNM2
  try unfold LS.v LS.cells LS.con
  try dsimp only
  obtain ⟨N2, hN2⟩ : ∃ n, n = xs2.length := ⟨_, rfl⟩
  rw [← hN2] at hl2 ⊢
  have hl2' : (N2 : Int) ≤ 1048576 := by omega
  have HN2 := Lib.hid hN2
  clear hN2 hr2 hf2
  dsimp only at HEF
  rw [← HN.out, ← HN2.out] at HEF
  obtain ⟨bi, hbi⟩ : ∃ b, eqI (conI xs) (conI xs2) = b := ⟨_, rfl⟩
  rw [hbi] at HEF
  obtain ⟨be, hbe⟩ : ∃ b, eqS ⟨name, conI xs, auto⟩ ⟨name2, conI xs2, auto2⟩ = b := ⟨_, rfl⟩
  rw [hbe]
  have HE := Lib.hid (show be = ((name.toList == name2.toList) && ((auto == auto2) && bi)) from by rw [← hbe, ← hbi]; unfold eqS; rw [ByteArray.toList_eq, ByteArray.toList_eq])
  clear hbe hbi
  have S1 := Lib.hid (show Sl.Sep w ((w.alloc (.cells #[.string name, .slice a N c, .int .i64 auto] 44)).alloc (.cells #[.string name2, .slice a2 N2 c2, .int .i64 auto2] 44)) [L4.boxR w.heap.size 44 #[.string name, .slice a N c, .int .i64 auto], L4.boxR (w.heap.size + 1) 44 #[.string name2, .slice a2 N2 c2, .int .i64 auto2]] from L4.push_box (L4.push_box (Sl.Sep.start w) 44 #[.string name, .slice a N c, .int .i64 auto] (w.heap.size) (by simp)) 44 #[.string name2, .slice a2 N2 c2, .int .i64 auto2] (w.heap.size + 1) (by simp))
  obtain ⟨wa, hwa⟩ : ∃ u, u = ((w.alloc (.cells #[.string name, .slice a N c, .int .i64 auto] 44)).alloc (.cells #[.string name2, .slice a2 N2 c2, .int .i64 auto2] 44)) := ⟨_, rfl⟩
  rw [← hwa] at S1
  go_enter Try.func38, Try.ntmps38
  go_upto_region 1 with fail
  rw [← hwa]
  clear hwa
  have hh := Bag.cs3 S1.out 0 rfl
  have f0 := hh.1; have f1 := hh.2.1; have f2 := hh.2.2; clear hh
  have hh := Bag.cs3 S1.out 1 rfl
  have f3 := hh.1; have f4 := hh.2.1; have f5 := hh.2.2; clear hh
  cases hn : name.toList == name2.toList with
  | false =>
    have HB := Lib.hid (show be = false from by rw [HE.out, hn]; rfl)
    go_wp2_with fail
    go_ret
    exact ⟨by rw [HB.out]; rfl, S1.out.old⟩
  | true =>
    cases hu : auto == auto2 with
    | false =>
      have HB := Lib.hid (show be = false from by rw [HE.out, hn, hu]; rfl)
      go_wp2_with fail
      go_ret
      exact ⟨by rw [HB.out]; rfl, S1.out.old⟩
    | true =>
      have HB := Lib.hid (show be = bi from by rw [HE.out, hn, hu]; rfl)
      go_wp2_with fail
      go_at_call 60
      refine (HEF.out _ S1.out.old).mono ?_
      rintro e w1 ⟨rfl, hb⟩
      clear f0 f1 f2 f3 f4 f5
      have S2 := Lib.hid (S1.out.keep hb)
      clear S1
      clear hb
      have hh := Bag.cs3 S2.out 0 rfl
      have f0 := hh.1; have f1 := hh.2.1; have f2 := hh.2.2; clear hh
      have hh := Bag.cs3 S2.out 1 rfl
      have f3 := hh.1; have f4 := hh.2.1; have f5 := hh.2.2; clear hh
      go_wp2_with fail
      go_ret
      exact ⟨by rw [HB.out]; rfl, S2.out.old⟩
end Go.Proofs.Ytboefioalkjdaaa.L6

/-
  The contracts of chapter 8's SizeDatabase and EqualDatabases of the program. Conditions: names of at most 2^48 bytes, at most 2^20 stores, indexes, items and fields. (Written by my program gen_l8h.py.)
-/
namespace Go.Proofs.Ytboefioalkjdaaa.L8
set_option maxRecDepth 100000
open V L6 L7
open L4 (K isK cmpK)
open L5 (F isR isN string_geq)
open Go.Op (bytesLess)
open Go.ChangeShapes Go.WideShapes Go.ChangeAt Go.RowKit Mem Sl Ex L2 Sv Bag
set_option linter.unusedVariables false
set_option linter.unusedSimpArgs false

set_option maxHeartbeats 8000000 in
theorem equalFuncS_any (a a2 : Option Addr) (c c2 : Nat) (ss ss2 : List LS) (hl : ss.length ≤ 1048576) (hl2 : ss2.length ≤ 1048576) (hf : ∀ s ∈ coS_Store ss, FitS s) (hf2 : ∀ s ∈ coS_Store ss2, FitS s) (w : World)
    (hr : Reads w w.heap.size a (ss.flatMap cl_Store)) (hr2 : Reads w w.heap.size a2 (ss2.flatMap cl_Store)) (hx : RowsRd w w.heap.size (rws_Store ss)) (hx2 : RowsRd w w.heap.size (rws_Store ss2)) :
    Calls Try.prog 37 #[.slice a ss.length c, .slice a2 ss2.length c2, .func (.func 38) #[] #[]] w fun e w' => e = .returned (.bool (eqSs (coS_Store ss) (coS_Store ss2))) ∧ Below w.heap.size w w' := by
  have HR := Lib.hid (fun w' (h : Below w.heap.size w w') => hr.below h)
  have HR2 := Lib.hid (fun w' (h : Below w.heap.size w w') => hr2.below h)
  have HX := Lib.hid (fun w' (h : Below w.heap.size w w') => (hx.below h).more h.size)
  have HX2 := Lib.hid (fun w' (h : Below w.heap.size w w') => (hx2.below h).more h.size)
  have HF := Lib.hid hf
  have HF2 := Lib.hid hf2
  obtain ⟨N, hN⟩ : ∃ n, n = ss.length := ⟨_, rfl⟩
  obtain ⟨N2, hN2⟩ : ∃ n, n = ss2.length := ⟨_, rfl⟩
  rw [← hN] at hl ⊢
  rw [← hN2] at hl2 ⊢
  have hl' : (N : Int) ≤ 1048576 := by omega
  have hl2' : (N2 : Int) ≤ 1048576 := by omega
  have HN := Lib.hid hN
  have HN2 := Lib.hid hN2
  have HSL := Lib.hid (show (coS_Store ss).length = N ∧ (coS_Store ss2).length = N2 from by rw [coS_len, coS_len, ← hN, ← hN2]; exact ⟨rfl, rfl⟩)
  obtain ⟨be, hbe⟩ : ∃ b, eqSs (coS_Store ss) (coS_Store ss2) = b := ⟨_, rfl⟩
  rw [hbe]
  have HB := Lib.hid hbe
  clear hN hN2 hr hr2 hx hx2 hf hf2 hbe
  have S1 := Lib.hid (show Sl.Sep w w [] from Sl.Sep.start w)
  by_cases hN : N = N2
  · subst hN
    go_enter Try.func37, Try.ntmps37
    go_wp2_with fail
    go_loopw [17] (fun i wr => ∃ k : Nat, k ≤ N ∧ i = .int .i64 k ∧ Hid ((∀ j (h1 : j < (coS_Store ss).length) (h2 : j < (coS_Store ss2).length), j < k → eqS (coS_Store ss)[j] (coS_Store ss2)[j] = true) ∧ Sl.Sep w wr [])) (fun i _ => N - (intOf i).toNat)
    case atStart => exact ⟨0, Nat.zero_le _, rfl, And.intro (fun j h1 h2 h => absurd h (by omega)) S1.out⟩
    case round =>
      obtain ⟨k, hk, rfl, hrel⟩ := hrel
      have HA := Lib.hid hrel.out.1
      have S2 := Lib.hid hrel.out.2
      clear hrel S1
      by_cases hlt : (k : Int) < (N : Int)
      · skip
        have hkl : k < ss.length := by have := HN.out; omega
        have hkl2 : k < ss2.length := by have := HN2.out; omega
        obtain ⟨x, hx⟩ : ∃ x, ss[k]? = some x := ⟨_, List.getElem?_eq_getElem hkl⟩
        obtain ⟨sad, e'⟩ := el_some cl_Store_len (by decide) (HR.out _ S2.out.old) hkl
        subst e'
        have HKx := Lib.hid (fun w' (h : Below w.heap.size w w') => el3 cl_Store_len (HR.out _ h) hx rfl)
        have HRx := Lib.hid (fun w' (h : Below w.heap.size w w') => rd_store (HX.out w' h) hx)
        have HFx := Lib.hid (fit_store HF.out hx)
        have HCx := Lib.hid (coS_at hx)
        clear hx
        obtain ⟨y, hy⟩ : ∃ x, ss2[k]? = some x := ⟨_, List.getElem?_eq_getElem hkl2⟩
        obtain ⟨sad2, e'⟩ := el_some cl_Store_len (by decide) (HR2.out _ S2.out.old) hkl2
        subst e'
        have HKy := Lib.hid (fun w' (h : Below w.heap.size w w') => el3 cl_Store_len (HR2.out _ h) hy rfl)
        have HRy := Lib.hid (fun w' (h : Below w.heap.size w w') => rd_store (HX2.out w' h) hy)
        have HFy := Lib.hid (fit_store HF2.out hy)
        have HCy := Lib.hid (coS_at hy)
        clear hy
        have HEQ := fun w' (h : Below w.heap.size w w') => equalStores_any x y HFx.out HFy.out w' (HRx.out w' h) (HRy.out w' h)
        obtain ⟨b, hb⟩ : ∃ b, eqS x.con y.con = b := ⟨_, rfl⟩
        rw [hb] at HEQ
        dsimp only [LS.v, LS.cells] at HEQ
        replace HEQ := Lib.hid HEQ
        have HBK := Lib.hid hb
        clear hb
        have hh := HKx.out _ S2.out.old
        have f0 := hh.1; have f1 := hh.2.1; have f2 := hh.2.2; clear hh
        have hh := HKy.out _ S2.out.old
        have f3 := hh.1; have f4 := hh.2.1; have f5 := hh.2.2; clear hh
        go_upto_region 6 with fail
        clear f0 f1 f2 f3 f4 f5
        have S3 := Lib.hid (show Sl.Sep w _ [L4.boxR wr.heap.size 44 #[.string x.name, .slice x.a x.xs.length x.c, .int .i64 x.auto]] from L4.push_box S2.out 44 #[.string x.name, .slice x.a x.xs.length x.c, .int .i64 x.auto] wr.heap.size rfl)
        clear S2
        obtain ⟨g1, hg⟩ : ∃ g', g' = wr.heap.size := ⟨_, rfl⟩
        rw [← hg] at S3 ⊢
        clear hg
        generalize wr.alloc (.cells #[.string x.name, .slice x.a x.xs.length x.c, .int .i64 x.auto] 44) = w1 at S3 ⊢
        have hh := Bag.cs3 S3.out 0 rfl
        have f0 := hh.1; have f1 := hh.2.1; have f2 := hh.2.2; clear hh
        have hh := HKx.out _ S3.out.old
        have f3 := hh.1; have f4 := hh.2.1; have f5 := hh.2.2; clear hh
        have hh := HKy.out _ S3.out.old
        have f6 := hh.1; have f7 := hh.2.1; have f8 := hh.2.2; clear hh
        go_upto_region 7 with fail
        clear f0 f1 f2 f3 f4 f5 f6 f7 f8
        have S4 := Lib.hid (show Sl.Sep w _ [L4.boxR g1 44 #[.string x.name, .slice x.a x.xs.length x.c, .int .i64 x.auto], L4.boxR w1.heap.size 44 #[.string y.name, .slice y.a y.xs.length y.c, .int .i64 y.auto]] from L4.push_box S3.out 44 #[.string y.name, .slice y.a y.xs.length y.c, .int .i64 y.auto] w1.heap.size rfl)
        clear S3
        obtain ⟨g2, hg⟩ : ∃ g', g' = w1.heap.size := ⟨_, rfl⟩
        rw [← hg] at S4 ⊢
        clear hg
        generalize w1.alloc (.cells #[.string y.name, .slice y.a y.xs.length y.c, .int .i64 y.auto] 44) = w2 at S4 ⊢
        have hh := Bag.cs3 S4.out 0 rfl
        have f0 := hh.1; have f1 := hh.2.1; have f2 := hh.2.2; clear hh
        have hh := Bag.cs3 S4.out 1 rfl
        have f3 := hh.1; have f4 := hh.2.1; have f5 := hh.2.2; clear hh
        have hh := HKx.out _ S4.out.old
        have f6 := hh.1; have f7 := hh.2.1; have f8 := hh.2.2; clear hh
        have hh := HKy.out _ S4.out.old
        have f9 := hh.1; have f10 := hh.2.1; have f11 := hh.2.2; clear hh
        go_wp2_with fail
        go_at_call 38
        refine (HEQ.out _ S4.out.old).mono ?_
        rintro e w3 ⟨rfl, hb⟩
        clear f0 f1 f2 f3 f4 f5 f6 f7 f8 f9 f10 f11
        have S5 := Lib.hid (S4.out.keep hb)
        clear S4
        clear hb
        have hh := Bag.cs3 S5.out 0 rfl
        have f0 := hh.1; have f1 := hh.2.1; have f2 := hh.2.2; clear hh
        have hh := Bag.cs3 S5.out 1 rfl
        have f3 := hh.1; have f4 := hh.2.1; have f5 := hh.2.2; clear hh
        have hh := HKx.out _ S5.out.old
        have f6 := hh.1; have f7 := hh.2.1; have f8 := hh.2.2; clear hh
        have hh := HKy.out _ S5.out.old
        have f9 := hh.1; have f10 := hh.2.1; have f11 := hh.2.2; clear hh
        cases b with
        | false =>
          have HNO := Lib.hid (show eqSs (coS_Store ss) (coS_Store ss2) = false from zip_no k (len_of HCx.out) (len_of HCy.out) (by rw [val_of HCx.out, val_of HCy.out]; exact HBK.out))
          go_wp2_with fail
          go_ret
          exact ⟨by rw [← HB.out, HNO.out] <;> rfl, S5.out.old⟩
        | true =>
          clear f0 f1 f2 f3 f4 f5 f6 f7 f8 f9 f10 f11
          have S6 := Lib.hid (show Sl.Sep w _ [] from Bag.take S5.out [] (by rfl) (by decide))
          clear S5
          go_wp2_with fail
          go_roundw
          case rel => exact ⟨k + 1, by omega, by go_num, And.intro (fun j h1 h2 h => by
            by_cases e : j < k
            · exact HA.out j h1 h2 e
            · obtain rfl : j = k := by omega
              rw [val_of HCx.out, val_of HCy.out]; exact HBK.out) S6.out⟩
          case measure => simp [intOf]; omega
      · skip
        have HI := Lib.hid (show eqSs (coS_Store ss) (coS_Store ss2) = true from zip_yes (by rw [HSL.out.1, HSL.out.2]) (fun j h1 h2 => HA.out j h1 h2 (by rw [HSL.out.1] at h1; omega)))
        go_wp2_with fail
        go_ret
        exact ⟨by rw [← HB.out, HI.out] <;> rfl, S2.out.old⟩
  · have hne : ((N : Int) == (N2 : Int)) = false := by simp; omega
    have hne2 : ¬ (N : Int) = (N2 : Int) := by omega
    have HI := Lib.hid (show eqSs (coS_Store ss) (coS_Store ss2) = false from zip_len (by rw [HSL.out.1, HSL.out.2]; exact hN))
    go_enter Try.func37, Try.ntmps37
    go_wp2_with fail
    go_ret
    exact ⟨by rw [← HB.out, HI.out] <;> rfl, S1.out.old⟩
set_option maxHeartbeats 8000000 in
theorem equalX_any (a a2 : Option Addr) (c c2 : Nat) (us us2 : List X_IndexDef) (hl : us.length ≤ 1048576) (hl2 : us2.length ≤ 1048576) (w : World) (hr : Reads w w.heap.size a (us.flatMap cl_IndexDef)) (hr2 : Reads w w.heap.size a2 (us2.flatMap cl_IndexDef)) :
    Calls Try.prog 39 #[.slice a us.length c, .slice a2 us2.length c2] w fun e w' => e = .returned (.bool (eqXs us us2)) ∧ Below w.heap.size w w' := by
  have HU := Lib.hid (fun w' (h : Below w.heap.size w w') => hr.below h)
  have HU2 := Lib.hid (fun w' (h : Below w.heap.size w w') => hr2.below h)
  obtain ⟨M, hM⟩ : ∃ n, n = us.length := ⟨_, rfl⟩
  obtain ⟨M2, hM2⟩ : ∃ n, n = us2.length := ⟨_, rfl⟩
  rw [← hM] at hl ⊢
  rw [← hM2] at hl2 ⊢
  have hl' : (M : Int) ≤ 1048576 := by omega
  have hl2' : (M2 : Int) ≤ 1048576 := by omega
  have HM := Lib.hid hM
  have HM2 := Lib.hid hM2
  obtain ⟨be, hbe⟩ : ∃ b, eqXs us us2 = b := ⟨_, rfl⟩
  rw [hbe]
  have HB := Lib.hid hbe
  clear hM hM2 hr hr2 hbe
  have S1 := Lib.hid (show Sl.Sep w w [] from Sl.Sep.start w)
  by_cases hM : M = M2
  · subst hM
    go_enter Try.func39, Try.ntmps39
    go_wp2_with fail
    go_loopw [13] (fun i wr => ∃ k : Nat, k ≤ M ∧ i = .int .i64 k ∧ Hid ((∀ j (h1 : j < us.length) (h2 : j < us2.length), j < k → eqX us[j] us2[j] = true) ∧ Sl.Sep w wr [])) (fun i _ => M - (intOf i).toNat)
    case atStart => exact ⟨0, Nat.zero_le _, rfl, And.intro (fun j h1 h2 h => absurd h (by omega)) S1.out⟩
    case round =>
      obtain ⟨k, hk, rfl, hrel⟩ := hrel
      have HA := Lib.hid hrel.out.1
      have S2 := Lib.hid hrel.out.2
      clear hrel S1
      by_cases hlt : (k : Int) < (M : Int)
      · skip
        have hkl : k < us.length := by have := HM.out; omega
        have hkl2 : k < us2.length := by have := HM2.out; omega
        obtain ⟨u, hu⟩ : ∃ x, us[k]? = some x := ⟨_, List.getElem?_eq_getElem hkl⟩
        obtain ⟨uad, e'⟩ := el_some cl_IndexDef_len (by decide) (HU.out _ S2.out.old) hkl
        subst e'
        have HKu := Lib.hid (fun w' (h : Below w.heap.size w w') => el2 cl_IndexDef_len (HU.out _ h) hu rfl)
        have HCu := Lib.hid hu
        clear hu
        obtain ⟨v, hv⟩ : ∃ x, us2[k]? = some x := ⟨_, List.getElem?_eq_getElem hkl2⟩
        obtain ⟨uad2, e'⟩ := el_some cl_IndexDef_len (by decide) (HU2.out _ S2.out.old) hkl2
        subst e'
        have HKv := Lib.hid (fun w' (h : Below w.heap.size w w') => el2 cl_IndexDef_len (HU2.out _ h) hv rfl)
        have HCv := Lib.hid hv
        clear hv
        obtain ⟨b, hb⟩ : ∃ b, eqX u v = b := ⟨_, rfl⟩
        have HE2 := fun w => index_eq u v w
        rw [hb] at HE2
        have HBK := Lib.hid hb
        clear hb
        have hh := HKu.out _ S2.out.old
        have f0 := hh.1; have f1 := hh.2; clear hh
        have hh := HKv.out _ S2.out.old
        have f2 := hh.1; have f3 := hh.2; clear hh
        cases b with
        | false =>
          go_upto_region 6 with fail
          clear f0 f1 f2 f3
          refine wp_region_held_drew (S := (fun w' => (World.cell? w' (uad.add (k * 2)) = some (.string u.f_Store) ∧ World.cell? w' (⟨(uad.add (k * 2)).block, (uad.add (k * 2)).off + 1, none⟩) = some (.string u.f_Field)) ∧ (World.cell? w' (uad2.add (k * 2)) = some (.string v.f_Store) ∧ World.cell? w' (⟨(uad2.add (k * 2)).block, (uad2.add (k * 2)).off + 1, none⟩) = some (.string v.f_Field)))) (by kernel_rfl) ⟨HKu.out _ (Bag.drew1 S2.out).old, HKv.out _ (Bag.drew1 S2.out).old⟩ (fun hS => ?_)
          have S3 := Lib.hid (show Sl.Sep w _ [] from Bag.drew1 S2.out)
          clear S2
          generalize World.drew _ = w1 at hS S3 ⊢
          refine tk 0 rfl ?_
          try simp only [zp0, zp1, zp2, zp3, zp4]
          refine tk 1 rfl ?_
          try simp only [zp0, zp1, zp2, zp3, zp4]
          refine tk 2 rfl ?_
          try simp only [zp0, zp1, zp2, zp3, zp4]
          refine tk 3 rfl ?_
          try simp only [zp0, zp1, zp2, zp3, zp4]
          refine tk 4 rfl ?_
          try simp only [zp0, zp1, zp2, zp3, zp4]
          refine tk 5 rfl ?_
          try simp only [zp0, zp1, zp2, zp3, zp4]
          refine tk 6 rfl ?_
          try simp only [zp0, zp1, zp2, zp3, zp4]
          refine tk 7 rfl ?_
          try simp only [zp0, zp1, zp2, zp3, zp4]
          refine tk 8 rfl ?_
          try simp only [zp0, zp1, zp2, zp3, zp4]
          refine wpAnyH_done (by kernel_rfl) ?_ _
          have hh := HKu.out _ S3.out.old
          have f0 := hh.1; have f1 := hh.2; clear hh
          have hh := HKv.out _ S3.out.old
          have f2 := hh.1; have f3 := hh.2; clear hh
          have HNO := Lib.hid (show eqXs us us2 = false from zip_no k (len_of HCu.out) (len_of HCv.out) (by rw [val_of HCu.out, val_of HCv.out]; exact HBK.out))
          go_wp2_with fail
          go_ret
          exact ⟨by rw [← HB.out, HNO.out] <;> rfl, S3.out.old⟩
        | true =>
          go_upto_region 6 with fail
          clear f0 f1 f2 f3
          refine wp_region_held_drew (S := (fun w' => (World.cell? w' (uad.add (k * 2)) = some (.string u.f_Store) ∧ World.cell? w' (⟨(uad.add (k * 2)).block, (uad.add (k * 2)).off + 1, none⟩) = some (.string u.f_Field)) ∧ (World.cell? w' (uad2.add (k * 2)) = some (.string v.f_Store) ∧ World.cell? w' (⟨(uad2.add (k * 2)).block, (uad2.add (k * 2)).off + 1, none⟩) = some (.string v.f_Field)))) (by kernel_rfl) ⟨HKu.out _ (Bag.drew1 S2.out).old, HKv.out _ (Bag.drew1 S2.out).old⟩ (fun hS => ?_)
          have S3 := Lib.hid (show Sl.Sep w _ [] from Bag.drew1 S2.out)
          clear S2
          generalize World.drew _ = w1 at hS S3 ⊢
          refine tk 0 rfl ?_
          try simp only [zp0, zp1, zp2, zp3, zp4]
          refine tk 1 rfl ?_
          try simp only [zp0, zp1, zp2, zp3, zp4]
          refine tk 2 rfl ?_
          try simp only [zp0, zp1, zp2, zp3, zp4]
          refine tk 3 rfl ?_
          try simp only [zp0, zp1, zp2, zp3, zp4]
          refine tk 4 rfl ?_
          try simp only [zp0, zp1, zp2, zp3, zp4]
          refine tk 5 rfl ?_
          try simp only [zp0, zp1, zp2, zp3, zp4]
          refine tk 6 rfl ?_
          try simp only [zp0, zp1, zp2, zp3, zp4]
          refine tk 7 rfl ?_
          try simp only [zp0, zp1, zp2, zp3, zp4]
          refine tk 8 rfl ?_
          try simp only [zp0, zp1, zp2, zp3, zp4]
          refine wpAnyH_done (by kernel_rfl) ?_ _
          have hh := HKu.out _ S3.out.old
          have f0 := hh.1; have f1 := hh.2; clear hh
          have hh := HKv.out _ S3.out.old
          have f2 := hh.1; have f3 := hh.2; clear hh
          clear f0 f1 f2 f3
          go_wp2_with fail
          go_roundw
          case rel => exact ⟨k + 1, by omega, by go_num, And.intro (fun j h1 h2 h => by
            by_cases e : j < k
            · exact HA.out j h1 h2 e
            · obtain rfl : j = k := by omega
              rw [val_of HCu.out, val_of HCv.out]; exact HBK.out) S3.out⟩
          case measure => simp [intOf]; omega
      · skip
        have HI := Lib.hid (show eqXs us us2 = true from zip_yes (by rw [← HM.out, ← HM2.out]) (fun j h1 h2 => HA.out j h1 h2 (by have := HM.out; omega)))
        go_wp2_with fail
        go_ret
        exact ⟨by rw [← HB.out, HI.out] <;> rfl, S2.out.old⟩
  · have hne : ((M : Int) == (M2 : Int)) = false := by simp; omega
    have hne2 : ¬ (M : Int) = (M2 : Int) := by omega
    have HI := Lib.hid (show eqXs us us2 = false from zip_len (by rw [← HM.out, ← HM2.out]; exact hM))
    go_enter Try.func39, Try.ntmps39
    go_wp2_with fail
    go_ret
    exact ⟨by rw [← HB.out, HI.out] <;> rfl, S1.out.old⟩
set_option maxHeartbeats 8000000 in
theorem equalDatabases_any (z z2 : Y_Database) (hf : FitD (co_Database z)) (hf2 : FitD (co_Database z2)) (w : World) (hr : RowsRd w w.heap.size (rw_Database z)) (hr2 : RowsRd w w.heap.size (rw_Database z2)) :
    Calls Try.prog 17 #[vv_Database z, vv_Database z2] w fun e w' => e = .returned (.bool (eqD (co_Database z) (co_Database z2))) ∧ Below w.heap.size w w' := by
  have HR : Hid (∀ w' (h : Below w.heap.size w w'), Reads w' w.heap.size z.f_Stores_a (z.f_Stores.flatMap cl_Store)) := Lib.hid (fun w' h => (rdS hr).below h)
  have HX : Hid (∀ w' (h : Below w.heap.size w w'), RowsRd w' w'.heap.size (rws_Store z.f_Stores)) := Lib.hid (fun w' h => ((rdX hr).below h).more h.size)
  have HU : Hid (∀ w' (h : Below w.heap.size w w'), Reads w' w.heap.size z.f_Unique_a (z.f_Unique.flatMap cl_IndexDef)) := Lib.hid (fun w' h => (rdU hr).below h)
  have HFD := Lib.hid hf
  have HFDl : z.f_Stores.length ≤ 1048576 := by have h := hf.len; rwa [co_len] at h
  have HFDm : z.f_Unique.length ≤ 1048576 := hf.many
  clear hf hr
  obtain ⟨name, ver, sa, sc, ss, ua, uc, us⟩ := z
  dsimp only [co_Database] at HR HX HU HFD HFDl HFDm
  try unfold vv_Database
  try unfold co_Database
  try dsimp only
  try rw [show coS_IndexDef us = us from rfl]
  rw [show coS_IndexDef us = us from rfl] at HFD
  obtain ⟨N, hN⟩ : ∃ n, n = ss.length := ⟨_, rfl⟩
  obtain ⟨M, hM⟩ : ∃ n, n = us.length := ⟨_, rfl⟩
  rw [← hN] at HFDl ⊢
  rw [← hM] at HFDm ⊢
  have HFDl' : (N : Int) ≤ 1048576 := by omega
  have HFDm' : (M : Int) ≤ 1048576 := by omega
  have HN := Lib.hid hN
  have HM := Lib.hid hM
  clear hN hM
  have HR2 : Hid (∀ w' (h : Below w.heap.size w w'), Reads w' w.heap.size z2.f_Stores_a (z2.f_Stores.flatMap cl_Store)) := Lib.hid (fun w' h => (rdS hr2).below h)
  have HX2 : Hid (∀ w' (h : Below w.heap.size w w'), RowsRd w' w'.heap.size (rws_Store z2.f_Stores)) := Lib.hid (fun w' h => ((rdX hr2).below h).more h.size)
  have HU2 : Hid (∀ w' (h : Below w.heap.size w w'), Reads w' w.heap.size z2.f_Unique_a (z2.f_Unique.flatMap cl_IndexDef)) := Lib.hid (fun w' h => (rdU hr2).below h)
  have HFD2 := Lib.hid hf2
  have HFD2l : z2.f_Stores.length ≤ 1048576 := by have h := hf2.len; rwa [co_len] at h
  have HFD2m : z2.f_Unique.length ≤ 1048576 := hf2.many
  clear hf2 hr2
  obtain ⟨name2, ver2, sa2, sc2, ss2, ua2, uc2, us2⟩ := z2
  dsimp only [co_Database] at HR2 HX2 HU2 HFD2 HFD2l HFD2m
  try unfold vv_Database
  try unfold co_Database
  try dsimp only
  try rw [show coS_IndexDef us2 = us2 from rfl]
  rw [show coS_IndexDef us2 = us2 from rfl] at HFD2
  obtain ⟨N2, hN2⟩ : ∃ n, n = ss2.length := ⟨_, rfl⟩
  obtain ⟨M2, hM2⟩ : ∃ n, n = us2.length := ⟨_, rfl⟩
  rw [← hN2] at HFD2l ⊢
  rw [← hM2] at HFD2m ⊢
  have HFD2l' : (N2 : Int) ≤ 1048576 := by omega
  have HFD2m' : (M2 : Int) ≤ 1048576 := by omega
  have HN2 := Lib.hid hN2
  have HM2 := Lib.hid hM2
  clear hN2 hM2
  have HEF := Lib.hid (fun w' (h : Below w.heap.size w w') => equalFuncS_any sa sa2 sc sc2 ss ss2 (by rw [← HN.out]; exact HFDl) (by rw [← HN2.out]; exact HFD2l) HFD.out.stores HFD2.out.stores w' ((HR.out _ h).more h.size) ((HR2.out _ h).more h.size) (HX.out _ h) (HX2.out _ h))
  have HEX := Lib.hid (fun w' (h : Below w.heap.size w w') => equalX_any ua ua2 uc uc2 us us2 (by rw [← HM.out]; exact HFDm) (by rw [← HM2.out]; exact HFD2m) w' ((HU.out _ h).more h.size) ((HU2.out _ h).more h.size))
  rw [← HN.out, ← HN2.out] at HEF
  rw [← HM.out, ← HM2.out] at HEX
  obtain ⟨b1, hb1⟩ : ∃ b, eqSs (coS_Store ss) (coS_Store ss2) = b := ⟨_, rfl⟩
  obtain ⟨b2, hb2⟩ : ∃ b, eqXs us us2 = b := ⟨_, rfl⟩
  rw [hb1] at HEF
  rw [hb2] at HEX
  rw [eqD_eq]
  dsimp only
  rw [hb1, hb2]
  clear hb1 hb2
  obtain ⟨be, hbe⟩ : ∃ b, (name.toList == name2.toList && (ver == ver2 && (b1 && b2))) = b := ⟨_, rfl⟩
  rw [hbe]
  have HE := Lib.hid hbe.symm
  clear hbe
  have S1 := Lib.hid (show Sl.Sep w ((w.alloc (.cells #[.string name, .int .i64 ver, .slice sa N sc, .slice ua M uc] 31)).alloc (.cells #[.string name2, .int .i64 ver2, .slice sa2 N2 sc2, .slice ua2 M2 uc2] 31)) [L4.boxR w.heap.size 31 #[.string name, .int .i64 ver, .slice sa N sc, .slice ua M uc], L4.boxR (w.heap.size + 1) 31 #[.string name2, .int .i64 ver2, .slice sa2 N2 sc2, .slice ua2 M2 uc2]] from L4.push_box (L4.push_box (Sl.Sep.start w) 31 #[.string name, .int .i64 ver, .slice sa N sc, .slice ua M uc] (w.heap.size) (by simp)) 31 #[.string name2, .int .i64 ver2, .slice sa2 N2 sc2, .slice ua2 M2 uc2] (w.heap.size + 1) (by simp))
  obtain ⟨wa, hwa⟩ : ∃ w_, w_ = ((w.alloc (.cells #[.string name, .int .i64 ver, .slice sa N sc, .slice ua M uc] 31)).alloc (.cells #[.string name2, .int .i64 ver2, .slice sa2 N2 sc2, .slice ua2 M2 uc2] 31)) := ⟨_, rfl⟩
  rw [← hwa] at S1
  go_enter Try.func17, Try.ntmps17
  go_upto_region 1 with fail
  rw [← hwa]
  clear hwa
  have hh := Bag.cs4 S1.out 0 rfl
  have f0 := hh.1; have f1 := hh.2.1; have f2 := hh.2.2.1; have f3 := hh.2.2.2; clear hh
  have hh := Bag.cs4 S1.out 1 rfl
  have f4 := hh.1; have f5 := hh.2.1; have f6 := hh.2.2.1; have f7 := hh.2.2.2; clear hh
  cases hn : name.toList == name2.toList with
  | false =>
    have HB := Lib.hid (show be = false from by rw [HE.out, hn]; rfl)
    go_wp2_with fail
    go_ret
    exact ⟨by rw [HB.out] <;> rfl, S1.out.old⟩
  | true =>
    cases hu : ver == ver2 with
    | false =>
      have hu2 : (ver != ver2) = true := by rw [bne, hu]; rfl
      have HB := Lib.hid (show be = false from by rw [HE.out, hn, hu]; rfl)
      go_wp2_with fail
      go_ret
      exact ⟨by rw [HB.out] <;> rfl, S1.out.old⟩
    | true =>
      have hu2 : (ver != ver2) = false := by rw [bne, hu]; rfl
      have HB := Lib.hid (show be = (b1 && b2) from by rw [HE.out, hn, hu]; rfl)
      cases b1 with
      | false =>
        go_wp2_with fail
        go_at_call 37
        refine (HEF.out _ S1.out.old).mono ?_
        rintro e w1 ⟨rfl, hb⟩
        clear f0 f1 f2 f3 f4 f5 f6 f7
        have S2 := Lib.hid (S1.out.keep hb)
        clear S1
        clear hb
        have hh := Bag.cs4 S2.out 0 rfl
        have f0 := hh.1; have f1 := hh.2.1; have f2 := hh.2.2.1; have f3 := hh.2.2.2; clear hh
        have hh := Bag.cs4 S2.out 1 rfl
        have f4 := hh.1; have f5 := hh.2.1; have f6 := hh.2.2.1; have f7 := hh.2.2.2; clear hh
        go_wp2_with fail
        go_ret
        exact ⟨by rw [HB.out, Bool.false_and] <;> rfl, S2.out.old⟩
      | true =>
        go_wp2_with fail
        go_at_call 37
        refine (HEF.out _ S1.out.old).mono ?_
        rintro e w1 ⟨rfl, hb⟩
        clear f0 f1 f2 f3 f4 f5 f6 f7
        have S2 := Lib.hid (S1.out.keep hb)
        clear S1
        clear hb
        have hh := Bag.cs4 S2.out 0 rfl
        have f0 := hh.1; have f1 := hh.2.1; have f2 := hh.2.2.1; have f3 := hh.2.2.2; clear hh
        have hh := Bag.cs4 S2.out 1 rfl
        have f4 := hh.1; have f5 := hh.2.1; have f6 := hh.2.2.1; have f7 := hh.2.2.2; clear hh
        go_wp2_with fail
        go_at_call 39
        refine (HEX.out _ S2.out.old).mono ?_
        rintro e w2 ⟨rfl, hb⟩
        clear f0 f1 f2 f3 f4 f5 f6 f7
        have S3 := Lib.hid (S2.out.keep hb)
        clear S2
        clear hb
        have hh := Bag.cs4 S3.out 0 rfl
        have f0 := hh.1; have f1 := hh.2.1; have f2 := hh.2.2.1; have f3 := hh.2.2.2; clear hh
        have hh := Bag.cs4 S3.out 1 rfl
        have f4 := hh.1; have f5 := hh.2.1; have f6 := hh.2.2.1; have f7 := hh.2.2.2; clear hh
        go_wp2_with fail
        go_ret
        exact ⟨by rw [HB.out, Bool.true_and] <;> rfl, S3.out.old⟩
end Go.Proofs.Ytboefioalkjdaaa.L8

