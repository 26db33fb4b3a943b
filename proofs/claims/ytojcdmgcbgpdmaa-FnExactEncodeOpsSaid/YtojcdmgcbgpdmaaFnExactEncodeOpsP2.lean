/-
  What the law FnExactEncodeOps needs, laid by my program lawpack.py, part 2: the texts VOp, L9Num, VzOp, L9Fw, L5Dm, L5Dec, L4Dec, L6Sx, L9Enc, L9Cv, L9Sa, L9Sc, L4Im0, L4Im1, L5Ia, L5Ib, L9Ia, Any, L9Ar, L5If, L4Im3, L9Ic, VzNum, one behind the other; each begins with its own words.
-/
import Derived.Test.YtojcdmgcbgpdmaaFnExactEncodeOpsP1
set_option linter.unusedSimpArgs false
set_option linter.unusedVariables false
set_option maxRecDepth 100000
set_option linter.unusedSimpArgs false
namespace Go.Proofs.Ytojcdmgcbgpdmaa.V
open Go.ChangeShapes Go.WideShapes Go.ChangeAt Go.RowKit Mem Sl Sv Bag
open L5 (markT)
structure X_Op where
 f_Kind : Int
 f_Store : ByteArray
 f_Key : L4.K
 f_Record : List L5.F
 f_Field : ByteArray
structure Y_Op where
 f_Kind : Int
 f_Store : ByteArray
 f_Key : L4.K
 f_Record : LRecord
 f_Field : ByteArray
def co_Op (z : Y_Op) : X_Op := ⟨z.f_Kind, z.f_Store, co_Key z.f_Key, co_Record z.f_Record, z.f_Field⟩
def coS_Op (xs : List Y_Op) : List X_Op := xs.map co_Op
theorem coS_Op_eq (xs : List Y_Op) : coS_Op xs = xs.map co_Op := rfl
def cl_Op (z : Y_Op) : List Value := [.int .i64 z.f_Kind, .string z.f_Store, .int .i64 z.f_Key.kind, .int .i64 z.f_Key.n, .string z.f_Key.text, .slice z.f_Record.a z.f_Record.l.length z.f_Record.c, .string z.f_Field]
def vv_Op (z : Y_Op) : Value := .agg #[.int .i64 z.f_Kind, .string z.f_Store, .int .i64 z.f_Key.kind, .int .i64 z.f_Key.n, .string z.f_Key.text, .slice z.f_Record.a z.f_Record.l.length z.f_Record.c, .string z.f_Field]
def rw_Op (z : Y_Op) : List RowS := rw_Record z.f_Record
def wt_Op (c : X_Op) : Nat := c.f_Store.size + (wt_Key c.f_Key + (wt_Record c.f_Record + (c.f_Field.size)))
theorem wt_Op_parts (z : Y_Op) : wt_Op (co_Op z) = z.f_Store.size + (wt_Key (co_Key z.f_Key) + (wt_Record (co_Record z.f_Record) + (z.f_Field.size))) := rfl
theorem cl_Op_len (z : Y_Op) : (cl_Op z).length = 7 := rfl
def row_Op (a : Option Addr) (c : Nat) (xs : List Y_Op) : RowS := ⟨148, 7, a, c, xs.length, xs.flatMap cl_Op⟩
def rws_Op (xs : List Y_Op) : List RowS := xs.flatMap rw_Op
theorem rws_Op_eq (xs : List Y_Op) : rws_Op xs = xs.flatMap rw_Op := rfl
def rs_Op (a : Option Addr) (c : Nat) (xs : List Y_Op) : List RowS := row_Op a c xs :: rws_Op xs
theorem rws_Op_app (xs ys : List Y_Op) : rws_Op (xs ++ ys) = rws_Op xs ++ rws_Op ys := by rw [rws_Op_eq, rws_Op_eq, rws_Op_eq, List.flatMap_append]
def Wide_Op (z : Y_Op) : Prop := (-9223372036854775808 ≤ z.f_Kind ∧ z.f_Kind ≤ 9223372036854775807) ∧ z.f_Store.size ≤ maxLen ∧ Wide_Key z.f_Key ∧ Wide_Record z.f_Record ∧ z.f_Field.size ≤ maxLen
section
variable {H : Type} {enc : TypeId × Value → H} {W : World} {b : Nat} {sp : Nat → Bool} {hd : Bool}
theorem trod_Op {fuel : Nat} {cs : List Value} {x : DataW H × List MemPlace} (h : DataW.trod enc Try.prog W b sp hd fuel 146 cs = some x) (hlt : ∀ p ∈ x.2, p.block < W.heap.size) : ∃ z : Y_Op, cs = cl_Op z ∧ RowsRd W W.heap.size (rw_Op z) ∧ Wide_Op z := by
 obtain ⟨xs, n, _, hx, hl, hlen, hf⟩ := DataW.trod_struct Try.underlying146 h
 have hlN : cs.length = 7 := hl.trans (by kernel_rfl)
 match cs, hlN with
 | [c0, c1, c2, c3, c4, c5, c6], _ =>
  have h0 : DataW.trod enc Try.prog W b sp hd n 3 (List.take (Try.prog.cellsOf 3) (List.drop 0 [c0, c1, c2, c3, c4, c5, c6])) = xs[0]? := hf 0 _ rfl
  rw [show Try.prog.cellsOf 3 = 1 by kernel_rfl, List.getElem?_eq_getElem (by rw [hlen]; decide)] at h0
  obtain ⟨x0, e0, _, w0⟩ := DataW.trod_int Try.underlying3 h0
  have h1 : DataW.trod enc Try.prog W b sp hd n 9 (List.take (Try.prog.cellsOf 9) (List.drop 1 [c0, c1, c2, c3, c4, c5, c6])) = xs[1]? := hf 1 _ rfl
  rw [show Try.prog.cellsOf 9 = 1 by kernel_rfl, List.getElem?_eq_getElem (by rw [hlen]; decide)] at h1
  obtain ⟨x1, e1, _, w1⟩ := DataW.trod_string Try.underlying9 h1
  have h2 : DataW.trod enc Try.prog W b sp hd n 58 (List.take (Try.prog.cellsOf 58) (List.drop 2 [c0, c1, c2, c3, c4, c5, c6])) = xs[2]? := hf 2 _ rfl
  rw [show Try.prog.cellsOf 58 = 3 by kernel_rfl, List.getElem?_eq_getElem (by rw [hlen]; decide)] at h2
  obtain ⟨x2, e2, r2, w2⟩ := trod_Key h2 (fun p hp => hlt p (by rw [hx]; exact List.mem_flatMap.2 ⟨_, List.getElem_mem (show 2 < xs.length by rw [hlen]; decide), hp⟩))
  have h3 : DataW.trod enc Try.prog W b sp hd n 61 (List.take (Try.prog.cellsOf 61) (List.drop 5 [c0, c1, c2, c3, c4, c5, c6])) = xs[3]? := hf 3 _ rfl
  rw [show Try.prog.cellsOf 61 = 1 by kernel_rfl, List.getElem?_eq_getElem (by rw [hlen]; decide)] at h3
  obtain ⟨x3, e3, r3, w3⟩ := trod_Record h3 (fun p hp => hlt p (by rw [hx]; exact List.mem_flatMap.2 ⟨_, List.getElem_mem (show 3 < xs.length by rw [hlen]; decide), hp⟩))
  have h4 : DataW.trod enc Try.prog W b sp hd n 9 (List.take (Try.prog.cellsOf 9) (List.drop 6 [c0, c1, c2, c3, c4, c5, c6])) = xs[4]? := hf 4 _ rfl
  rw [show Try.prog.cellsOf 9 = 1 by kernel_rfl, List.getElem?_eq_getElem (by rw [hlen]; decide)] at h4
  obtain ⟨x4, e4, _, w4⟩ := DataW.trod_string Try.underlying9 h4
  simp only [List.drop_succ_cons, List.drop_zero, List.take_succ_cons, List.take_zero, List.cons.injEq, and_true] at e0
  subst e0
  simp only [List.drop_succ_cons, List.drop_zero, List.take_succ_cons, List.take_zero, List.cons.injEq, and_true] at e1
  subst e1
  simp only [List.drop_succ_cons, List.drop_zero, List.take_succ_cons, List.take_zero, cl_Key, List.cons.injEq, and_true] at e2
  obtain ⟨rfl, rfl, rfl⟩ := e2
  simp only [List.drop_succ_cons, List.drop_zero, List.take_succ_cons, List.take_zero, cl_Record, List.cons.injEq, and_true] at e3
  subst e3
  simp only [List.drop_succ_cons, List.drop_zero, List.take_succ_cons, List.take_zero, List.cons.injEq, and_true] at e4
  subst e4
  exact ⟨⟨x0, x1, x2, x3, x4⟩, rfl, r3, ⟨Law.wf_i64 w0, w1, w2, w3, w4⟩⟩
theorem trods_Op {fuel : Nat} {cs : List Value} {x : DataW H × List MemPlace} (h : DataW.trod enc Try.prog W b sp hd fuel 78 cs = some x) (hlt : ∀ p ∈ x.2, p.block < W.heap.size) :
  ∃ (a : Option Addr) (xs : List Y_Op) (c : Nat), cs = [.slice a xs.length c] ∧ (Reads W W.heap.size a (xs.flatMap cl_Op) ∧ xs.length ≤ c ∧ (a = none → c = 0)) ∧ RowsRd W W.heap.size (xs.flatMap rw_Op) ∧ xs.length ≤ maxLen ∧ ∀ z ∈ xs, Wide_Op z :=
 trods cl_Op 7 cl_Op_len (by decide) rw_Op Wide_Op 78 146 Try.underlying78 (by kernel_rfl) (fun h hl => trod_Op h hl) h hlt
end
set_option maxHeartbeats 4000000 in
theorem to_Op (z : Y_Op) (hf : wt_Op (co_Op z) ≤ 1048576) (w : World) (hr : RowsRd w w.heap.size (rw_Op z)) : Calls Try.prog 125 #[vv_Op z] w fun e w' => ∃ y : Y_Op, e = .returned (vv_Op y) ∧ co_Op y = co_Op z ∧ BagOwn w' w.heap.size (rw_Op y) ∧ Below w.heap.size w w' := by
 have hfp := hf
 rw [wt_Op_parts] at hfp
 have HC2 := Lib.hid (fun w' => to_Key z.f_Key w')
 dsimp only [vv_Key] at HC2
 have HC3 := Lib.hid (fun w' (h : Below w.heap.size w w') => to_Record z.f_Record (by omega) w' (((hr).below h).more h.size))
 try dsimp only [vv_Record] at HC3
 clear hfp hf hr
 unfold vv_Op
 have S1 := Lib.hid (show Sl.Sep w _ [_, _] from L4.push_box (L4.push_box (Sl.Sep.start w) 146 #[.int .i64 z.f_Kind, .string z.f_Store, .int .i64 z.f_Key.kind, .int .i64 z.f_Key.n, .string z.f_Key.text, .slice z.f_Record.a z.f_Record.l.length z.f_Record.c, .string z.f_Field] (w.heap.size) (by simp)) 148 #[.int .i64 0, .string ⟨#[]⟩, .int .i64 0, .int .i64 0, .string ⟨#[]⟩, .slice none 0 0, .string ⟨#[]⟩] (w.heap.size + 1) (by simp))
 obtain ⟨wa, hwa⟩ : ∃ w_, w_ = ((w.alloc (.cells #[.int .i64 z.f_Kind, .string z.f_Store, .int .i64 z.f_Key.kind, .int .i64 z.f_Key.n, .string z.f_Key.text, .slice z.f_Record.a z.f_Record.l.length z.f_Record.c, .string z.f_Field] 146)).alloc (.cells #[.int .i64 0, .string ⟨#[]⟩, .int .i64 0, .int .i64 0, .string ⟨#[]⟩, .slice none 0 0, .string ⟨#[]⟩] 148)) := ⟨_, rfl⟩
 rw [← hwa] at S1
 go_enter Try.func125, Try.ntmps125
 go_upto_region 1 with fail
 rw [← hwa]
 clear hwa
 go_upto_region 2 with fail
 have S2 := Lib.hid (show Sl.Sep w _ [_, _, _] from L4.push_box S1.out 148 #[.int .i64 0, .string ⟨#[]⟩, .int .i64 0, .int .i64 0, .string ⟨#[]⟩, .slice none 0 0, .string ⟨#[]⟩] wa.heap.size rfl)
 clear S1
 obtain ⟨g1, hg⟩ : ∃ g', g' = wa.heap.size := ⟨_, rfl⟩
 rw [← hg] at S2 ⊢
 clear hg
 generalize wa.alloc (.cells #[.int .i64 0, .string ⟨#[]⟩, .int .i64 0, .int .i64 0, .string ⟨#[]⟩, .slice none 0 0, .string ⟨#[]⟩] 148) = w1 at S2 ⊢
 obtain ⟨f0, f1, f2, f3, f4, f5, f6⟩ := Bag.cs7 S2.out 0 rfl
 obtain ⟨f7, f8, f9, f10, f11, f12, f13⟩ := Bag.cs7 S2.out 2 rfl
 have z0 := Bag.free_at S2.out 2 rfl 0
 go_upto_region 3 with fail
 clear f0 f1 f2 f3 f4 f5 f6 f7 f8 f9 f10 f11 f12 f13 z0
 have S3 := Lib.hid (show Sl.Sep w _ [_, _, L4.boxR g1 148 #[.int .i64 z.f_Kind, .string ⟨#[]⟩, .int .i64 0, .int .i64 0, .string ⟨#[]⟩, .slice none 0 0, .string ⟨#[]⟩]] from L5.put_box5 (S2.out) 2 rfl 0 (.int .i64 z.f_Kind))
 clear S2
 obtain ⟨f0, f1, f2, f3, f4, f5, f6⟩ := Bag.cs7 S3.out 0 rfl
 obtain ⟨f7, f8, f9, f10, f11, f12, f13⟩ := Bag.cs7 S3.out 2 rfl
 have z1 := Bag.free_at S3.out 2 rfl 1
 go_upto_region 4 with fail
 clear f0 f1 f2 f3 f4 f5 f6 f7 f8 f9 f10 f11 f12 f13 z1
 have S4 := Lib.hid (show Sl.Sep w _ [_, _, L4.boxR g1 148 #[.int .i64 z.f_Kind, .string z.f_Store, .int .i64 0, .int .i64 0, .string ⟨#[]⟩, .slice none 0 0, .string ⟨#[]⟩]] from L5.put_box5 (S3.out) 2 rfl 1 (.string z.f_Store))
 clear S3
 obtain ⟨f0, f1, f2, f3, f4, f5, f6⟩ := Bag.cs7 S4.out 0 rfl
 go_wp2_with fail
 go_at_call 38
 refine (HC2.out _).mono ?_
 rintro e w2 ⟨rfl, hb⟩
 clear f0 f1 f2 f3 f4 f5 f6
 have S5 := Lib.hid (S4.out.keep hb)
 clear S4
 clear hb
 obtain ⟨f0, f1, f2, f3, f4, f5, f6⟩ := Bag.cs7 S5.out 0 rfl
 obtain ⟨f7, f8, f9, f10, f11, f12, f13⟩ := Bag.cs7 S5.out 2 rfl
 have z2 := Bag.free_at S5.out 2 rfl 2
 have z3 := Bag.free_at S5.out 2 rfl 3
 have z4 := Bag.free_at S5.out 2 rfl 4
 go_upto_region 5 with fail
 clear f0 f1 f2 f3 f4 f5 f6 f7 f8 f9 f10 f11 f12 f13 z2 z3 z4
 have S6 := Lib.hid (show Sl.Sep w _ [L4.boxR w.heap.size 146 #[.int .i64 z.f_Kind, .string z.f_Store, .int .i64 z.f_Key.kind, .int .i64 z.f_Key.n, .string z.f_Key.text, .slice z.f_Record.a z.f_Record.l.length z.f_Record.c, .string z.f_Field], L4.boxR (w.heap.size + 1) 148 #[.int .i64 0, .string ⟨#[]⟩, .int .i64 0, .int .i64 0, .string ⟨#[]⟩, .slice none 0 0, .string ⟨#[]⟩], L4.boxR g1 148 #[.int .i64 z.f_Kind, .string z.f_Store, .int .i64 z.f_Key.kind, .int .i64 z.f_Key.n, .string z.f_Key.text, .slice none 0 0, .string ⟨#[]⟩]] from L5.put_box5 (L5.put_box5 (L5.put_box5 (S5.out) 2 rfl 2 (.int .i64 z.f_Key.kind)) 2 rfl 3 (.int .i64 z.f_Key.n)) 2 rfl 4 (.string z.f_Key.text))
 clear S5
 obtain ⟨f0, f1, f2, f3, f4, f5, f6⟩ := Bag.cs7 S6.out 0 rfl
 go_wp2_with fail
 go_at_call 39
 refine (HC3.out _ S6.out.old).mono ?_
 rintro e w3 ⟨y3, rfl, hc3, ho, hb⟩
 clear f0 f1 f2 f3 f4 f5 f6
 have S7 := Lib.hid (show Sl.Sep w _ [_, _, _, Bag.bag (rw_Record y3)] from Bag.push_bag S6.out hb ho)
 clear S6
 clear hb ho
 have HQ3 := Lib.hid hc3
 clear hc3
 try dsimp only [vv_Record]
 obtain ⟨f0, f1, f2, f3, f4, f5, f6⟩ := Bag.cs7 S7.out 0 rfl
 obtain ⟨f7, f8, f9, f10, f11, f12, f13⟩ := Bag.cs7 S7.out 2 rfl
 have z5 := Bag.free_at S7.out 2 rfl 5
 go_upto_region 6 with fail
 clear f0 f1 f2 f3 f4 f5 f6 f7 f8 f9 f10 f11 f12 f13 z5
 have S8 := Lib.hid (show Sl.Sep w _ [_, _, L4.boxR g1 148 #[.int .i64 z.f_Kind, .string z.f_Store, .int .i64 z.f_Key.kind, .int .i64 z.f_Key.n, .string z.f_Key.text, .slice y3.a y3.l.length y3.c, .string ⟨#[]⟩], _] from L5.put_box5 (S7.out) 2 rfl 5 (.slice y3.a y3.l.length y3.c))
 clear S7
 obtain ⟨f0, f1, f2, f3, f4, f5, f6⟩ := Bag.cs7 S8.out 0 rfl
 obtain ⟨f7, f8, f9, f10, f11, f12, f13⟩ := Bag.cs7 S8.out 2 rfl
 have z6 := Bag.free_at S8.out 2 rfl 6
 go_upto_region 7 with fail
 clear f0 f1 f2 f3 f4 f5 f6 f7 f8 f9 f10 f11 f12 f13 z6
 have S9 := Lib.hid (show Sl.Sep w _ [_, _, L4.boxR g1 148 #[.int .i64 z.f_Kind, .string z.f_Store, .int .i64 z.f_Key.kind, .int .i64 z.f_Key.n, .string z.f_Key.text, .slice y3.a y3.l.length y3.c, .string z.f_Field], _] from L5.put_box5 (S8.out) 2 rfl 6 (.string z.f_Field))
 clear S8
 obtain ⟨f0, f1, f2, f3, f4, f5, f6⟩ := Bag.cs7 S9.out 1 rfl
 obtain ⟨f7, f8, f9, f10, f11, f12, f13⟩ := Bag.cs7 S9.out 2 rfl
 obtain ⟨z0, z1, z2, z3, z4, z5, z6⟩ := Bag.fs7 S9.out 1 rfl
 go_wp2_with fail
 clear f0 f1 f2 f3 f4 f5 f6 f7 f8 f9 f10 f11 f12 f13 z0 z1 z2 z3 z4 z5 z6
 have S10 := Lib.hid (show Sl.Sep w _ [_, L4.boxR (w.heap.size + 1) 148 #[.int .i64 z.f_Kind, .string z.f_Store, .int .i64 z.f_Key.kind, .int .i64 z.f_Key.n, .string ⟨#[]⟩, .slice none 0 0, .string ⟨#[]⟩], _, _] from L5.put_box5 (L5.put_box5 (L5.put_box5 (L5.put_box5 (S9.out) 1 rfl 0 (.int .i64 z.f_Kind)) 1 rfl 1 (.string z.f_Store)) 1 rfl 2 (.int .i64 z.f_Key.kind)) 1 rfl 3 (.int .i64 z.f_Key.n))
 clear S9
 have S11 := Lib.hid (show Sl.Sep w _ [_, L4.boxR (w.heap.size + 1) 148 #[.int .i64 z.f_Kind, .string z.f_Store, .int .i64 z.f_Key.kind, .int .i64 z.f_Key.n, .string z.f_Key.text, .slice y3.a y3.l.length y3.c, .string z.f_Field], _, _] from L5.put_box5 (L5.put_box5 (L5.put_box5 (S10.out) 1 rfl 4 (.string z.f_Key.text)) 1 rfl 5 (.slice y3.a y3.l.length y3.c)) 1 rfl 6 (.string z.f_Field))
 clear S10
 obtain ⟨f0, f1, f2, f3, f4, f5, f6⟩ := Bag.cs7 S11.out 1 rfl
 refine bodyPost_ret (v := .agg #[.int .i64 z.f_Kind, .string z.f_Store, .int .i64 z.f_Key.kind, .int .i64 z.f_Key.n, .string z.f_Key.text, .slice y3.a y3.l.length y3.c, .string z.f_Field]) (by simp [results, Try.results125, go_sem, *]) rfl ?_
 clear f0 f1 f2 f3 f4 f5 f6
 refine ⟨⟨z.f_Kind, z.f_Store, z.f_Key, y3, z.f_Field⟩, rfl, ?_, Bag.bag_from S11.out 3 rfl, S11.out.old⟩
 show (⟨z.f_Kind, z.f_Store, co_Key z.f_Key, co_Record y3, z.f_Field⟩ : X_Op) = (⟨z.f_Kind, z.f_Store, co_Key z.f_Key, co_Record z.f_Record, z.f_Field⟩ : X_Op)
 rw [HQ3.out]
theorem info_Op : ∃ i, Try.prog.info? 148 = some i ∧ i.zero = some (.agg #[.int .i64 0, .string ⟨#[]⟩, .int .i64 0, .int .i64 0, .string ⟨#[]⟩, .slice none 0 0, .string ⟨#[]⟩]) ∧ i.size = 7 ∧ i.bytes = 96 := Ex.infoOf _ _ _ _ (by kernel_rfl)
set_option maxHeartbeats 4000000 in
theorem to_OpS (a : Option Addr) (c : Nat) (xs : List Y_Op) (hf : wsum wt_Op (coS_Op xs) ≤ 1048576) (w : World) (hr : Reads w w.heap.size a (xs.flatMap cl_Op)) (hx : RowsRd w w.heap.size (rws_Op xs)) :
  Calls Try.prog 52 #[.slice a xs.length c] w fun e w' => ∃ a' c' ys, e = .returned (.slice a' ys.length c') ∧ coS_Op ys = coS_Op xs ∧ BagOwn w' w.heap.size (rs_Op a' c' ys) ∧ Below w.heap.size w w' := by
 obtain ⟨i0, hi1, hi2, hi3, hi4⟩ := info_Op
 have HI := Lib.hid (And.intro hi1 (And.intro hi2 (And.intro hi3 hi4)))
 clear hi1 hi2 hi3 hi4
 rw [coS_Op_eq] at hf
 have HR := Lib.hid (fun w' (h : Below w.heap.size w w') => hr.below h)
 have HX := Lib.hid (fun w' (h : Below w.heap.size w w') => (hx.below h).more h.size)
 have HF := Lib.hid hf
 have hl : xs.length ≤ 1048576 := by have := wsum_len wt_Op (xs.map co_Op); rw [List.length_map] at this; omega
 obtain ⟨N, hN⟩ : ∃ n, n = xs.length := ⟨_, rfl⟩
 rw [← hN] at hl ⊢
 have hl' : (N : Int) ≤ 1048576 := by omega
 have HN := Lib.hid hN
 clear hN hr hx hf
 obtain ⟨Z, hZ⟩ : ∃ Z, Z = (madeCells (Value.agg #[.int .i64 0, .string ⟨#[]⟩, .int .i64 0, .int .i64 0, .string ⟨#[]⟩, .slice none 0 0, .string ⟨#[]⟩]).cells (N * 7)).toList := ⟨_, rfl⟩
 have HZ := Lib.hid (show Z.length = N * 7 by rw [hZ]; simp [madeCells])
 have HZD := Lib.hid hZ
 clear hZ
 have S1 := Lib.hid (show Sl.Sep w w [] from Sl.Sep.start w)
 go_enter Try.func52, Try.ntmps52
 go_upto_region 2 with (at_make; refine Run.wpList_make_s S1.out rfl _ _ 82 rfl 148 i0 (.agg #[.int .i64 0, .string ⟨#[]⟩, .int .i64 0, .int .i64 0, .string ⟨#[]⟩, .slice none 0 0, .string ⟨#[]⟩]) 7 Try.underlying82 HI.out.1 HI.out.2.1 HI.out.2.2.1 _ _ N rfl rfl (by rw [HI.out.2.2.2]; omega) (by unfold maxLen; omega) ?_; intro w1 S')
 obtain ⟨g1, hg⟩ : ∃ g', g' = w.heap.size := ⟨_, rfl⟩
 rw [← hg] at S' ⊢
 clear hg
 have S2 := Lib.hid (show Sl.Sep w _ [Sv.ownV 148 7 (some ⟨g1, 0, none⟩) N N (([] : List Y_Op).flatMap cl_Op ++ Z)] from (by have h := S'; rw [← HZD.out] at h; exact h))
 clear S1
 clear S'
 have S3 := Lib.hid (show Sl.Sep w _ [_, Bag.bag (rws_Op [])] from Bag.push_bag S2.out (Below.refl _ _) (by rw [rws_Op_eq]; exact Bag.BagOwn.nil _ _))
 clear S2
 go_wp2_with fail
 go_loopw [4] (fun i wr => ∃ (k : Nat) (ys : List Y_Op) (Zs : List Value), k ≤ N ∧ i = .int .i64 k ∧ Hid ((ys.map co_Op = (xs.take k).map co_Op ∧ ys.length = k ∧ Zs.length = (N - k) * 7) ∧ Sl.Sep w wr [Sv.ownV 148 7 (some ⟨g1, 0, none⟩) N N (ys.flatMap cl_Op ++ Zs), Bag.bag (rws_Op ys)])) (fun i _ => N - (intOf i).toNat)
 case atStart => exact ⟨0, [], Z, Nat.zero_le _, rfl, And.intro ⟨rfl, rfl, HZ.out⟩ S3.out⟩
 case round =>
  obtain ⟨k, ys, Zs, hk, rfl, hrel⟩ := hrel
  have HC := Lib.hid hrel.out.1
  have S4 := Lib.hid hrel.out.2
  clear hrel S3
  by_cases hlt : (k : Int) < (N : Int)
  ·
   skip
   have hkl : k < xs.length := by have := HN.out; omega
   obtain ⟨x, hx⟩ : ∃ x, xs[k]? = some x := ⟨_, List.getElem?_eq_getElem hkl⟩
   obtain ⟨ad, e'⟩ := el_some cl_Op_len (by decide) (HR.out _ S4.out.old) hkl
   subst e'
   have HK := Lib.hid (fun w' (h : Below w.heap.size w w') => el7 cl_Op_len (HR.out _ h) hx rfl)
   have HTX := Lib.hid (take_next hx)
   have HL := Lib.hid (show (ys.flatMap cl_Op).length = k * 7 ∧ k * 7 + 7 ≤ (ys.flatMap cl_Op ++ Zs).length ∧ 7 ≤ Zs.length from by have h1 := HC.out.2.1; have h2 := HC.out.2.2; rw [List.length_append, flat_len cl_Op_len, h1, h2]; omega)
   have HCI := Lib.hid (fun w' (h : Below w.heap.size w w') => to_Op x (by have h1 := wsum_mem (f := wt_Op) (List.mem_map.2 ⟨x, List.mem_of_getElem? hx, rfl⟩ : co_Op x ∈ xs.map co_Op); have h2 := HF.out; omega) w' (rd_el (rw_ := rw_Op) (by rw [← rws_Op_eq]; exact HX.out w' h) hx))
   dsimp only [vv_Op] at HCI
   clear hx
   obtain ⟨f0, f1, f2, f3, f4, f5, f6⟩ := HK.out _ S4.out.old
   go_wp2_with fail
   go_at_call 125
   refine (HCI.out _ S4.out.old).mono ?_
   rintro e w2 ⟨y, rfl, hcy, ho, hb⟩
   clear f0 f1 f2 f3 f4 f5 f6
   have S5 := Lib.hid (show Sl.Sep w _ [Sv.ownV 148 7 (some ⟨g1, 0, none⟩) N N (ys.flatMap cl_Op ++ Zs), Bag.bag (rws_Op ys), Bag.bag (rw_Op y)] from Bag.push_bag S4.out hb ho)
   clear S4
   clear hb ho
   have HCY := Lib.hid hcy
   clear hcy
   try dsimp only [vv_Op]
   have q0 := (Sv.own_at S5.out 0 rfl).cell (k * 7) (by have := HL.out.2.1; omega)
   have z0 := (Sv.own_at S5.out 0 rfl).free (k * 7)
   have q1 := (Sv.own_at S5.out 0 rfl).cell (k * 7 + 1) (by have := HL.out.2.1; omega)
   have z1 := (Sv.own_at S5.out 0 rfl).free (k * 7 + 1)
   have q2 := (Sv.own_at S5.out 0 rfl).cell (k * 7 + 2) (by have := HL.out.2.1; omega)
   have z2 := (Sv.own_at S5.out 0 rfl).free (k * 7 + 2)
   have q3 := (Sv.own_at S5.out 0 rfl).cell (k * 7 + 3) (by have := HL.out.2.1; omega)
   have z3 := (Sv.own_at S5.out 0 rfl).free (k * 7 + 3)
   have q4 := (Sv.own_at S5.out 0 rfl).cell (k * 7 + 4) (by have := HL.out.2.1; omega)
   have z4 := (Sv.own_at S5.out 0 rfl).free (k * 7 + 4)
   have q5 := (Sv.own_at S5.out 0 rfl).cell (k * 7 + 5) (by have := HL.out.2.1; omega)
   have z5 := (Sv.own_at S5.out 0 rfl).free (k * 7 + 5)
   have q6 := (Sv.own_at S5.out 0 rfl).cell (k * 7 + 6) (by have := HL.out.2.1; omega)
   have z6 := (Sv.own_at S5.out 0 rfl).free (k * 7 + 6)
   go_wp2_with fail
   clear q0 z0 q1 z1 q2 z2 q3 z3 q4 z4 q5 z5 q6 z6
   have S6 := Lib.hid (show Sl.Sep w (World.setCells w2 g1 (k * 7) [.int .i64 y.f_Kind, .string y.f_Store, .int .i64 y.f_Key.kind, .int .i64 y.f_Key.n, .string y.f_Key.text, .slice y.f_Record.a y.f_Record.l.length y.f_Record.c, .string y.f_Field]) [Sv.ownV 148 7 (some ⟨g1, 0, none⟩) N N ((ys ++ [y]).flatMap cl_Op ++ Zs.drop 7), Bag.bag (rws_Op ys), Bag.bag (rw_Op y)] from (by have h := Run.put_run S5.out 0 rfl (k * 7) [.int .i64 y.f_Kind, .string y.f_Store, .int .i64 y.f_Key.kind, .int .i64 y.f_Key.n, .string y.f_Key.text, .slice y.f_Record.a y.f_Record.l.length y.f_Record.c, .string y.f_Field] (by have := HL.out.2.1; simpa using this); rw [Run.over_at _ _ _ _ HL.out.1 (by have := HL.out.2.2; simpa using this)] at h; rw [List.flatMap_append, List.append_assoc]; exact h))
   clear S5
   have S7 := Lib.hid (show Sl.Sep w _ [Sv.ownV 148 7 (some ⟨g1, 0, none⟩) N N ((ys ++ [y]).flatMap cl_Op ++ Zs.drop 7), Bag.bag (rws_Op ys ++ (rw_Op y)), Bag.bag ([])] from Bag.bag_join S6.out 1 2 (by decide) rfl rfl)
   clear S6
   have S8 := Lib.hid (show Sl.Sep w _ [_, _] from Bag.take S7.out [0, 1] (by rfl) (by decide))
   clear S7
   go_roundw
   case rel =>
    refine ⟨k + 1, ys ++ [y], Zs.drop 7, by omega, by go_num, And.intro ⟨?_, ?_, ?_⟩ ?_⟩
    ·
     rw [HTX.out, List.map_append, List.map_append, HC.out.1]; rw [show [y].map co_Op = [x].map co_Op from congrArg (fun u => [u]) HCY.out]
    ·
     rw [List.length_append, HC.out.2.1]; rfl
    ·
     rw [List.length_drop, HC.out.2.2]; omega
    ·
     rw [rws_Op_app]; rw [show rws_Op [y] = rw_Op y from by rw [rws_Op_eq]; simp]; exact S8.out
   case measure => simp [intOf]; omega
  ·
   skip
   obtain rfl : k = N := by omega
   go_wp2_with fail
   go_ret
   obtain ⟨hc1, hc2, hc3⟩ := HC.out
   have hZs : Zs = [] := List.eq_nil_of_length_eq_zero (by rw [hc3]; omega)
   have hcon : ys.map co_Op = xs.map co_Op := by rw [hc1, List.take_of_length_le (by have := HN.out; omega)]
   have S90 := Lib.hid (Bag.bag_of_one S4.out 0 (r := row_Op (some ⟨g1, 0, none⟩) k ys) (by unfold RowS.res row_Op; dsimp only; rw [hZs, List.append_nil, hc2]; rfl))
   have S91 := Lib.hid (Bag.bag_join S90.out 0 1 (by decide) rfl rfl)
   have hb := Bag.bag_from S91.out 0 rfl
   subst hc2
   exact ⟨_, _, ys, rfl, by rw [coS_Op_eq, coS_Op_eq]; exact hcon, hb, S91.out.old⟩
set_option maxHeartbeats 4000000 in
theorem sz_Op (z : Y_Op) (q : Int) (hw : Wide_Op z) (hq0 : -1 ≤ q) (hq1 : q ≤ 1048576) (w : World) (hr : RowsRd w w.heap.size (rw_Op z)) : Calls Try.prog 124 #[vv_Op z, .int .i64 q] w fun e w' => e = .returned (.int .i64 (lft q (wt_Op (co_Op z)))) ∧ Below w.heap.size w w' := by
 have hs1 : (z.f_Store.size : Int) ≤ 9223372036854775807 := by have h : z.f_Store.size ≤ maxLen := hw.2.1; unfold maxLen at h; omega
 have HS2 := Lib.hid (fun (m : Int) (h0 : -1 ≤ m) (h1 : m ≤ 1048576) w' => sz_Key z.f_Key m (hw.2.2.1) h0 h1 w')
 dsimp only [vv_Key] at HS2
 have HS3 := Lib.hid (fun (m : Int) (h0 : -1 ≤ m) (h1 : m ≤ 1048576) w' (h : Below w.heap.size w w') => sz_Record z.f_Record m (hw.2.2.2.1) h0 h1 w' (((hr).below h).more h.size))
 try dsimp only [vv_Record] at HS3
 have hs4 : (z.f_Field.size : Int) ≤ 9223372036854775807 := by have h : z.f_Field.size ≤ maxLen := hw.2.2.2.2; unfold maxLen at h; omega
 have HW := Lib.hid (wt_Op_parts z)
 clear hw hr
 unfold vv_Op
 have S1 := Lib.hid (show Sl.Sep w _ [_] from L4.push_box (Sl.Sep.start w) 146 #[.int .i64 z.f_Kind, .string z.f_Store, .int .i64 z.f_Key.kind, .int .i64 z.f_Key.n, .string z.f_Key.text, .slice z.f_Record.a z.f_Record.l.length z.f_Record.c, .string z.f_Field] (w.heap.size) (by simp))
 obtain ⟨wa, hwa⟩ : ∃ w_, w_ = (w.alloc (.cells #[.int .i64 z.f_Kind, .string z.f_Store, .int .i64 z.f_Key.kind, .int .i64 z.f_Key.n, .string z.f_Key.text, .slice z.f_Record.a z.f_Record.l.length z.f_Record.c, .string z.f_Field] 146)) := ⟨_, rfl⟩
 rw [← hwa] at S1
 go_enter Try.func124, Try.ntmps124
 go_upto_region 1 with fail
 rw [← hwa]
 clear hwa
 obtain ⟨f0, f1, f2, f3, f4, f5, f6⟩ := Bag.cs7 S1.out 0 rfl
 by_cases hn1 : q - (z.f_Store.size : Int) < 0
 ·
  skip
  go_wp2_with fail
  go_ret
  exact ⟨by rw [HW.out, lft_neg (by omega)] <;> rfl, S1.out.old⟩
 ·
  skip
  obtain ⟨u2, hu⟩ : ∃ u, lft (q - (z.f_Store.size : Int)) (wt_Key (co_Key z.f_Key)) = u := ⟨_, rfl⟩
  have hc2 := lft_cases hu
  have hr2 := lft_range (q := (q - (z.f_Store.size : Int))) (wt_Key (co_Key z.f_Key)) (by omega)
  rw [hu] at hr2
  have HCU := HS2.out (q - (z.f_Store.size : Int)) (by omega) (by omega)
  simp only [hu] at HCU
  replace HCU := Lib.hid HCU
  clear hu
  go_wp2_with fail
  go_at_call 35
  refine (HCU.out _).mono ?_
  rintro e w1 ⟨rfl, hb⟩
  clear f0 f1 f2 f3 f4 f5 f6
  have S2 := Lib.hid (S1.out.keep hb)
  clear S1
  clear hb
  obtain ⟨f0, f1, f2, f3, f4, f5, f6⟩ := Bag.cs7 S2.out 0 rfl
  clear HCU
  by_cases hn2 : u2 < 0
  ·
   have hm1 : u2 = -1 := by omega
   subst hm1
   go_wp2_with fail
   go_ret
   exact ⟨by rw [HW.out, lft_neg (by omega)] <;> rfl, S2.out.old⟩
  ·
   skip
   obtain ⟨u3, hu⟩ : ∃ u, lft u2 (wt_Record (co_Record z.f_Record)) = u := ⟨_, rfl⟩
   have hc3 := lft_cases hu
   have hr3 := lft_range (q := u2) (wt_Record (co_Record z.f_Record)) (by omega)
   rw [hu] at hr3
   have HCU := HS3.out u2 (by omega) (by omega)
   simp only [hu] at HCU
   replace HCU := Lib.hid HCU
   clear hu
   go_wp2_with fail
   go_at_call 36
   refine (HCU.out _ S2.out.old).mono ?_
   rintro e w2 ⟨rfl, hb⟩
   clear f0 f1 f2 f3 f4 f5 f6
   have S3 := Lib.hid (S2.out.keep hb)
   clear S2
   clear hb
   obtain ⟨f0, f1, f2, f3, f4, f5, f6⟩ := Bag.cs7 S3.out 0 rfl
   clear HCU
   by_cases hn3 : u3 < 0
   ·
    have hm1 : u3 = -1 := by omega
    subst hm1
    go_wp2_with fail
    go_ret
    exact ⟨by rw [HW.out, lft_neg (by omega)] <;> rfl, S3.out.old⟩
   ·
    skip
    by_cases hn4 : u3 - (z.f_Field.size : Int) < 0
    ·
     skip
     go_wp2_with fail
     go_ret
     exact ⟨by rw [HW.out, lft_neg (by omega)] <;> rfl, S3.out.old⟩
    ·
     skip
     go_wp2_with fail
     go_ret
     exact ⟨by rw [HW.out, lft_pos (by omega)] <;> first | rfl | (refine congrArg (fun i => Ending.returned (.int .i64 i)) ?_; omega), S3.out.old⟩
set_option maxHeartbeats 4000000 in
theorem sz_OpS (a : Option Addr) (c : Nat) (xs : List Y_Op) (q : Int) (hw : ∀ x ∈ xs, Wide_Op x) (hm : xs.length ≤ maxLen) (hq0 : -1 ≤ q) (hq1 : q ≤ 1048576) (w : World) (hr : Reads w w.heap.size a (xs.flatMap cl_Op)) (hx : RowsRd w w.heap.size (rws_Op xs)) :
  Calls Try.prog 50 #[.slice a xs.length c, .int .i64 q] w fun e w' => e = .returned (.int .i64 (lft q (wsum wt_Op (coS_Op xs)))) ∧ Below w.heap.size w w' := by
 have HR := Lib.hid (fun w' (h : Below w.heap.size w w') => hr.below h)
 have HX := Lib.hid (fun w' (h : Below w.heap.size w w') => (hx.below h).more h.size)
 have HWD := Lib.hid hw
 have HW := Lib.hid (show wsum wt_Op (coS_Op xs) = xs.length + fsum (fun x => wt_Op (co_Op x)) xs from by rw [coS_Op_eq, wsum_map])
 obtain ⟨N, hN⟩ : ∃ n, n = xs.length := ⟨_, rfl⟩
 rw [← hN] at hm HW ⊢
 have HN := Lib.hid hN
 have hm' : (N : Int) ≤ 9223372036854775807 := by unfold maxLen at hm; omega
 clear hN hr hx hw hm
 have S1 := Lib.hid (show Sl.Sep w w [] from Sl.Sep.start w)
 by_cases hneg : q - (N : Int) < 0
 ·
  skip
  go_enter Try.func50, Try.ntmps50
  go_wp2_with fail
  go_ret
  exact ⟨by rw [HW.out, lft_neg (by omega)] <;> rfl, Below.refl _ _⟩
 ·
  skip
  go_enter Try.func50, Try.ntmps50
  go_wp2_with fail
  go_loopw [1, 5] (fun lv i wr => ∃ (k : Nat) (m : Int), k ≤ N ∧ i = .int .i64 k ∧ lv = .int .i64 m ∧ 0 ≤ m ∧ m ≤ 1048576 ∧ Hid (m = q - N - (fsum (fun x => wt_Op (co_Op x)) (xs.take k) : Int) ∧ Sl.Sep w wr [])) (fun _ i _ => N - (intOf i).toNat)
  case atStart => exact ⟨0, q - N, Nat.zero_le _, rfl, rfl, by omega, by omega, And.intro (by rw [List.take_zero, fsum_nil]; omega) S1.out⟩
  case round =>
   obtain ⟨k, m, hk, rfl, rfl, hm0, hm1, hrel⟩ := hrel
   have HA := Lib.hid hrel.out.1
   have S2 := Lib.hid hrel.out.2
   clear hrel S1
   by_cases hlt : (k : Int) < (N : Int)
   ·
    skip
    have hkl : k < xs.length := by have := HN.out; omega
    obtain ⟨x, hx⟩ : ∃ x, xs[k]? = some x := ⟨_, List.getElem?_eq_getElem hkl⟩
    obtain ⟨ad, e'⟩ := el_some cl_Op_len (by decide) (HR.out _ S2.out.old) (List.getElem?_eq_some_iff.1 hx).1
    subst e'
    have HK := Lib.hid (fun w' (h : Below w.heap.size w w') => el7 cl_Op_len (HR.out _ h) hx rfl)
    have HAT := Lib.hid (fsum_at (f := (fun x => wt_Op (co_Op x))) hx)
    have HTK := Lib.hid (fsum_take (f := (fun x => wt_Op (co_Op x))) hx)
    try dsimp only at HAT HTK
    obtain ⟨fx, hfx⟩ : ∃ u, wt_Op (co_Op x) = u := ⟨_, rfl⟩
    rw [hfx] at HAT HTK
    obtain ⟨u, hu⟩ : ∃ u, lft m fx = u := ⟨_, rfl⟩
    have hcu := lft_cases hu
    have hru := lft_range (q := m) fx (by omega)
    rw [hu] at hru
    have HSI := fun w' (h : Below w.heap.size w w') => sz_Op x m (HWD.out x (List.mem_of_getElem? hx)) (by omega) hm1 w' (rd_el (rw_ := rw_Op) (by rw [← rws_Op_eq]; exact HX.out w' h) hx)
    rw [hfx, hu] at HSI
    dsimp only [vv_Op] at HSI
    replace HSI := Lib.hid HSI
    clear hfx hu hx
    obtain ⟨f0, f1, f2, f3, f4, f5, f6⟩ := HK.out _ S2.out.old
    go_wp2_with fail
    go_at_call 124
    refine (HSI.out _ S2.out.old).mono ?_
    rintro e w1 ⟨rfl, hb⟩
    clear f0 f1 f2 f3 f4 f5 f6
    have S3 := Lib.hid (S2.out.keep hb)
    clear S2
    clear hb
    by_cases h0 : u < 0
    ·
     have hm1' : u = -1 := by omega
     subst hm1'
     go_wp2_with fail
     go_ret
     exact ⟨by rw [HW.out, lft_neg (by have := HA.out; have := HAT.out; omega)] <;> rfl, S3.out.old⟩
    ·
     skip
     go_wp2_with fail
     go_roundw
     case rel => exact ⟨k + 1, u, by omega, by go_num, rfl, by omega, by omega, And.intro (by rw [HTK.out]; have := HA.out; omega) S3.out⟩
     case measure => simp [intOf]; omega
   ·
    skip
    obtain rfl : k = N := by omega
    have HT := HA.out
    rw [List.take_of_length_le (Nat.le_of_eq HN.out.symm)] at HT
    go_wp2_with fail
    go_ret
    exact ⟨by rw [HW.out, lft_pos (by omega)] <;> first | rfl | (refine congrArg (fun i => Ending.returned (.int .i64 i)) ?_; omega), S2.out.old⟩
set_option maxHeartbeats 4000000 in
theorem eq_Op (y z : Y_Op) (hc : co_Op y = co_Op z) (hf : wt_Op (co_Op y) ≤ 1125899906842624) (w : World) (hr : RowsRd w w.heap.size (rw_Op y)) (hr2 : RowsRd w w.heap.size (rw_Op z)) : Calls Try.prog 128 #[vv_Op y, vv_Op z] w fun e w' => e = .returned (.bool true) ∧ Below w.heap.size w w' := by
 have hfp := hf
 rw [wt_Op_parts] at hfp
 have ee0 : z.f_Kind = y.f_Kind := (show y.f_Kind = z.f_Kind from congrArg X_Op.f_Kind (hc)).symm
 have ee1 : z.f_Store = y.f_Store := (show y.f_Store = z.f_Store from congrArg X_Op.f_Store (hc)).symm
 have ee2 : z.f_Key = y.f_Key := (show y.f_Key = z.f_Key from congrArg X_Op.f_Key (hc)).symm
 have ee3 : z.f_Record.l.length = y.f_Record.l.length := (by have h := congrArg List.length (show coS_Field y.f_Record.l = coS_Field z.f_Record.l from (show co_Record y.f_Record = co_Record z.f_Record from congrArg X_Op.f_Record (hc))); rw [coS_Field_eq, coS_Field_eq, List.length_map, List.length_map] at h; exact h.symm)
 have ee4 : z.f_Field = y.f_Field := (show y.f_Field = z.f_Field from congrArg X_Op.f_Field (hc)).symm
 have HE2 := Lib.hid (fun w' => eq_Key y.f_Key w')
 dsimp only [vv_Key] at HE2
 have HE3 := Lib.hid (fun w' (h : Below w.heap.size w w') => eq_Record y.f_Record z.f_Record (congrArg X_Op.f_Record hc) (by omega) w' (((hr).below h).more h.size) (((hr2).below h).more h.size))
 try dsimp only [vv_Record] at HE3
 simp only [ee0, ee1, ee2, ee3, ee4] at HE3
 have hv : vv_Op z = .agg #[.int .i64 y.f_Kind, .string y.f_Store, .int .i64 y.f_Key.kind, .int .i64 y.f_Key.n, .string y.f_Key.text, .slice z.f_Record.a y.f_Record.l.length z.f_Record.c, .string y.f_Field] := by unfold vv_Op; simp only [ee0, ee1, ee2, ee3, ee4]
 rw [hv]
 clear hv hfp hf hc hr hr2 ee0 ee1 ee2 ee3 ee4
 unfold vv_Op
 have S1 := Lib.hid (show Sl.Sep w _ [_, _] from L4.push_box (L4.push_box (Sl.Sep.start w) 148 #[.int .i64 y.f_Kind, .string y.f_Store, .int .i64 y.f_Key.kind, .int .i64 y.f_Key.n, .string y.f_Key.text, .slice y.f_Record.a y.f_Record.l.length y.f_Record.c, .string y.f_Field] (w.heap.size) (by simp)) 148 #[.int .i64 y.f_Kind, .string y.f_Store, .int .i64 y.f_Key.kind, .int .i64 y.f_Key.n, .string y.f_Key.text, .slice z.f_Record.a y.f_Record.l.length z.f_Record.c, .string y.f_Field] (w.heap.size + 1) (by simp))
 obtain ⟨wa, hwa⟩ : ∃ w_, w_ = ((w.alloc (.cells #[.int .i64 y.f_Kind, .string y.f_Store, .int .i64 y.f_Key.kind, .int .i64 y.f_Key.n, .string y.f_Key.text, .slice y.f_Record.a y.f_Record.l.length y.f_Record.c, .string y.f_Field] 148)).alloc (.cells #[.int .i64 y.f_Kind, .string y.f_Store, .int .i64 y.f_Key.kind, .int .i64 y.f_Key.n, .string y.f_Key.text, .slice z.f_Record.a y.f_Record.l.length z.f_Record.c, .string y.f_Field] 148)) := ⟨_, rfl⟩
 rw [← hwa] at S1
 go_enter Try.func128, Try.ntmps128
 go_upto_region 1 with fail
 rw [← hwa]
 clear hwa
 obtain ⟨f0, f1, f2, f3, f4, f5, f6⟩ := Bag.cs7 S1.out 0 rfl
 obtain ⟨f7, f8, f9, f10, f11, f12, f13⟩ := Bag.cs7 S1.out 1 rfl
 go_wp2_with fail
 go_at_call 46
 refine (HE2.out _).mono ?_
 rintro e w1 ⟨rfl, hb⟩
 clear f0 f1 f2 f3 f4 f5 f6 f7 f8 f9 f10 f11 f12 f13
 have S2 := Lib.hid (S1.out.keep hb)
 clear S1
 clear hb
 obtain ⟨f0, f1, f2, f3, f4, f5, f6⟩ := Bag.cs7 S2.out 0 rfl
 obtain ⟨f7, f8, f9, f10, f11, f12, f13⟩ := Bag.cs7 S2.out 1 rfl
 go_wp2_with fail
 go_at_call 41
 refine (HE3.out _ S2.out.old).mono ?_
 rintro e w2 ⟨rfl, hb⟩
 clear f0 f1 f2 f3 f4 f5 f6 f7 f8 f9 f10 f11 f12 f13
 have S3 := Lib.hid (S2.out.keep hb)
 clear S2
 clear hb
 obtain ⟨f0, f1, f2, f3, f4, f5, f6⟩ := Bag.cs7 S3.out 0 rfl
 obtain ⟨f7, f8, f9, f10, f11, f12, f13⟩ := Bag.cs7 S3.out 1 rfl
 go_wp2_with fail
 go_ret
 exact ⟨rfl, S3.out.old⟩
set_option maxHeartbeats 4000000 in
theorem eq_OpS (a a2 : Option Addr) (c c2 : Nat) (xs xs2 : List Y_Op) (hc : coS_Op xs = coS_Op xs2) (hf : wsum wt_Op (coS_Op xs) ≤ 1125899906842624) (w : World) (hr : Reads w w.heap.size a (xs.flatMap cl_Op)) (hx : RowsRd w w.heap.size (rws_Op xs)) (hr2 : Reads w w.heap.size a2 (xs2.flatMap cl_Op)) (hx2 : RowsRd w w.heap.size (rws_Op xs2)) :
  Calls Try.prog 55 #[.slice a xs.length c, .slice a2 xs2.length c2] w fun e w' => e = .returned (.bool true) ∧ Below w.heap.size w w' := by
 have hlen : xs2.length = xs.length := by have h := congrArg List.length hc; rw [coS_Op_eq, coS_Op_eq, List.length_map, List.length_map] at h; exact h.symm
 have hl : xs.length ≤ 1125899906842624 := by have := wsum_len wt_Op (coS_Op xs); rw [coS_Op_eq, List.length_map] at this; rw [coS_Op_eq] at hf; omega
 have HR := Lib.hid (fun w' (h : Below w.heap.size w w') => hr.below h)
 have HR2 := Lib.hid (fun w' (h : Below w.heap.size w w') => hr2.below h)
 have HX := Lib.hid (fun w' (h : Below w.heap.size w w') => (hx.below h).more h.size)
 have HX2 := Lib.hid (fun w' (h : Below w.heap.size w w') => (hx2.below h).more h.size)
 rw [coS_Op_eq] at hf
 have HF := Lib.hid hf
 have HS := Lib.hid (show xs.map co_Op = xs2.map co_Op from by rw [← coS_Op_eq, ← coS_Op_eq]; exact hc)
 obtain ⟨N, hN⟩ : ∃ n, n = xs.length := ⟨_, rfl⟩
 rw [hlen, ← hN]
 rw [← hN] at hl
 have hl' : (N : Int) ≤ 1125899906842624 := by omega
 have HN := Lib.hid hN
 clear hN hr hr2 hx hx2 hf hc hlen
 have S1 := Lib.hid (show Sl.Sep w w [] from Sl.Sep.start w)
 go_enter Try.func55, Try.ntmps55
 go_wp2_with fail
 go_loopw [5] (fun i wr => ∃ k : Nat, k ≤ N ∧ i = .int .i64 k ∧ Hid (Sl.Sep w wr [])) (fun i _ => N - (intOf i).toNat)
 case atStart => exact ⟨0, Nat.zero_le _, rfl, S1.out⟩
 case round =>
  obtain ⟨k, hk, rfl, hrel⟩ := hrel
  have S2 := Lib.hid hrel.out
  clear hrel S1
  by_cases hlt : (k : Int) < (N : Int)
  ·
   skip
   have hkl : k < xs.length := by have := HN.out; omega
   obtain ⟨x, hx⟩ : ∃ x, xs[k]? = some x := ⟨_, List.getElem?_eq_getElem hkl⟩
   obtain ⟨ad, e'⟩ := el_some cl_Op_len (by decide) (HR.out _ S2.out.old) (List.getElem?_eq_some_iff.1 hx).1
   subst e'
   have HK := Lib.hid (fun w' (h : Below w.heap.size w w') => el7 cl_Op_len (HR.out _ h) hx rfl)
   obtain ⟨x2, hx2, hcx⟩ := map_same HS.out hx
   obtain ⟨ad2, e'⟩ := el_some cl_Op_len (by decide) (HR2.out _ S2.out.old) (List.getElem?_eq_some_iff.1 hx2).1
   subst e'
   have HK2 := Lib.hid (fun w' (h : Below w.heap.size w w') => el7 cl_Op_len (HR2.out _ h) hx2 rfl)
   have ee0 : x2.f_Kind = x.f_Kind := (show x.f_Kind = x2.f_Kind from congrArg X_Op.f_Kind (hcx.symm)).symm
   have ee1 : x2.f_Store = x.f_Store := (show x.f_Store = x2.f_Store from congrArg X_Op.f_Store (hcx.symm)).symm
   have ee2 : x2.f_Key = x.f_Key := (show x.f_Key = x2.f_Key from congrArg X_Op.f_Key (hcx.symm)).symm
   have ee3 : x2.f_Record.l.length = x.f_Record.l.length := (by have h := congrArg List.length (show coS_Field x.f_Record.l = coS_Field x2.f_Record.l from (show co_Record x.f_Record = co_Record x2.f_Record from congrArg X_Op.f_Record (hcx.symm))); rw [coS_Field_eq, coS_Field_eq, List.length_map, List.length_map] at h; exact h.symm)
   have ee4 : x2.f_Field = x.f_Field := (show x.f_Field = x2.f_Field from congrArg X_Op.f_Field (hcx.symm)).symm
   have HEQ := fun w' (h : Below w.heap.size w w') => eq_Op x x2 hcx.symm (by have h1 := wsum_mem (f := wt_Op) (List.mem_map.2 ⟨x, List.mem_of_getElem? hx, rfl⟩ : co_Op x ∈ xs.map co_Op); have h2 := HF.out; omega) w' (rd_el (rw_ := rw_Op) (by rw [← rws_Op_eq]; exact HX.out w' h) hx) (rd_el (rw_ := rw_Op) (by rw [← rws_Op_eq]; exact HX2.out w' h) hx2)
   dsimp only [vv_Op] at HEQ
   try dsimp only [cl_Op] at HK2
   simp only [ee0, ee1, ee2, ee3, ee4] at HEQ HK2
   replace HEQ := Lib.hid HEQ
   clear hcx ee0 ee1 ee2 ee3 ee4
   try dsimp only [vv_Op] at HEQ
   clear hx hx2
   go_upto_region 6 with fail
   refine wp_region_held_drew (S := (fun w' => (w'.cell? (ad.add (k * 7)) = some (.int .i64 x.f_Kind) ∧ w'.cell? (⟨(ad.add (k * 7)).block, (ad.add (k * 7)).off + 1, none⟩) = some (.string x.f_Store) ∧ w'.cell? (⟨(ad.add (k * 7)).block, (ad.add (k * 7)).off + 2, none⟩) = some (.int .i64 x.f_Key.kind) ∧ w'.cell? (⟨(ad.add (k * 7)).block, (ad.add (k * 7)).off + 3, none⟩) = some (.int .i64 x.f_Key.n) ∧ w'.cell? (⟨(ad.add (k * 7)).block, (ad.add (k * 7)).off + 4, none⟩) = some (.string x.f_Key.text) ∧ w'.cell? (⟨(ad.add (k * 7)).block, (ad.add (k * 7)).off + 5, none⟩) = some (.slice x.f_Record.a x.f_Record.l.length x.f_Record.c) ∧ w'.cell? (⟨(ad.add (k * 7)).block, (ad.add (k * 7)).off + 6, none⟩) = some (.string x.f_Field)) ∧ (w'.cell? (ad2.add (k * 7)) = some (.int .i64 x.f_Kind) ∧ w'.cell? (⟨(ad2.add (k * 7)).block, (ad2.add (k * 7)).off + 1, none⟩) = some (.string x.f_Store) ∧ w'.cell? (⟨(ad2.add (k * 7)).block, (ad2.add (k * 7)).off + 2, none⟩) = some (.int .i64 x.f_Key.kind) ∧ w'.cell? (⟨(ad2.add (k * 7)).block, (ad2.add (k * 7)).off + 3, none⟩) = some (.int .i64 x.f_Key.n) ∧ w'.cell? (⟨(ad2.add (k * 7)).block, (ad2.add (k * 7)).off + 4, none⟩) = some (.string x.f_Key.text) ∧ w'.cell? (⟨(ad2.add (k * 7)).block, (ad2.add (k * 7)).off + 5, none⟩) = some (.slice x2.f_Record.a x.f_Record.l.length x2.f_Record.c) ∧ w'.cell? (⟨(ad2.add (k * 7)).block, (ad2.add (k * 7)).off + 6, none⟩) = some (.string x.f_Field)))) (by kernel_rfl) ⟨HK.out _ (Bag.drew1 S2.out).old, HK2.out _ (Bag.drew1 S2.out).old⟩ (fun hS => ?_)
   have S3 := Lib.hid (Bag.drew1 S2.out)
   clear S2
   generalize World.drew _ = w1 at hS S3 ⊢
   refine tk 0 rfl ?_
   try simp only [zp0, zp1, zp2, zp3, zp4]
   refine tk 1 rfl ?_
   try simp only [zp0, zp1, zp2, zp3, zp4]
   refine tk 2 rfl ?_
   try simp only [zp0, zp1, zp2, zp3, zp4]
   refine tk 3 rfl ?_
   try simp only [zp0, zp1, zp2, zp3, zp4]
   refine tk 4 rfl ?_
   try simp only [zp0, zp1, zp2, zp3, zp4]
   refine tk 5 rfl ?_
   try simp only [zp0, zp1, zp2, zp3, zp4]
   refine tk 6 rfl ?_
   try simp only [zp0, zp1, zp2, zp3, zp4]
   refine tk 7 rfl ?_
   try simp only [zp0, zp1, zp2, zp3, zp4]
   refine Reg.one_op (i := 8) rfl (by kernel_rfl) (fun K hK => ?_)
   go_simp
   go_at_call 128
   refine (HEQ.out _ S3.out.old).mono ?_
   rintro e w2 ⟨rfl, hb⟩
   have S4 := Lib.hid (S3.out.keep hb)
   clear S3
   clear hb
   go_wp2_with fail
   refine hK.out _ _ ⟨HK.out _ S4.out.old, HK2.out _ S4.out.old⟩ (fun hS => ?_)
   clear hK K
   try simp only [zp0, zp1, zp2, zp3, zp4]
   refine tk 9 rfl ?_
   try simp only [zp0, zp1, zp2, zp3, zp4]
   refine wpAnyH_done (by kernel_rfl) ?_ _
   obtain ⟨f0, f1, f2, f3, f4, f5, f6⟩ := HK.out _ S4.out.old
   obtain ⟨f7, f8, f9, f10, f11, f12, f13⟩ := HK2.out _ S4.out.old
   go_wp2_with fail
   go_roundw
   case rel => exact ⟨k + 1, by omega, by go_num, S4.out⟩
   case measure => simp [intOf]; omega
  ·
   skip
   go_wp2_with fail
   go_ret
   exact ⟨rfl, S2.out.old⟩
def em_Op (k : Int) (z : Y_Op) : Y_Op := ⟨k, markT (k + 1), (⟨((k + 1) + 1), (((k + 1) + 1) + 1), markT ((((k + 1) + 1) + 1) + 1)⟩ : L4.K), (⟨z.f_Record.a, z.f_Record.c, (mks em_Field cnt_Field (((((k + 1) + 1) + 1) + 1) + 1) z.f_Record.l)⟩ : LRecord), markT ((((((k + 1) + 1) + 1) + 1) + 1) + (fsum cnt_Field z.f_Record.l : Int))⟩
def cnt_Op (z : Y_Op) : Nat := 1 + (1 + (1 + (1 + (1 + (fsum cnt_Field z.f_Record.l + (1))))))
theorem cntS_Op (z : Y_Op) : cnt_Op z ≤ 64 * (wt_Op (co_Op z) + 1) := by
 have h5 := cnt_sum cntS_Field z.f_Record.l
 have hw : wt_Op (co_Op z) = z.f_Store.size + (z.f_Key.text.size + (wsum wt_Field (coS_Field z.f_Record.l) + (z.f_Field.size))) := by rfl
 rw [← coS_Field_eq] at h5
 unfold cnt_Op
 omega
theorem em_Op_fp (k : Int) (z : Y_Op) : (rw_Op (em_Op k z)).flatMap RowS.fp = (rw_Op z).flatMap RowS.fp := by
 show ((rs_Field z.f_Record.a z.f_Record.c (mks em_Field cnt_Field (((((k + 1) + 1) + 1) + 1) + 1) z.f_Record.l))).flatMap RowS.fp = ((rs_Field z.f_Record.a z.f_Record.c z.f_Record.l)).flatMap RowS.fp
 simp only [List.flatMap_append, rs_Field_fp]
theorem rs_Op_fp (a : Option Addr) (c : Nat) (xs : List Y_Op) (k : Int) : (rs_Op a c (mks em_Op cnt_Op k xs)).flatMap RowS.fp = (rs_Op a c xs).flatMap RowS.fp := by
 unfold rs_Op
 rw [List.flatMap_cons, List.flatMap_cons, rws_Op_eq, rws_Op_eq, mks_fp em_Op_fp]
 congr 1
 unfold row_Op RowS.fp
 cases a <;> rfl
set_option maxHeartbeats 8000000 in
theorem mark_OpS_sep (a : Option Addr) (c : Nat) (xs : List Y_Op) (k : Int) (W w : World) (S : Sl.Sep W w [bag (rs_Op a c xs), Run.restL W w (bag (rs_Op a c xs)).fp]) (hf : wsum wt_Op (coS_Op xs) ≤ 1125899906842624) (hk0 : 0 < k) (hk1 : k + (fsum cnt_Op xs : Int) ≤ 2305843009213693952) :
  Calls Try.prog 56 #[.slice a xs.length c, .int .i64 k] w fun e w' => e = .returned (.int .i64 (k + (fsum cnt_Op xs : Int))) ∧ Sl.Sep W w' [bag (rs_Op a c (mks em_Op cnt_Op k xs)), Run.restL W w (bag (rs_Op a c xs)).fp] := by
 have HF := Lib.hid hf
 have hl : xs.length ≤ 1125899906842624 := by have := wsum_len wt_Op (coS_Op xs); rw [coS_Op_eq, List.length_map] at this; rw [coS_Op_eq] at hf; omega
 clear hf
 obtain ⟨fps, hfps⟩ : ∃ f, f = (bag (rs_Op a c xs)).fp := ⟨_, rfl⟩
 rw [← hfps] at S ⊢
 clear hfps
 rcases (S.is 0 _ rfl).own (row_Op a c xs) (List.mem_cons_self ..) |>.form with ⟨ha, hn0, -, hc0⟩ | ⟨g, hg, -, -, hnc, -⟩
 ·
  have ha' : a = none := ha
  have hc' : c = 0 := hc0
  have hx : xs = [] := List.eq_nil_of_length_eq_zero hn0
  subst hx
  have H := Lib.hid S
  clear S HF hk1
  go_enter Try.func56, Try.ntmps56
  go_wp2_with fail
  refine wp_loop_rounds 1 ?_
  rw [rounds_succ]
  go_wp2_with fail
  go_ret
  exact ⟨by rw [fsum_nil]; first | rfl | (refine congrArg (fun i => Ending.returned (.int .i64 i)) ?_; omega), H.out⟩
 have hg' : a = some ⟨g, 0, none⟩ := hg
 subst hg'
 obtain ⟨N, hN⟩ : ∃ n, n = xs.length := ⟨_, rfl⟩
 rw [← hN] at hl ⊢
 have hl' : (N : Int) ≤ 1125899906842624 := by omega
 have HN := Lib.hid hN
 have HK1 := Lib.hid hk1
 have hk2 : k ≤ 2305843009213693952 := by omega
 have S1 := Lib.hid S
 clear hg hN S hnc hk1
 have S2 := Lib.hid (show Sl.Sep W _ [Bag.bag ([row_Op (some ⟨g, 0, none⟩) c xs] ++ rws_Op xs), Run.restL W w fps] from S1.out)
 clear S1
 have S3 := Lib.hid (show Sl.Sep W _ [Bag.bag ([row_Op (some ⟨g, 0, none⟩) c xs]), _, Bag.bag (rws_Op xs)] from Bag.bag_split S2.out 0 rfl)
 clear S2
 have S4 := Lib.hid (show Sl.Sep W _ [Sv.ownV 148 7 (some ⟨g, 0, none⟩) c N ((mks em_Op cnt_Op k [] ++ xs.drop 0).flatMap cl_Op), _, _] from (by have h := Bag.one_of_bag S3.out 0 (r := row_Op (some ⟨g, 0, none⟩) c xs) rfl; unfold RowS.res row_Op at h; dsimp only at h; rw [← HN.out] at h; exact h))
 clear S3
 have S5 := Lib.hid (show Sl.Sep W _ [Sv.ownV 148 7 (some ⟨g, 0, none⟩) c N ((mks em_Op cnt_Op k [] ++ xs.drop 0).flatMap cl_Op), Bag.bag (rws_Op (mks em_Op cnt_Op k []) ++ rws_Op (xs.drop 0)), Run.restL W w fps] from Bag.take (by have h := S4.out; rw [show rws_Op xs = rws_Op (mks em_Op cnt_Op k []) ++ rws_Op (xs.drop 0) from by rw [← rws_Op_app]; rfl] at h; exact h) [0, 2, 1] (by rfl) (by decide))
 clear S4
 go_enter Try.func56, Try.ntmps56
 go_wp2_with fail
 go_loopw [1, 5] (fun v i wr => ∃ (j : Nat) (m : Int), j ≤ N ∧ i = .int .i64 j ∧ v = .int .i64 m ∧ k ≤ m ∧ m ≤ 2305843009213693952 ∧ Hid (m = k + (fsum cnt_Op (xs.take j) : Int) ∧ Sl.Sep W wr [Sv.ownV 148 7 (some ⟨g, 0, none⟩) c N (((mks em_Op cnt_Op k (xs.take j)) ++ xs.drop j).flatMap cl_Op), Bag.bag (rws_Op (mks em_Op cnt_Op k (xs.take j)) ++ rws_Op (xs.drop j)), Run.restL W w fps])) (fun _ i _ => N - (intOf i).toNat)
 case atStart => exact ⟨0, k, Nat.zero_le _, rfl, rfl, by omega, by omega, And.intro (by rw [List.take_zero, fsum_nil]; omega) S5.out⟩
 case round =>
  obtain ⟨j, m, hj, rfl, rfl, hm0, hm1, hrel⟩ := hrel
  have HM := Lib.hid hrel.out.1
  have S6 := Lib.hid hrel.out.2
  clear hrel S5
  by_cases hlt : (j : Int) < (N : Int)
  ·
   skip
   have hjl : j < xs.length := by have := HN.out; omega
   obtain ⟨x, hx⟩ : ∃ x, xs[j]? = some x := ⟨_, List.getElem?_eq_getElem hjl⟩
   have HFT := Lib.hid (fsum_take (f := cnt_Op) hx)
   have hfa := fsum_at (f := cnt_Op) hx
   have hcx : cnt_Op x = 1 + (1 + (1 + (1 + (1 + (fsum cnt_Field x.f_Record.l + (1)))))) := rfl
   have HMN := Lib.hid (show (mks em_Op cnt_Op k (xs.take (j + 1))) = (mks em_Op cnt_Op k (xs.take j)) ++ [em_Op m x] from by rw [mks_next em_Op cnt_Op k hx, ← HM.out])
   have HDR := Lib.hid (drop_next hx)
   have hwm : wt_Op (co_Op x) + 1 ≤ 1125899906842624 := by have h1 := wsum_mem (f := wt_Op) (List.mem_map.2 ⟨x, List.mem_of_getElem? hx, rfl⟩ : co_Op x ∈ xs.map co_Op); have h2 := HF.out; rw [coS_Op_eq] at h2; omega
   have HFW5 := Lib.hid (show wsum wt_Field (coS_Field x.f_Record.l) ≤ 1125899906842624 from by have h2 : wt_Op (co_Op x) = x.f_Store.size + (x.f_Key.text.size + (wsum wt_Field (coS_Field x.f_Record.l) + (x.f_Field.size))) := rfl; omega)
   clear hwm hx
   obtain ⟨s5, hs5⟩ : ∃ u, u = fsum cnt_Field x.f_Record.l := ⟨_, rfl⟩
   rw [← hs5] at hcx
   have hmc : m + (cnt_Op x : Int) ≤ 2305843009213693952 := by have := HM.out; have := HK1.out; omega
   have HCX := Lib.hid hcx
   have hcx' : (cnt_Op x : Int) = 1 + 1 + 1 + 1 + 1 + (s5 : Int) + 1 := by omega
   rw [hcx'] at hmc
   clear hcx' hcx hfa
   obtain ⟨m1', hm⟩ : ∃ u : Int, u = m + 1 := ⟨_, rfl⟩
   have bd0 : 0 < m1' ∧ m1' ≤ 2305843009213693952 := by omega
   have bl0 : m ≤ m1' := by omega
   have HM1 := Lib.hid hm
   have hme1 := hm
   clear hm
   obtain ⟨m2', hm⟩ : ∃ u : Int, u = m1' + 1 := ⟨_, rfl⟩
   have bd1 : 0 < m2' ∧ m2' ≤ 2305843009213693952 := by omega
   have bl1 : m1' ≤ m2' := by omega
   have HM2 := Lib.hid hm
   have hme2 := hm
   clear hm
   obtain ⟨m3', hm⟩ : ∃ u : Int, u = m2' + 1 := ⟨_, rfl⟩
   have bd2 : 0 < m3' ∧ m3' ≤ 2305843009213693952 := by omega
   have bl2 : m2' ≤ m3' := by omega
   have HM3 := Lib.hid hm
   have hme3 := hm
   clear hm
   obtain ⟨m4', hm⟩ : ∃ u : Int, u = m3' + 1 := ⟨_, rfl⟩
   have bd3 : 0 < m4' ∧ m4' ≤ 2305843009213693952 := by omega
   have bl3 : m3' ≤ m4' := by omega
   have HM4 := Lib.hid hm
   have hme4 := hm
   clear hm
   obtain ⟨m5', hm⟩ : ∃ u : Int, u = m4' + 1 := ⟨_, rfl⟩
   have bd4 : 0 < m5' ∧ m5' ≤ 2305843009213693952 := by omega
   have bl4 : m4' ≤ m5' := by omega
   have HM5 := Lib.hid hm
   have hme5 := hm
   clear hm
   obtain ⟨m6', hm⟩ : ∃ u : Int, u = m5' + (s5 : Int) := ⟨_, rfl⟩
   have bd5 : 0 < m6' ∧ m6' ≤ 2305843009213693952 := by omega
   have bl5 : m5' ≤ m6' := by omega
   have HM6 := Lib.hid hm
   have hme6 := hm
   clear hm
   obtain ⟨m7', hm⟩ : ∃ u : Int, u = m6' + 1 := ⟨_, rfl⟩
   have bd6 : 0 < m7' ∧ m7' ≤ 2305843009213693952 := by omega
   have bl6 : m6' ≤ m7' := by omega
   have HM7 := Lib.hid hm
   have hme7 := hm
   clear hm
   have HS5 := Lib.hid hs5
   clear hs5
   clear hmc hme1 hme2 hme3 hme4 hme5 hme6 hme7
   have HDL := Lib.hid (show ((mks em_Op cnt_Op k (xs.take j)).flatMap cl_Op).length = j * 7 by rw [flat_len cl_Op_len, mks_len, List.length_take, Nat.min_eq_left (by omega)])
   obtain ⟨R0, hR0⟩ : ∃ R0, R0 = (xs.drop (j + 1)).flatMap cl_Op := ⟨_, rfl⟩
   obtain ⟨D0, hD0⟩ : ∃ D0, D0 = (mks em_Op cnt_Op k (xs.take j)).flatMap cl_Op := ⟨_, rfl⟩
   have HR0 := Lib.hid hR0
   have HD0 := Lib.hid hD0
   rw [← hD0] at HDL
   clear hR0 hD0
   have S7 := Lib.hid (show Sl.Sep W _ [Sv.ownV 148 7 (some ⟨g, 0, none⟩) c N (D0 ++ (.int .i64 x.f_Kind :: .string x.f_Store :: .int .i64 x.f_Key.kind :: .int .i64 x.f_Key.n :: .string x.f_Key.text :: .slice x.f_Record.a x.f_Record.l.length x.f_Record.c :: .string x.f_Field :: R0)), Bag.bag (rws_Op (mks em_Op cnt_Op k (xs.take j)) ++ rws_Op (xs.drop j)), Run.restL W w fps] from (by have h := S6.out; rw [show ((mks em_Op cnt_Op k (xs.take j)) ++ xs.drop j).flatMap cl_Op = D0 ++ (.int .i64 x.f_Kind :: .string x.f_Store :: .int .i64 x.f_Key.kind :: .int .i64 x.f_Key.n :: .string x.f_Key.text :: .slice x.f_Record.a x.f_Record.l.length x.f_Record.c :: .string x.f_Field :: R0) from by rw [List.flatMap_append, HDR.out, List.flatMap_cons, ← HR0.out, ← HD0.out]; rfl] at h; exact h))
   clear S6
   have S8 := Lib.hid (show Sl.Sep W _ [Sv.ownV 148 7 (some ⟨g, 0, none⟩) c N (D0 ++ (.int .i64 x.f_Kind :: .string x.f_Store :: .int .i64 x.f_Key.kind :: .int .i64 x.f_Key.n :: .string x.f_Key.text :: .slice x.f_Record.a x.f_Record.l.length x.f_Record.c :: .string x.f_Field :: R0)), Bag.bag ((rws_Op (mks em_Op cnt_Op k (xs.take j)) ++ rws_Op (xs.drop (j + 1))) ++ rw_Op x), Run.restL W w fps] from Bag.bag_perm S7.out 1 rfl (by rw [HDR.out, rws_Op_eq, rws_Op_eq, rws_Op_eq]; exact flat_out _ _ _))
   clear S7
   have S9 := Lib.hid (show Sl.Sep W _ [_, Bag.bag (rws_Op (mks em_Op cnt_Op k (xs.take j)) ++ rws_Op (xs.drop (j + 1))), _, Bag.bag ((rs_Field x.f_Record.a x.f_Record.c x.f_Record.l))] from Bag.bag_split S8.out 1 rfl)
   clear S8
   have q0 : World.cell? wr ⟨g, j * 7, none⟩ = some (.int .i64 x.f_Kind) := by rw [(Sv.own_at S9.out 0 rfl).cell (j * 7) (by rw [List.length_append, HDL.out]; simp <;> omega)]; simp [List.getElem_append, HDL.out]
   have z0 := (Sv.own_at S9.out 0 rfl).free (j * 7)
   go_upto_region 6 with fail
   try simp only [← HM1.out]
   clear q0 z0
   have HOV := Lib.hid (show Run.over (D0 ++ (.int .i64 x.f_Kind :: .string x.f_Store :: .int .i64 x.f_Key.kind :: .int .i64 x.f_Key.n :: .string x.f_Key.text :: .slice x.f_Record.a x.f_Record.l.length x.f_Record.c :: .string x.f_Field :: R0)) (j * 7) [.int .i64 m] = D0 ++ (.int .i64 m :: .string x.f_Store :: .int .i64 x.f_Key.kind :: .int .i64 x.f_Key.n :: .string x.f_Key.text :: .slice x.f_Record.a x.f_Record.l.length x.f_Record.c :: .string x.f_Field :: R0) from by rw [show D0 ++ (.int .i64 x.f_Kind :: .string x.f_Store :: .int .i64 x.f_Key.kind :: .int .i64 x.f_Key.n :: .string x.f_Key.text :: .slice x.f_Record.a x.f_Record.l.length x.f_Record.c :: .string x.f_Field :: R0) = D0 ++ ([.int .i64 x.f_Kind] ++ (.string x.f_Store :: .int .i64 x.f_Key.kind :: .int .i64 x.f_Key.n :: .string x.f_Key.text :: .slice x.f_Record.a x.f_Record.l.length x.f_Record.c :: .string x.f_Field :: R0)) from by simp, Run.over_mid D0 (.string x.f_Store :: .int .i64 x.f_Key.kind :: .int .i64 x.f_Key.n :: .string x.f_Key.text :: .slice x.f_Record.a x.f_Record.l.length x.f_Record.c :: .string x.f_Field :: R0) [.int .i64 m] [.int .i64 x.f_Kind] (j * 7) (by simp [HDL.out]) rfl]; simp)
   have S10 := Lib.hid (show Sl.Sep W (wr.setCell ⟨g, j * 7, none⟩ (.int .i64 m)) [Sv.ownV 148 7 (some ⟨g, 0, none⟩) c N (D0 ++ (.int .i64 m :: .string x.f_Store :: .int .i64 x.f_Key.kind :: .int .i64 x.f_Key.n :: .string x.f_Key.text :: .slice x.f_Record.a x.f_Record.l.length x.f_Record.c :: .string x.f_Field :: R0)), _, _, _] from (by have h := Run.put_run S9.out 0 rfl (j * 7) [.int .i64 m] (by rw [List.length_append, HDL.out]; simp <;> omega); rw [HOV.out] at h; exact h))
   clear S9
   clear HOV
   generalize (wr.setCell ⟨g, j * 7, none⟩ (.int .i64 m)) = w1 at S10 ⊢
   have HMT := Lib.hid (fun w' => L5.markText_any m1' (by omega) (by omega) w')
   go_wp2_with fail
   go_at_call 129
   refine (HMT.out _).mono ?_
   rintro e w2 ⟨rfl, hb⟩
   have S11 := Lib.hid (S10.out.keep hb)
   clear S10
   clear hb
   clear HMT
   have q1 : World.cell? w2 ⟨g, j * 7 + 1, none⟩ = some (.string x.f_Store) := by rw [(Sv.own_at S11.out 0 rfl).cell (j * 7 + 1) (by rw [List.length_append, HDL.out]; simp <;> omega)]; simp [List.getElem_append, HDL.out]
   have z1 := (Sv.own_at S11.out 0 rfl).free (j * 7 + 1)
   go_upto_region 8 with fail
   try simp only [← HM2.out]
   clear q1 z1
   have HOV := Lib.hid (show Run.over (D0 ++ (.int .i64 m :: .string x.f_Store :: .int .i64 x.f_Key.kind :: .int .i64 x.f_Key.n :: .string x.f_Key.text :: .slice x.f_Record.a x.f_Record.l.length x.f_Record.c :: .string x.f_Field :: R0)) (j * 7 + 1) [.string (markT m1')] = D0 ++ (.int .i64 m :: .string (markT m1') :: .int .i64 x.f_Key.kind :: .int .i64 x.f_Key.n :: .string x.f_Key.text :: .slice x.f_Record.a x.f_Record.l.length x.f_Record.c :: .string x.f_Field :: R0) from by rw [show D0 ++ (.int .i64 m :: .string x.f_Store :: .int .i64 x.f_Key.kind :: .int .i64 x.f_Key.n :: .string x.f_Key.text :: .slice x.f_Record.a x.f_Record.l.length x.f_Record.c :: .string x.f_Field :: R0) = (D0 ++ ([.int .i64 m] : List Value)) ++ ([.string x.f_Store] ++ (.int .i64 x.f_Key.kind :: .int .i64 x.f_Key.n :: .string x.f_Key.text :: .slice x.f_Record.a x.f_Record.l.length x.f_Record.c :: .string x.f_Field :: R0)) from by simp, Run.over_mid (D0 ++ ([.int .i64 m] : List Value)) (.int .i64 x.f_Key.kind :: .int .i64 x.f_Key.n :: .string x.f_Key.text :: .slice x.f_Record.a x.f_Record.l.length x.f_Record.c :: .string x.f_Field :: R0) [.string (markT m1')] [.string x.f_Store] (j * 7 + 1) (by simp [HDL.out]) rfl]; simp)
   have S12 := Lib.hid (show Sl.Sep W (w2.setCell ⟨g, j * 7 + 1, none⟩ (.string (markT m1'))) [Sv.ownV 148 7 (some ⟨g, 0, none⟩) c N (D0 ++ (.int .i64 m :: .string (markT m1') :: .int .i64 x.f_Key.kind :: .int .i64 x.f_Key.n :: .string x.f_Key.text :: .slice x.f_Record.a x.f_Record.l.length x.f_Record.c :: .string x.f_Field :: R0)), Bag.bag (rws_Op (mks em_Op cnt_Op k (xs.take j)) ++ rws_Op (xs.drop (j + 1))), Run.restL W w fps, Bag.bag ((rs_Field x.f_Record.a x.f_Record.c x.f_Record.l))] from (by have h := Run.put_run S11.out 0 rfl (j * 7 + 1) [.string (markT m1')] (by rw [List.length_append, HDL.out]; simp <;> omega); rw [HOV.out] at h; exact h))
   clear S11
   clear HOV
   generalize (w2.setCell ⟨g, j * 7 + 1, none⟩ (.string (markT m1'))) = w3 at S12 ⊢
   have q2 : World.cell? w3 ⟨g, j * 7 + 2, none⟩ = some (.int .i64 x.f_Key.kind) := by rw [(Sv.own_at S12.out 0 rfl).cell (j * 7 + 2) (by rw [List.length_append, HDL.out]; simp <;> omega)]; simp [List.getElem_append, HDL.out]
   have z2 := (Sv.own_at S12.out 0 rfl).free (j * 7 + 2)
   go_upto_region 10 with fail
   try simp only [← HM3.out]
   clear q2 z2
   have HOV := Lib.hid (show Run.over (D0 ++ (.int .i64 m :: .string (markT m1') :: .int .i64 x.f_Key.kind :: .int .i64 x.f_Key.n :: .string x.f_Key.text :: .slice x.f_Record.a x.f_Record.l.length x.f_Record.c :: .string x.f_Field :: R0)) (j * 7 + 2) [.int .i64 m2'] = D0 ++ (.int .i64 m :: .string (markT m1') :: .int .i64 m2' :: .int .i64 x.f_Key.n :: .string x.f_Key.text :: .slice x.f_Record.a x.f_Record.l.length x.f_Record.c :: .string x.f_Field :: R0) from by rw [show D0 ++ (.int .i64 m :: .string (markT m1') :: .int .i64 x.f_Key.kind :: .int .i64 x.f_Key.n :: .string x.f_Key.text :: .slice x.f_Record.a x.f_Record.l.length x.f_Record.c :: .string x.f_Field :: R0) = (D0 ++ ([.int .i64 m, .string (markT m1')] : List Value)) ++ ([.int .i64 x.f_Key.kind] ++ (.int .i64 x.f_Key.n :: .string x.f_Key.text :: .slice x.f_Record.a x.f_Record.l.length x.f_Record.c :: .string x.f_Field :: R0)) from by simp, Run.over_mid (D0 ++ ([.int .i64 m, .string (markT m1')] : List Value)) (.int .i64 x.f_Key.n :: .string x.f_Key.text :: .slice x.f_Record.a x.f_Record.l.length x.f_Record.c :: .string x.f_Field :: R0) [.int .i64 m2'] [.int .i64 x.f_Key.kind] (j * 7 + 2) (by simp [HDL.out]) rfl]; simp)
   have S13 := Lib.hid (show Sl.Sep W (w3.setCell ⟨g, j * 7 + 2, none⟩ (.int .i64 m2')) [Sv.ownV 148 7 (some ⟨g, 0, none⟩) c N (D0 ++ (.int .i64 m :: .string (markT m1') :: .int .i64 m2' :: .int .i64 x.f_Key.n :: .string x.f_Key.text :: .slice x.f_Record.a x.f_Record.l.length x.f_Record.c :: .string x.f_Field :: R0)), _, _, _] from (by have h := Run.put_run S12.out 0 rfl (j * 7 + 2) [.int .i64 m2'] (by rw [List.length_append, HDL.out]; simp <;> omega); rw [HOV.out] at h; exact h))
   clear S12
   clear HOV
   generalize (w3.setCell ⟨g, j * 7 + 2, none⟩ (.int .i64 m2')) = w4 at S13 ⊢
   have q3 : World.cell? w4 ⟨g, j * 7 + 3, none⟩ = some (.int .i64 x.f_Key.n) := by rw [(Sv.own_at S13.out 0 rfl).cell (j * 7 + 3) (by rw [List.length_append, HDL.out]; simp <;> omega)]; simp [List.getElem_append, HDL.out]
   have z3 := (Sv.own_at S13.out 0 rfl).free (j * 7 + 3)
   go_upto_region 12 with fail
   try simp only [← HM4.out]
   clear q3 z3
   have HOV := Lib.hid (show Run.over (D0 ++ (.int .i64 m :: .string (markT m1') :: .int .i64 m2' :: .int .i64 x.f_Key.n :: .string x.f_Key.text :: .slice x.f_Record.a x.f_Record.l.length x.f_Record.c :: .string x.f_Field :: R0)) (j * 7 + 3) [.int .i64 m3'] = D0 ++ (.int .i64 m :: .string (markT m1') :: .int .i64 m2' :: .int .i64 m3' :: .string x.f_Key.text :: .slice x.f_Record.a x.f_Record.l.length x.f_Record.c :: .string x.f_Field :: R0) from by rw [show D0 ++ (.int .i64 m :: .string (markT m1') :: .int .i64 m2' :: .int .i64 x.f_Key.n :: .string x.f_Key.text :: .slice x.f_Record.a x.f_Record.l.length x.f_Record.c :: .string x.f_Field :: R0) = (D0 ++ ([.int .i64 m, .string (markT m1'), .int .i64 m2'] : List Value)) ++ ([.int .i64 x.f_Key.n] ++ (.string x.f_Key.text :: .slice x.f_Record.a x.f_Record.l.length x.f_Record.c :: .string x.f_Field :: R0)) from by simp, Run.over_mid (D0 ++ ([.int .i64 m, .string (markT m1'), .int .i64 m2'] : List Value)) (.string x.f_Key.text :: .slice x.f_Record.a x.f_Record.l.length x.f_Record.c :: .string x.f_Field :: R0) [.int .i64 m3'] [.int .i64 x.f_Key.n] (j * 7 + 3) (by simp [HDL.out]) rfl]; simp)
   have S14 := Lib.hid (show Sl.Sep W (w4.setCell ⟨g, j * 7 + 3, none⟩ (.int .i64 m3')) [Sv.ownV 148 7 (some ⟨g, 0, none⟩) c N (D0 ++ (.int .i64 m :: .string (markT m1') :: .int .i64 m2' :: .int .i64 m3' :: .string x.f_Key.text :: .slice x.f_Record.a x.f_Record.l.length x.f_Record.c :: .string x.f_Field :: R0)), _, _, _] from (by have h := Run.put_run S13.out 0 rfl (j * 7 + 3) [.int .i64 m3'] (by rw [List.length_append, HDL.out]; simp <;> omega); rw [HOV.out] at h; exact h))
   clear S13
   clear HOV
   generalize (w4.setCell ⟨g, j * 7 + 3, none⟩ (.int .i64 m3')) = w5 at S14 ⊢
   have HMT := Lib.hid (fun w' => L5.markText_any m4' (by omega) (by omega) w')
   go_wp2_with fail
   go_at_call 129
   refine (HMT.out _).mono ?_
   rintro e w6 ⟨rfl, hb⟩
   have S15 := Lib.hid (S14.out.keep hb)
   clear S14
   clear hb
   clear HMT
   have q4 : World.cell? w6 ⟨g, j * 7 + 4, none⟩ = some (.string x.f_Key.text) := by rw [(Sv.own_at S15.out 0 rfl).cell (j * 7 + 4) (by rw [List.length_append, HDL.out]; simp <;> omega)]; simp [List.getElem_append, HDL.out]
   have z4 := (Sv.own_at S15.out 0 rfl).free (j * 7 + 4)
   go_upto_region 14 with fail
   try simp only [← HM5.out]
   clear q4 z4
   have HOV := Lib.hid (show Run.over (D0 ++ (.int .i64 m :: .string (markT m1') :: .int .i64 m2' :: .int .i64 m3' :: .string x.f_Key.text :: .slice x.f_Record.a x.f_Record.l.length x.f_Record.c :: .string x.f_Field :: R0)) (j * 7 + 4) [.string (markT m4')] = D0 ++ (.int .i64 m :: .string (markT m1') :: .int .i64 m2' :: .int .i64 m3' :: .string (markT m4') :: .slice x.f_Record.a x.f_Record.l.length x.f_Record.c :: .string x.f_Field :: R0) from by rw [show D0 ++ (.int .i64 m :: .string (markT m1') :: .int .i64 m2' :: .int .i64 m3' :: .string x.f_Key.text :: .slice x.f_Record.a x.f_Record.l.length x.f_Record.c :: .string x.f_Field :: R0) = (D0 ++ ([.int .i64 m, .string (markT m1'), .int .i64 m2', .int .i64 m3'] : List Value)) ++ ([.string x.f_Key.text] ++ (.slice x.f_Record.a x.f_Record.l.length x.f_Record.c :: .string x.f_Field :: R0)) from by simp, Run.over_mid (D0 ++ ([.int .i64 m, .string (markT m1'), .int .i64 m2', .int .i64 m3'] : List Value)) (.slice x.f_Record.a x.f_Record.l.length x.f_Record.c :: .string x.f_Field :: R0) [.string (markT m4')] [.string x.f_Key.text] (j * 7 + 4) (by simp [HDL.out]) rfl]; simp)
   have S16 := Lib.hid (show Sl.Sep W (w6.setCell ⟨g, j * 7 + 4, none⟩ (.string (markT m4'))) [Sv.ownV 148 7 (some ⟨g, 0, none⟩) c N (D0 ++ (.int .i64 m :: .string (markT m1') :: .int .i64 m2' :: .int .i64 m3' :: .string (markT m4') :: .slice x.f_Record.a x.f_Record.l.length x.f_Record.c :: .string x.f_Field :: R0)), Bag.bag (rws_Op (mks em_Op cnt_Op k (xs.take j)) ++ rws_Op (xs.drop (j + 1))), Run.restL W w fps, Bag.bag ((rs_Field x.f_Record.a x.f_Record.c x.f_Record.l))] from (by have h := Run.put_run S15.out 0 rfl (j * 7 + 4) [.string (markT m4')] (by rw [List.length_append, HDL.out]; simp <;> omega); rw [HOV.out] at h; exact h))
   clear S15
   clear HOV
   generalize (w6.setCell ⟨g, j * 7 + 4, none⟩ (.string (markT m4'))) = w7 at S16 ⊢
   have q5 : World.cell? w7 ⟨g, j * 7 + 5, none⟩ = some (.slice x.f_Record.a x.f_Record.l.length x.f_Record.c) := by rw [(Sv.own_at S16.out 0 rfl).cell (j * 7 + 5) (by rw [List.length_append, HDL.out]; simp <;> omega)]; simp [List.getElem_append, HDL.out]
   go_wp2_with fail
   go_at_call 121
   have HC := mark_FieldS S16.out 3 (a := x.f_Record.a) (c := x.f_Record.c) (xs := x.f_Record.l) rfl m5' HFW5.out (by omega) (by have := HS5.out; have := bd5.2; have := HM6.out; omega)
   rw [← HS5.out, ← HM6.out] at HC
   refine HC.mono ?_
   clear HC
   rintro e w8 ⟨rfl, hS⟩
   clear q5
   have S17 := Lib.hid (show Sl.Sep W _ [_, _, _, Bag.bag (rs_Field x.f_Record.a x.f_Record.c (mks em_Field cnt_Field m5' x.f_Record.l))] from hS)
   clear S16
   clear hS
   go_upto_region 15 with fail
   have HMT := Lib.hid (fun w' => L5.markText_any m6' (by omega) (by omega) w')
   go_wp2_with fail
   go_at_call 129
   refine (HMT.out _).mono ?_
   rintro e w9 ⟨rfl, hb⟩
   have S18 := Lib.hid (S17.out.keep hb)
   clear S17
   clear hb
   clear HMT
   have q6 : World.cell? w9 ⟨g, j * 7 + 6, none⟩ = some (.string x.f_Field) := by rw [(Sv.own_at S18.out 0 rfl).cell (j * 7 + 6) (by rw [List.length_append, HDL.out]; simp <;> omega)]; simp [List.getElem_append, HDL.out]
   have z6 := (Sv.own_at S18.out 0 rfl).free (j * 7 + 6)
   go_wp2_with fail
   try simp only [← HM7.out]
   clear q6 z6
   have HOV := Lib.hid (show Run.over (D0 ++ (.int .i64 m :: .string (markT m1') :: .int .i64 m2' :: .int .i64 m3' :: .string (markT m4') :: .slice x.f_Record.a x.f_Record.l.length x.f_Record.c :: .string x.f_Field :: R0)) (j * 7 + 6) [.string (markT m6')] = D0 ++ (.int .i64 m :: .string (markT m1') :: .int .i64 m2' :: .int .i64 m3' :: .string (markT m4') :: .slice x.f_Record.a x.f_Record.l.length x.f_Record.c :: .string (markT m6') :: R0) from by rw [show D0 ++ (.int .i64 m :: .string (markT m1') :: .int .i64 m2' :: .int .i64 m3' :: .string (markT m4') :: .slice x.f_Record.a x.f_Record.l.length x.f_Record.c :: .string x.f_Field :: R0) = (D0 ++ ([.int .i64 m, .string (markT m1'), .int .i64 m2', .int .i64 m3', .string (markT m4'), .slice x.f_Record.a x.f_Record.l.length x.f_Record.c] : List Value)) ++ ([.string x.f_Field] ++ (R0)) from by simp, Run.over_mid (D0 ++ ([.int .i64 m, .string (markT m1'), .int .i64 m2', .int .i64 m3', .string (markT m4'), .slice x.f_Record.a x.f_Record.l.length x.f_Record.c] : List Value)) (R0) [.string (markT m6')] [.string x.f_Field] (j * 7 + 6) (by simp [HDL.out]) rfl]; simp)
   have S19 := Lib.hid (show Sl.Sep W (w9.setCell ⟨g, j * 7 + 6, none⟩ (.string (markT m6'))) [Sv.ownV 148 7 (some ⟨g, 0, none⟩) c N (D0 ++ (.int .i64 m :: .string (markT m1') :: .int .i64 m2' :: .int .i64 m3' :: .string (markT m4') :: .slice x.f_Record.a x.f_Record.l.length x.f_Record.c :: .string (markT m6') :: R0)), Bag.bag (rws_Op (mks em_Op cnt_Op k (xs.take j)) ++ rws_Op (xs.drop (j + 1))), Run.restL W w fps, Bag.bag (rs_Field x.f_Record.a x.f_Record.c (mks em_Field cnt_Field m5' x.f_Record.l))] from (by have h := Run.put_run S18.out 0 rfl (j * 7 + 6) [.string (markT m6')] (by rw [List.length_append, HDL.out]; simp <;> omega); rw [HOV.out] at h; exact h))
   clear S18
   clear HOV
   generalize (w9.setCell ⟨g, j * 7 + 6, none⟩ (.string (markT m6'))) = w10 at S19 ⊢
   have HEM := Lib.hid (show rw_Op (em_Op m x) = (rs_Field x.f_Record.a x.f_Record.c (mks em_Field cnt_Field m5' x.f_Record.l)) from by first | rfl | (simp only [HM7.out, HM6.out, HM5.out, HM4.out, HM3.out, HM2.out, HM1.out, HS5.out]; rfl))
   have S20 := Lib.hid (show Sl.Sep W _ [_, _, _, Bag.bag (rw_Op (em_Op m x))] from (by rw [HEM.out]; exact S19.out))
   clear S19
   have S21 := Lib.hid (show Sl.Sep W _ [_, Bag.bag ((rws_Op (mks em_Op cnt_Op k (xs.take j)) ++ rws_Op (xs.drop (j + 1))) ++ (rw_Op (em_Op m x))), _, Bag.bag ([])] from Bag.bag_join S20.out 1 3 (by decide) rfl rfl)
   clear S20
   have S22 := Lib.hid (show Sl.Sep W _ [_, _, _] from Bag.take S21.out [0, 1, 2] (by rfl) (by decide))
   clear S21
   have S23 := Lib.hid (show Sl.Sep W _ [Sv.ownV 148 7 (some ⟨g, 0, none⟩) c N (D0 ++ (.int .i64 m :: .string (markT m1') :: .int .i64 m2' :: .int .i64 m3' :: .string (markT m4') :: .slice x.f_Record.a x.f_Record.l.length x.f_Record.c :: .string (markT m6') :: R0)), Bag.bag (rws_Op (mks em_Op cnt_Op k (xs.take (j + 1))) ++ rws_Op (xs.drop (j + 1))), Run.restL W w fps] from (by rw [HMN.out, rws_Op_eq, rws_Op_eq]; have h := S22.out; rw [rws_Op_eq, rws_Op_eq] at h; exact Bag.bag_perm h 1 rfl (flat_back _ _ _)))
   clear S22
   have HROW := Lib.hid (show ((mks em_Op cnt_Op k (xs.take (j + 1))) ++ xs.drop (j + 1)).flatMap cl_Op = D0 ++ (.int .i64 m :: .string (markT m1') :: .int .i64 m2' :: .int .i64 m3' :: .string (markT m4') :: .slice x.f_Record.a x.f_Record.l.length x.f_Record.c :: .string (markT m6') :: R0) from by rw [HMN.out, List.flatMap_append, List.flatMap_append, ← HR0.out, ← HD0.out, List.append_assoc, List.flatMap_cons, List.flatMap_nil, List.append_nil]; simp only [HM7.out, HM6.out, HM5.out, HM4.out, HM3.out, HM2.out, HM1.out, HS5.out]; unfold cl_Op em_Op; simp only [mks_len]; rfl)
   have S24 := Lib.hid (show Sl.Sep W _ [Sv.ownV 148 7 (some ⟨g, 0, none⟩) c N (((mks em_Op cnt_Op k (xs.take (j + 1))) ++ xs.drop (j + 1)).flatMap cl_Op), _, _] from (by rw [HROW.out]; exact S23.out))
   clear S23
   go_roundw
   case rel => exact ⟨j + 1, m7', by omega, by go_num, by first | rfl | go_num, by omega, by omega, And.intro (by have h1 := HFT.out; have h2 := HCX.out; have h3 := HM.out; have := HM1.out; have := HM2.out; have := HM3.out; have := HM4.out; have := HM5.out; have := HM6.out; have := HM7.out; omega) S24.out⟩
   case measure => simp [intOf]; omega
  ·
   skip
   obtain rfl : j = N := by omega
   have hT : xs.take j = xs := List.take_of_length_le (by have := HN.out; omega)
   have hD : xs.drop j = [] := List.drop_of_length_le (by have := HN.out; omega)
   have HT := Lib.hid hT
   have HD := Lib.hid hD
   clear hT hD
   have S7 := Lib.hid (show Sl.Sep W _ [Sv.ownV 148 7 (some ⟨g, 0, none⟩) c j ((mks em_Op cnt_Op k xs).flatMap cl_Op), Bag.bag (rws_Op (mks em_Op cnt_Op k xs)), Run.restL W w fps] from (by have h := S6.out; rw [HT.out, HD.out, List.append_nil, ← rws_Op_app, List.append_nil] at h; exact h))
   clear S6
   have S8 := Lib.hid (show Sl.Sep W _ [Bag.bag ([row_Op (some ⟨g, 0, none⟩) c (mks em_Op cnt_Op k xs)]), _, _] from Bag.bag_of_one S7.out 0 (r := row_Op (some ⟨g, 0, none⟩) c (mks em_Op cnt_Op k xs)) (by unfold RowS.res row_Op; dsimp only; rw [mks_len, ← HN.out]; rfl))
   clear S7
   have S9 := Lib.hid (show Sl.Sep W _ [Bag.bag ([row_Op (some ⟨g, 0, none⟩) c (mks em_Op cnt_Op k xs)] ++ (rws_Op (mks em_Op cnt_Op k xs))), Bag.bag ([]), _] from Bag.bag_join S8.out 0 1 (by decide) rfl rfl)
   clear S8
   have S10 := Lib.hid (show Sl.Sep W _ [_, _] from Bag.take S9.out [0, 2] (by rfl) (by decide))
   clear S9
   go_wp2_with fail
   go_ret
   exact ⟨by have h := HM.out; rw [HT.out] at h; rw [← h] <;> rfl, S10.out⟩
theorem mark_OpS {W w : World} {rs : List Res} (h : Sl.Sep W w rs) (i : Nat) {a : Option Addr} {c : Nat} {xs : List Y_Op} (hi : rs[i]? = some (bag (rs_Op a c xs))) (k : Int) (hf : wsum wt_Op (coS_Op xs) ≤ 1125899906842624) (hk0 : 0 < k) (hk1 : k + (fsum cnt_Op xs : Int) ≤ 2305843009213693952) :
  Calls Try.prog 56 #[.slice a xs.length c, .int .i64 k] w fun e w' => e = .returned (.int .i64 (k + (fsum cnt_Op xs : Int))) ∧ Sl.Sep W w' (rs.set i (bag (rs_Op a c (mks em_Op cnt_Op k xs)))) :=
 (mark_OpS_sep a c xs k W w (Run.restL_start h i hi) hf hk0 hk1).mono fun _ _ ⟨he, hs⟩ => ⟨he, Run.restL_back h i hi hs (rs_Op_fp a c xs k)⟩
end Go.Proofs.Ytojcdmgcbgpdmaa.V

namespace Go.Proofs.Ytojcdmgcbgpdmaa.L9
open V L6
open L4 (K isK cmpK R)
open L5 (F isR isN Small)
open Go.Op (bytesLess)
open Go.ChangeShapes Go.WideShapes Go.ChangeAt Go.RowKit Mem Sl Sv Bag

def fldO (o : X_Op) : Bool := if o.f_Kind = 6 then isN o.f_Field.data.toList else o.f_Field.toList == []
def keyO (o : X_Op) : Bool := o.f_Kind == 5 || isK o.f_Key
def isO (o : X_Op) : Bool := L1.inB o.f_Kind 1 6 && (isN o.f_Store.data.toList && (keyO o && (isR o.f_Record && fldO o)))
theorem inB_no {k : Int} (h1 : k ≠ 1) (h2 : k ≠ 2) (h3 : k ≠ 3) (h4 : k ≠ 4) (h5 : k ≠ 5) (h6 : k ≠ 6) : L1.inB k 1 6 = false := by
 rw [L1.inB_false]; omega

structure FitO (o : X_Op) : Prop where
 store : o.f_Store.size ≤ 281474976710656
 text : o.f_Key.text.size ≤ 1099511627776
 len : o.f_Record.length ≤ 1048576
 small : Small o.f_Record
 field : o.f_Field.size ≤ 281474976710656
theorem len_of {α : Type} {xs : List α} {k : Nat} {x : α} (h : xs[k]? = some x) : k < xs.length := (List.getElem?_eq_some_iff.1 h).1
theorem val_of {α : Type} {xs : List α} {k : Nat} {x : α} (h : xs[k]? = some x) : xs[k]'(len_of h) = x := (List.getElem?_eq_some_iff.1 h).2
theorem coS_len {os : List Y_Op} : (coS_Op os).length = os.length := by rw [coS_Op_eq, List.length_map]
theorem coS_at {os : List Y_Op} {k : Nat} {x : Y_Op} (h : os[k]? = some x) : (coS_Op os)[k]? = some (co_Op x) := by rw [coS_Op_eq, List.getElem?_map, h]; rfl
section
variable {w : World} {B : Nat} {z : Y_Op}
theorem rdOs {os : List Y_Op} {k : Nat} {x : Y_Op} (h : RowsRd w B (rws_Op os)) (hx : os[k]? = some x) : RowsRd w B (rw_Op x) := rd_el (rw_ := rw_Op) h hx
theorem rdO (h : RowsRd w B (rw_Op z)) : Reads w B z.f_Record.a (L5.cellsF z.f_Record.l) := (rd_head h).reads
end
end Go.Proofs.Ytojcdmgcbgpdmaa.L9

namespace Go.Proofs.Ytojcdmgcbgpdmaa.V
open Go.ChangeShapes Go.WideShapes Go.ChangeAt Go.RowKit Mem Sl Sv Bag
structure Y_OpZ where
 a : Option Addr
 c : Nat
 xs : List Y_Op
def co_OpZ (z : Y_OpZ) : List X_Op := coS_Op z.xs
def wt_OpZ (c : List X_Op) : Nat := wsum wt_Op c
def vv_OpZ (z : Y_OpZ) : Value := .slice z.a z.xs.length z.c
def rw_OpZ (z : Y_OpZ) : List RowS := rs_Op z.a z.c z.xs
def md_OpZ (k : Int) (z : Y_OpZ) : Y_OpZ := ⟨z.a, z.c, mks em_Op cnt_Op k z.xs⟩
def ct_OpZ (z : Y_OpZ) : Nat := fsum cnt_Op z.xs
def Wide_OpZ (z : Y_OpZ) : Prop := z.xs.length ≤ maxLen ∧ ∀ x ∈ z.xs, Wide_Op x
theorem ctS_OpZ (z : Y_OpZ) : ct_OpZ z ≤ 64 * (wt_OpZ (co_OpZ z) + 1) := by
 have h := cnt_sum cntS_Op z.xs
 unfold ct_OpZ wt_OpZ co_OpZ
 rw [coS_Op_eq]
 omega
theorem rd_OpZ {w : World} {B : Nat} {z : Y_OpZ} (h : RowsRd w B (rw_OpZ z)) : Reads w B z.a (z.xs.flatMap cl_Op) := (rd_head h).reads
theorem rx_OpZ {w : World} {B : Nat} {z : Y_OpZ} (h : RowsRd w B (rw_OpZ z)) : RowsRd w B (rws_Op z.xs) := rd_tail h
section
variable {H : Type} {enc : TypeId × Value → H} {W : World} {b : Nat} {sp : Nat → Bool} {hd : Bool}
theorem open_OpZ {b0 : Nat} {v : Value} {d : DataW H} {ps : List MemPlace} (hval : Value.okWide Try.prog W .any b0 78 v) (h0 : DataW.Trod enc Try.prog W b sp hd 78 v d ps) (hlt : ∀ p ∈ ps, p.block < W.heap.size) : ∃ z : Y_OpZ, v = vv_OpZ z ∧ RowsRd W W.heap.size (rw_OpZ z) ∧ Wide_OpZ z := by
 obtain ⟨a0, len, cap, rfl⟩ := okWide_slice Try.underlying78 hval
 obtain ⟨fuel, hf0⟩ := h0
 obtain ⟨a, xs, c, e, r, v, l, w⟩ := trods_Op hf0 hlt
 simp only [Value.cells, List.cons.injEq, and_true] at e
 exact ⟨⟨a, c, xs⟩, e, rd_cons ⟨r.1, r.2.1, r.2.2⟩ (by rw [rws_Op_eq]; exact v), ⟨l, w⟩⟩
end
theorem to_OpZ (z : Y_OpZ) (hf : wt_OpZ (co_OpZ z) ≤ 1048576) (w : World) (hr : RowsRd w w.heap.size (rw_OpZ z)) : Calls Try.prog 52 #[vv_OpZ z] w fun e w' => ∃ y : Y_OpZ, e = .returned (vv_OpZ y) ∧ co_OpZ y = co_OpZ z ∧ BagOwn w' w.heap.size (rw_OpZ y) ∧ Below w.heap.size w w' :=
 (to_OpS z.a z.c z.xs hf w (rd_OpZ hr) (rx_OpZ hr)).mono fun _ _ ⟨a, c, ys, he, hc, ho, hb⟩ => ⟨⟨a, c, ys⟩, he, hc, ho, hb⟩
theorem sz_OpZ (z : Y_OpZ) (q : Int) (hw : Wide_OpZ z) (hq0 : -1 ≤ q) (hq1 : q ≤ 1048576) (w : World) (hr : RowsRd w w.heap.size (rw_OpZ z)) : Calls Try.prog 50 #[vv_OpZ z, .int .i64 q] w fun e w' => e = .returned (.int .i64 (lft q (wt_OpZ (co_OpZ z)))) ∧ Below w.heap.size w w' :=
 sz_OpS z.a z.c z.xs q hw.2 hw.1 hq0 hq1 w (rd_OpZ hr) (rx_OpZ hr)
theorem eq_OpZ (y z : Y_OpZ) (hc : co_OpZ y = co_OpZ z) (hf : wt_OpZ (co_OpZ y) ≤ 1125899906842624) (w : World) (hr : RowsRd w w.heap.size (rw_OpZ y)) (hr2 : RowsRd w w.heap.size (rw_OpZ z)) : Calls Try.prog 55 #[vv_OpZ y, vv_OpZ z] w fun e w' => e = .returned (.bool true) ∧ Below w.heap.size w w' :=
 eq_OpS y.a z.a y.c z.c y.xs z.xs hc hf w (rd_OpZ hr) (rx_OpZ hr) (rd_OpZ hr2) (rx_OpZ hr2)
theorem mark_OpZ {W w : World} {rs : List Res} (h : Sl.Sep W w rs) (i : Nat) {z : Y_OpZ} (hi : rs[i]? = some (bag (rw_OpZ z))) (k : Int) (hf : wt_OpZ (co_OpZ z) ≤ 1125899906842624) (hk0 : 0 < k) (hk1 : k + (ct_OpZ z : Int) ≤ 2305843009213693952) :
  Calls Try.prog 56 #[vv_OpZ z, .int .i64 k] w fun e w' => e = .returned (.int .i64 (k + (ct_OpZ z : Int))) ∧ Sl.Sep W w' (rs.set i (bag (rw_OpZ (md_OpZ k z)))) :=
 mark_OpS h i hi k hf hk0 hk1
end Go.Proofs.Ytojcdmgcbgpdmaa.V

namespace Go.Proofs.Ytojcdmgcbgpdmaa.L9
open V L6
open L4 (K isK cmpK)
open L5 (F isR isN Small)
open Go.ChangeShapes Go.WideShapes Go.ChangeAt Go.RowKit Mem Sl Ex L2 Sv Bag

theorem fitR_wt {l : List F} (h : wt_Record l ≤ 1048576) : l.length ≤ 1048576 ∧ Small l := by
 have h1 : l.length ≤ wt_Record l := wsum_len wt_Field l
 refine ⟨by omega, fun f hf => ?_⟩
 have h2 : wt_Field f + 1 ≤ wt_Record l := wsum_mem hf
 have h3 : wt_Field f = f.name.size := rfl
 omega
theorem fitO_wt {o : X_Op} (h : wt_Op o ≤ 1048576) : FitO o := by
 have h1 : wt_Op o = o.f_Store.size + (o.f_Key.text.size + (wt_Record o.f_Record + o.f_Field.size)) := rfl
 obtain ⟨h2, h3⟩ := fitR_wt (l := o.f_Record) (by omega)
 exact ⟨by omega, by omega, h2, h3, by omega⟩
theorem fitOs_wt {l : List X_Op} (h : wsum wt_Op l ≤ 1048576) : l.length ≤ 1048576 ∧ ∀ o ∈ l, FitO o := by
 have h1 := wsum_len wt_Op l
 refine ⟨by omega, fun o ho => fitO_wt ?_⟩
 have h2 : wt_Op o + 1 ≤ wsum wt_Op l := wsum_mem ho
 omega
theorem fitZ {z : Y_OpZ} (h : wt_OpZ (co_OpZ z) ≤ 1048576) : z.xs.length ≤ 1048576 ∧ ∀ o ∈ coS_Op z.xs, FitO o := by
 obtain ⟨h1, h2⟩ := fitOs_wt (l := coS_Op z.xs) h
 exact ⟨by rwa [coS_len] at h1, h2⟩
end Go.Proofs.Ytojcdmgcbgpdmaa.L9

namespace Go.Proofs.Ytojcdmgcbgpdmaa.L5
open L2
open L4 (toU toI toI_toU)

def rdF (l : List Int) (off : Int) : Option (F × Int) :=
 if rbB l off 8 && rdB l (rbE l off 8) then some (⟨⟨(toU (rbL l off 8)).toArray⟩, rdN l (rbE l off 8)⟩, rdE l (rbE l off 8)) else none
def rdFs (l : List Int) : Int → Nat → Option (List F × Int)
 | off, 0 => some ([], off)
 | off, k + 1 => match rdF l off with
  | none => none
  | some (f, e) => match rdFs l e k with
   | none => none
   | some (fs, e2) => some (f :: fs, e2)
def decR (l : List Int) : Option (List F) :=
 if rdB l 0 && decide (rdN l 0 ≤ 6) then
  match rdFs l (rdE l 0) (rdN l 0).toNat with
  | none => none
  | some (fs, e) => if isR fs && decide (e = l.length) then some fs else none
 else none
def RfMid (l : List Int) (off : Int) (n k : Nat) (acc : List F) (o : Int) : Prop := acc.length = k ∧ rdFs l off n = (rdFs l o (n - k)).map fun p => (acc ++ p.1, p.2)
theorem RfMid.start (l : List Int) (off : Int) (n : Nat) : RfMid l off n 0 [] off := ⟨rfl, by simp⟩
theorem RfMid.none {l : List Int} {off : Int} {n k : Nat} {acc : List F} {o : Int} (h : RfMid l off n k acc o) (hk : k < n) (hr : rdF l o = Option.none) : rdFs l off n = Option.none := by
 rw [h.2, show n - k = (n - (k + 1)) + 1 by omega, rdFs, hr]
 rfl
end Go.Proofs.Ytojcdmgcbgpdmaa.L5

namespace Go.Proofs.Ytojcdmgcbgpdmaa.L5
open L4 (boxR push_box box_at)
open Go.ChangeShapes Go.WideShapes Go.ChangeAt Go.RowKit Mem Sl Ex L2 Sv

def decL (l : List Int) : List F := (decR l).getD []
def decB (l : List Int) : Bool := (decR l).isSome
end Go.Proofs.Ytojcdmgcbgpdmaa.L5

namespace Go.Proofs.Ytojcdmgcbgpdmaa.L4
open Go.Op (bytesLess)
open Go.ChangeShapes Go.WideShapes Go.ChangeAt Go.RowKit Mem Sl Ex L2

def decB (l : List Int) : Bool := (decO (toU l)).isSome
@[simp] theorem toU_length (l : List Int) : (toU l).length = l.length := by simp [toU]
structure Two (w wr : World) (t : TypeId) (k : K) : Prop where
 z : Row wr w.heap.size t #[.int .i64 0, .int .i64 0, .string ⟨#[]⟩]
 k : Row wr (w.heap.size + 1) t k.cells
 b : Below w.heap.size w wr
theorem Two.made (w : World) (t : TypeId) (k : K) : Two w ((w.alloc (.cells #[.int .i64 0, .int .i64 0, .string ⟨#[]⟩] t)).alloc (.cells k.cells t)) t k := by
 refine ⟨(Row.made w t _).more _, ?_, below_alloc (below_alloc (Below.refl _ _) _ (Nat.le_refl _)) _ (Nat.le_refl _)⟩
 rw [show w.heap.size + 1 = (w.alloc (.cells #[.int .i64 0, .int .i64 0, .string ⟨#[]⟩] t)).heap.size by simp]
 exact Row.made _ _ _
end Go.Proofs.Ytojcdmgcbgpdmaa.L4

namespace Go.Proofs.Ytojcdmgcbgpdmaa.L6
open L4 (K isK cmpK R inR encU)
open L5 (F isR isN cellsF encR eqR Small)
open Go.ChangeShapes Go.WideShapes Go.ChangeAt Go.RowKit Mem Sl Ex L2 Sv Bag

theorem encU_small (k : K) : (encU k).length ≤ 50 := by
 unfold encU
 split
 ·
  rename_i h
  have h2 := h
  unfold isK at h2
  simp only [Bool.and_eq_true] at h2
  have h3 : k.t.length ≤ 12 := by
   have h4 := h2.1.2
   unfold L4.isT at h4
   simp only [Bool.and_eq_true, decide_eq_true_eq] at h4
   omega
  simp only [List.length_cons, List.length_append]
  have h5 : (L4.num6 k).length ≤ 6 := by unfold L4.num6; split <;> simp
  omega
 ·
  simp
end Go.Proofs.Ytojcdmgcbgpdmaa.L6

namespace Go.Proofs.Ytojcdmgcbgpdmaa.L9
open V L6
open L2 Ex
open L4 (K isK encU toU toI)
open L5 (F isR isN encR decL)
open Go.ChangeShapes Go.WideShapes Go.ChangeAt Go.RowKit Mem Sl

def bsB (m : List Int) : List Int := enc m.length ++ m
def encO (o : X_Op) : List Int := enc o.f_Kind ++ (bsB (L3.strB o.f_Store) ++ (bsB (toI (encU o.f_Key)) ++ (bsB (encR o.f_Record) ++ bsB (L3.strB o.f_Field))))
def encOs (l : List X_Op) : List Int := l.flatMap encO
def okL (l : List X_Op) : Bool := decide (l.length ≤ 6) && l.all isO
def encL (l : List X_Op) : List Int := if okL l then enc l.length ++ encOs l else []
theorem encOs_take {l : List X_Op} {k : Nat} {o : X_Op} (h : l[k]? = some o) : encOs (l.take (k + 1)) = encOs (l.take k) ++ encO o := by
 unfold encOs
 rw [take_next h, List.flatMap_append]
 simp
theorem bsB_len (m : List Int) : (bsB m).length ≤ m.length + 6 := by
 have h := enc_len m.length
 unfold bsB
 rw [List.length_append]
 omega
theorem strB_len (s : ByteArray) : (L3.strB s).length = s.data.toList.length := by unfold L3.strB; rw [List.length_map]
theorem isN_len {s : ByteArray} (h : isN s.data.toList = true) : (L3.strB s).length ≤ 8 := by
 unfold isN at h
 simp only [Bool.and_eq_true, decide_eq_true_eq] at h
 rw [strB_len]
 exact h.2.2
theorem key_len (k : K) : (toI (encU k)).length ≤ 50 := by
 rw [L4.toI_length]
 have h := encU_small k
 omega
theorem rec_len (l : List F) : (encR l).length ≤ 160 := by
 unfold encR
 split
 ·
  rename_i h
  have h1 := L5.encB_len l (L5.isR_names h)
  have h2 := enc_len l.length
  have h3 : l.length ≤ 6 := by
   unfold isR at h
   simp only [Bool.and_eq_true, decide_eq_true_eq] at h
   omega
  rw [List.length_append]
  omega
 ·
  simp
structure Parts (o : X_Op) : Prop where
 kind : 1 ≤ o.f_Kind ∧ o.f_Kind ≤ 6
 store : (L3.strB o.f_Store).length ≤ 8
 key : (toI (encU o.f_Key)).length ≤ 50
 record : (encR o.f_Record).length ≤ 160
 field : (L3.strB o.f_Field).length ≤ 8
 valid : isR o.f_Record = true
theorem isO_parts {o : X_Op} (h : isO o = true) : Parts o := by
 unfold isO at h
 simp only [Bool.and_eq_true] at h
 obtain ⟨h1, h2, h3, h4, h5⟩ := h
 refine ⟨L1.inB_true.1 h1, isN_len h2, key_len _, rec_len _, ?_, h4⟩
 unfold fldO at h5
 split at h5
 ·
  exact isN_len h5
 ·
  rw [beq_iff_eq, ByteArray.toList_eq] at h5
  rw [strB_len, h5]
  simp
theorem encO_len {o : X_Op} (h : isO o = true) : (encO o).length ≤ 256 := by
 obtain ⟨h1, h2, h3, h4, h5, _⟩ := isO_parts h
 have a0 := enc_len o.f_Kind
 have a1 := bsB_len (L3.strB o.f_Store)
 have a2 := bsB_len (toI (encU o.f_Key))
 have a3 := bsB_len (encR o.f_Record)
 have a4 := bsB_len (L3.strB o.f_Field)
 unfold encO
 simp only [List.length_append]
 omega
theorem encOs_len : ∀ {l : List X_Op}, (∀ o ∈ l, isO o = true) → (encOs l).length ≤ 256 * l.length
 | [], _ => by simp [encOs]
 | o :: l, h => by
  have h1 := encO_len (h o (List.mem_cons_self ..))
  have h2 := encOs_len (l := l) fun x hx => h x (List.mem_cons_of_mem _ hx)
  unfold encOs at h2 ⊢
  rw [List.flatMap_cons, List.length_append, List.length_cons]
  omega
theorem okL_no {l : List X_Op} {k : Nat} {o : X_Op} (h : l[k]? = some o) (hb : isO o = false) : encL l = [] := by
 unfold encL okL
 rw [show l.all isO = false from by
  cases ha : l.all isO with
  | false => rfl
  | true => rw [List.all_eq_true] at ha; rw [ha o (List.mem_of_getElem? h)] at hb; cases hb]
 simp
theorem okL_many {l : List X_Op} (h : ¬ l.length ≤ 6) : encL l = [] := by
 unfold encL okL
 simp [h]
theorem okL_yes {l : List X_Op} (h : l.length ≤ 6) (ha : ∀ k (hk : k < l.length), isO l[k] = true) : encL l = enc l.length ++ encOs l := by
 unfold encL okL
 rw [show l.all isO = true from List.all_eq_true.2 fun o ho => by obtain ⟨k, hk, rfl⟩ := List.getElem_of_mem ho; exact ha k hk]
 simp [h]
theorem okL_parts {l : List X_Op} (h : okL l = true) : l.length ≤ 6 ∧ ∀ o ∈ l, isO o = true := by
 unfold okL at h
 rw [Bool.and_eq_true, decide_eq_true_eq, List.all_eq_true] at h
 exact h
theorem encL_len (l : List X_Op) : (encL l).length ≤ 2000 := by
 unfold encL
 split
 ·
  rename_i h
  obtain ⟨h1, h2⟩ := okL_parts h
  have h3 := encOs_len h2
  have h4 := enc_len l.length
  rw [List.length_append]
  omega
 ·
  simp

structure Lim where
 a : Int
 b : Int
 c : Int
 d : Int
structure Room (m : Lim) (o : X_Op) : Prop where
 a : ((L3.strB o.f_Store).length : Int) ≤ m.a
 b : ((toI (encU o.f_Key)).length : Int) ≤ m.b
 c : ((encR o.f_Record).length : Int) ≤ m.c
 d : ((L3.strB o.f_Field).length : Int) ≤ m.d
end Go.Proofs.Ytojcdmgcbgpdmaa.L9

namespace Go.Proofs.Ytojcdmgcbgpdmaa.L9
open L2 Ex
open L4 (K isK encU toU toI)
open L5 (F isR isN encR decL)
open Go.ChangeShapes Go.WideShapes Go.ChangeAt Go.RowKit Mem Sl

def conv (g : Nat) (l : List Int) : Res where
 fp := [g]
 is w := Reads w (g + 1) (some ⟨g, 0, none⟩) (ints .u8 l)
 loc := fun {w w'} hs h j hj => by
  obtain ⟨ad, e, hb, hc⟩ := h j hj
  injection e with e
  subst e
  refine ⟨_, rfl, hb, ?_⟩
  have hg := hs g (List.mem_singleton_self g)
  have hbl : ((⟨g, 0, none⟩ : Addr).add j).block = g := by unfold Addr.add; split <;> rfl
  rw [← hc]
  unfold World.cell?
  rw [hbl, hg]
section
variable {W w w' : World} {rs : List Res}
theorem push_conv (h : Sep W w rs) (s : ByteArray) : Sep W (Lib.bytesWorld w 5 s) (rs ++ [conv w.heap.size (L3.strB s)]) := by
 have hsz : (Lib.bytesWorld w 5 s).heap.size = w.heap.size + 1 := by rw [Lib.bytesWorld_size]
 refine h.push (L3.strB_below w _ s) ?_ (fun b hb => ?_)
 ·
  have hr := L3.strB_reads w 5 s
  rw [hsz] at hr
  exact hr
 ·
  have hb' : b ∈ [w.heap.size] := hb
  rw [List.mem_singleton] at hb'
  omega
theorem conv_rd (h : Sep W w rs) (i : Nat) {g : Nat} {l : List Int} (hi : rs[i]? = some (conv g l)) : Reads w w.heap.size (some ⟨g, 0, none⟩) (ints .u8 l) := by
 have h1 : Reads w (g + 1) (some ⟨g, 0, none⟩) (ints .u8 l) := h.is i _ hi
 have h2 := (h.lies i _ hi g (List.mem_singleton_self g)).2
 exact h1.more (by omega)
end
theorem impl_bytes {W w : World} {rs : List Res} (h : Sep W w rs) (i : Nat) {a a2 : Option Addr} {c c2 n1 n2 : Nat} {l m : List Int} (X : List Int) (hi : rs[i]? = some (own 5 .u8 a c l)) (hr : Reads w w.heap.size a2 (ints .u8 m)) (hn1 : n1 = l.length) (hn2 : n2 = m.length) (hl : l.length ≤ 1000000000) (hm : m.length ≤ 1000000000) (hX : l ++ bsB m = X) :
  Calls Try.prog 178 #[.slice a n1 c, .slice a2 n2 c2] w fun e w' => ∃ a' c', e = .returned (.slice a' X.length c') ∧ Own w' w.heap.size 5 .u8 a' c' X ∧ Below w.heap.size w w' := by
 subst hn1 hn2
 have e : l ++ enc m.length ++ m = X := by rw [← hX]; unfold bsB; rw [List.append_assoc]
 have h1 := L2.implAppendBytes_any a a2 c c2 l m w (h.own i hi).reads hr (h.own i hi).cap hl hm
 rw [e] at h1
 exact h1
theorem spec_bytes {W w : World} {rs : List Res} (h : Sep W w rs) (i : Nat) {a a2 : Option Addr} {c c2 n1 n2 : Nat} {l m : List Int} (X : List Int) (hi : rs[i]? = some (own 5 .u8 a c l)) (hr : Reads w w.heap.size a2 (ints .u8 m)) (hn1 : n1 = l.length) (hn2 : n2 = m.length) (hl : l.length ≤ 1000000000) (hm : m.length ≤ 1000000000) (hX : l ++ bsB m = X) :
  Calls Try.prog 111 #[.slice a n1 c, .slice a2 n2 c2] w fun e w' => ∃ a' c', e = .returned (.slice a' X.length c') ∧ Own w' w.heap.size 5 .u8 a' c' X ∧ Below w.heap.size w w' := by
 subst hn1 hn2
 have e : l ++ enc m.length ++ m = X := by rw [← hX]; unfold bsB; rw [List.append_assoc]
 have h1 := L2.specAppendBytes_any a a2 c c2 l m w (h.own i hi).reads hr (h.own i hi).cap hl hm
 rw [e] at h1
 exact h1
theorem impl_num {W w : World} {rs : List Res} (h : Sep W w rs) {a : Option Addr} {c n1 : Nat} {l : List Int} (n : Int) (X : List Int) (hr : Reads w w.heap.size a (ints .u8 l)) (hc : l.length ≤ c) (hn1 : n1 = l.length) (hl : l.length ≤ 1000000000) (hX : l ++ enc n = X) :
  Calls Try.prog 132 #[.slice a n1 c, .int .i64 n] w fun e w' => ∃ a' c', e = .returned (.slice a' X.length c') ∧ Own w' w.heap.size 5 .u8 a' c' X ∧ Below w.heap.size w w' := by
 subst hn1
 have h1 := L2.implAppendUvarint_any a c l n w hr hc (by omega)
 rw [hX] at h1
 exact h1
theorem spec_num {W w : World} {rs : List Res} (h : Sep W w rs) {a : Option Addr} {c n1 : Nat} {l : List Int} (n : Int) (X : List Int) (hr : Reads w w.heap.size a (ints .u8 l)) (hc : l.length ≤ c) (hn1 : n1 = l.length) (hl : l.length ≤ 1000000000) (hX : l ++ enc n = X) :
  Calls Try.prog 110 #[.slice a n1 c, .int .i64 n] w fun e w' => ∃ a' c', e = .returned (.slice a' X.length c') ∧ Own w' w.heap.size 5 .u8 a' c' X ∧ Below w.heap.size w w' := by
 subst hn1
 have h1 := L2.specAppendUvarint_any a c l n w hr (by omega)
 rw [hX] at h1
 exact h1
end Go.Proofs.Ytojcdmgcbgpdmaa.L9

namespace Go.Proofs.Ytojcdmgcbgpdmaa.L9
open V L6
open L4 (K isK cmpK)
open L5 (F isR isN string_geq)
open Go.Op (bytesLess)
open Go.ChangeShapes Go.WideShapes Go.ChangeAt Go.RowKit Mem Sl Ex L2 Sv Bag

set_option maxHeartbeats 8000000 in
theorem specIsOp_any (o : Y_Op) (hf : FitO (co_Op o)) (w : World) (hr : RowsRd w w.heap.size (rw_Op o)) :
  Calls Try.prog 130 #[vv_Op o] w fun e w' => e = .returned (.bool (isO (co_Op o))) ∧ Below w.heap.size w w' := by
 have HRR := Lib.hid (fun w' (h : Below w.heap.size w w') => (((rdO hr).below h).more h.size : Reads w' w'.heap.size o.f_Record.a (L5.cellsF o.f_Record.l)))
 have HFO := Lib.hid (show FitO ⟨o.f_Kind, o.f_Store, o.f_Key, o.f_Record.l, o.f_Field⟩ from hf)
 clear hf hr
 obtain ⟨kd, st, ⟨kk, kn, kt⟩, ⟨ra, rc, rl⟩, fd⟩ := o
 try unfold vv_Op
 dsimp only at HRR HFO ⊢
 obtain ⟨bn, hbn⟩ : ∃ b, isN st.data.toList = b := ⟨_, rfl⟩
 obtain ⟨bk, hbk⟩ : ∃ b, isK (⟨kk, kn, kt⟩ : K) = b := ⟨_, rfl⟩
 obtain ⟨br, hbr⟩ : ∃ b, isR rl = b := ⟨_, rfl⟩
 obtain ⟨bf, hbf⟩ : ∃ b, isN fd.data.toList = b := ⟨_, rfl⟩
 obtain ⟨c0, hc0⟩ : ∃ b, (fd.toList == []) = b := ⟨_, rfl⟩
 have HNA := fun w => L5.specIsName_any st HFO.out.store w
 rw [hbn] at HNA
 replace HNA := Lib.hid HNA
 have HNF := fun w => L5.specIsName_any fd HFO.out.field w
 rw [hbf] at HNF
 replace HNF := Lib.hid HNF
 have HKY := fun w => L4.specIsKey_any (⟨kk, kn, kt⟩ : K) (by have h : kt.size ≤ 1099511627776 := HFO.out.text; show kt.size ≤ _; omega) w
 rw [hbk] at HKY
 unfold L4.K.v at HKY
 dsimp only at HKY
 replace HKY := Lib.hid HKY
 have HRC := fun w' (h : Below w.heap.size w w') => L5.specIsRecord_any ra rc rl (by have h : rl.length ≤ 1048576 := HFO.out.len; omega) HFO.out.small w' (HRR.out w' h)
 rw [hbr] at HRC
 replace HRC := Lib.hid HRC
 have HB : isO (co_Op ⟨kd, st, ⟨kk, kn, kt⟩, ⟨ra, rc, rl⟩, fd⟩) = (L1.inB kd 1 6 && (bn && ((kd == 5 || bk) && (br && (if kd = 6 then bf else c0))))) := by rw [← hbn, ← hbk, ← hbr, ← hbf, ← hc0]; rfl
 clear hbn hbk hbr hbf
 rw [HB]
 clear HB
 obtain ⟨bi, hbi⟩ : ∃ b, L1.inB kd 1 6 = b := ⟨_, rfl⟩
 have HIA := fun w => L1.l1In_any kd 1 6 w
 rw [hbi] at HIA ⊢
 replace HIA := Lib.hid HIA
 clear hbi
 generalize hB : (bi && _) = B
 have HB := Lib.hid hB.symm
 clear hB
 have S1 := Lib.hid (show Sl.Sep w _ [_] from L4.push_box (Sl.Sep.start w) 148 #[.int .i64 kd, .string st, .int .i64 kk, .int .i64 kn, .string kt, .slice ra rl.length rc, .string fd] (w.heap.size) (by simp))
 obtain ⟨wa, hwa⟩ : ∃ w_, w_ = (w.alloc (.cells #[.int .i64 kd, .string st, .int .i64 kk, .int .i64 kn, .string kt, .slice ra rl.length rc, .string fd] 148)) := ⟨_, rfl⟩
 rw [← hwa] at S1
 go_enter Try.func130, Try.ntmps130
 go_upto_region 1 with fail
 rw [← hwa]
 clear hwa
 obtain ⟨f0, f1, f2, f3, f4, f5, f6⟩ := Bag.cs7 S1.out 0 rfl
 cases bi with
 | false =>
  go_wp2_with fail
  go_at_call 91
  refine (HIA.out _).mono ?_
  rintro e w1 ⟨rfl, rfl⟩
  go_wp2_with fail
  go_ret
  exact ⟨by rw [HB.out]; simp [*], S1.out.old⟩
 | true =>
  go_wp2_with fail
  go_at_call 91
  refine (HIA.out _).mono ?_
  rintro e w1 ⟨rfl, rfl⟩
  cases bn with
  | false =>
   go_wp2_with fail
   go_at_call 109
   refine (HNA.out _).mono ?_
   rintro e w2 ⟨rfl, rfl⟩
   go_wp2_with fail
   go_ret
   exact ⟨by rw [HB.out]; simp [*], S1.out.old⟩
  | true =>
   go_wp2_with fail
   go_at_call 109
   refine (HNA.out _).mono ?_
   rintro e w2 ⟨rfl, rfl⟩
   by_cases h5 : kd = 5
   ·
    have h5' : (kd == 5) = true := by simp [h5]
    cases br with
    | false =>
     go_wp2_with fail
     go_at_call 86
     refine (HRC.out _ S1.out.old).mono ?_
     rintro e w3 ⟨rfl, hb⟩
     clear f0 f1 f2 f3 f4 f5 f6
     have S2 := Lib.hid (S1.out.keep hb)
     clear S1
     clear hb
     obtain ⟨f0, f1, f2, f3, f4, f5, f6⟩ := Bag.cs7 S2.out 0 rfl
     go_wp2_with fail
     go_ret
     exact ⟨by rw [HB.out]; simp [*], S2.out.old⟩
    | true =>
     go_wp2_with fail
     go_at_call 86
     refine (HRC.out _ S1.out.old).mono ?_
     rintro e w3 ⟨rfl, hb⟩
     clear f0 f1 f2 f3 f4 f5 f6
     have S2 := Lib.hid (S1.out.keep hb)
     clear S1
     clear hb
     obtain ⟨f0, f1, f2, f3, f4, f5, f6⟩ := Bag.cs7 S2.out 0 rfl
     by_cases h6 : kd = 6
     ·
      exact absurd h6 (by omega)
     ·
      have h6' : (kd == 6) = false := by simp [h6]
      go_wp2_with fail
      go_ret
      exact ⟨by rw [HB.out]; simp [*], S2.out.old⟩
   ·
    have h5' : (kd == 5) = false := by simp [h5]
    cases bk with
    | false =>
     go_wp2_with fail
     go_at_call 85
     refine (HKY.out _).mono ?_
     rintro e w3 ⟨rfl, hb⟩
     clear f0 f1 f2 f3 f4 f5 f6
     have S2 := Lib.hid (S1.out.keep hb)
     clear S1
     clear hb
     obtain ⟨f0, f1, f2, f3, f4, f5, f6⟩ := Bag.cs7 S2.out 0 rfl
     go_wp2_with fail
     go_ret
     exact ⟨by rw [HB.out]; simp [*], S2.out.old⟩
    | true =>
     go_wp2_with fail
     go_at_call 85
     refine (HKY.out _).mono ?_
     rintro e w3 ⟨rfl, hb⟩
     clear f0 f1 f2 f3 f4 f5 f6
     have S2 := Lib.hid (S1.out.keep hb)
     clear S1
     clear hb
     obtain ⟨f0, f1, f2, f3, f4, f5, f6⟩ := Bag.cs7 S2.out 0 rfl
     cases br with
     | false =>
      go_wp2_with fail
      go_at_call 86
      refine (HRC.out _ S2.out.old).mono ?_
      rintro e w4 ⟨rfl, hb⟩
      clear f0 f1 f2 f3 f4 f5 f6
      have S3 := Lib.hid (S2.out.keep hb)
      clear S2
      clear hb
      obtain ⟨f0, f1, f2, f3, f4, f5, f6⟩ := Bag.cs7 S3.out 0 rfl
      go_wp2_with fail
      go_ret
      exact ⟨by rw [HB.out]; simp [*], S3.out.old⟩
     | true =>
      go_wp2_with fail
      go_at_call 86
      refine (HRC.out _ S2.out.old).mono ?_
      rintro e w4 ⟨rfl, hb⟩
      clear f0 f1 f2 f3 f4 f5 f6
      have S3 := Lib.hid (S2.out.keep hb)
      clear S2
      clear hb
      obtain ⟨f0, f1, f2, f3, f4, f5, f6⟩ := Bag.cs7 S3.out 0 rfl
      by_cases h6 : kd = 6
      ·
       have h6' : (kd == 6) = true := by simp [h6]
       cases bf with
       | false =>
        go_wp2_with fail
        go_at_call 109
        refine (HNF.out _).mono ?_
        rintro e w5 ⟨rfl, rfl⟩
        go_wp2_with fail
        go_ret
        exact ⟨by rw [HB.out]; simp [*], S3.out.old⟩
       | true =>
        go_wp2_with fail
        go_at_call 109
        refine (HNF.out _).mono ?_
        rintro e w5 ⟨rfl, rfl⟩
        go_wp2_with fail
        go_ret
        exact ⟨by rw [HB.out]; simp [*], S3.out.old⟩
      ·
       have h6' : (kd == 6) = false := by simp [h6]
       go_wp2_with fail
       go_ret
       exact ⟨by rw [HB.out]; simp [*], S3.out.old⟩
end Go.Proofs.Ytojcdmgcbgpdmaa.L9

set_option linter.unusedSimpArgs false
namespace Go.Proofs.Ytojcdmgcbgpdmaa.L9
open V L6
open L4 (K isK cmpK)
open L5 (F isR isN string_geq)
open Go.Op (bytesLess)
open Go.ChangeShapes Go.WideShapes Go.ChangeAt Go.RowKit Mem Sl Ex L2 Sv Bag
open L2 Ex
open L4 (encU toI toU)
open L5 (encR)

set_option maxHeartbeats 8000000 in
theorem specEncodeOps_any (a : Option Addr) (c : Nat) (os : List Y_Op) (hl : os.length ≤ 1048576) (hf : ∀ o ∈ coS_Op os, FitO o) (w : World) (hr : Reads w w.heap.size a (os.flatMap cl_Op)) (hx : RowsRd w w.heap.size (rws_Op os)) :
  Calls Try.prog 59 #[.slice a os.length c] w (Gave w w.heap.size 5 .u8 (encL (coS_Op os))) := by
 have HR := Lib.hid (fun w' (h : Below w.heap.size w w') => hr.below h)
 have HX := Lib.hid (fun w' (h : Below w.heap.size w w') => (hx.below h).more h.size)
 have HF := Lib.hid hf
 obtain ⟨N, hN⟩ : ∃ n, n = os.length := ⟨_, rfl⟩
 rw [← hN] at hl ⊢
 have hl' : (N : Int) ≤ 1048576 := by omega
 have HN := Lib.hid hN
 clear hN hr hx hf
 have HSL := Lib.hid (show (coS_Op os).length = N from by rw [coS_len, HN.out])
 obtain ⟨R, hR0⟩ : ∃ x, encL (coS_Op os) = x := ⟨_, rfl⟩
 rw [hR0]
 have HR0 := Lib.hid hR0
 clear hR0
 obtain ⟨X0, hX0⟩ : ∃ x, enc (N : Int) = x := ⟨_, rfl⟩
 have HX0 := Lib.hid hX0
 clear hX0
 have S1 := Lib.hid (show Sl.Sep w w [] from Sl.Sep.start w)
 have hz0 : ([] : List Int).length ≤ 1000000000 := by decide
 go_enter Try.func59, Try.ntmps59
 go_wp2_with fail
 have S2 := Lib.hid (show Sl.Sep w _ [Sl.own 5 .u8 (some ⟨w.heap.size, 0, none⟩) 0 ([])] from Sl.Sep.pushOwn S1.out ((Below.refl _ _).alloc (Nat.le_refl _) _) (Own.empty w 5 .u8 (Nat.le_refl _)))
 clear S1
 go_at_call 110
 refine (spec_num S2.out ((N : Int)) X0 ((Sl.Sep.own S2.out 0 rfl).reads) ((Sl.Sep.own S2.out 0 rfl).cap) rfl (hz0) (by rw [List.nil_append]; exact HX0.out)).mono ?_
 rintro e w1 ⟨b0a, b0c, rfl, ho, hb⟩
 have S3 := Lib.hid (show Sl.Sep w _ [_, Sl.own 5 .u8 b0a b0c X0] from Sl.Sep.pushOwn S2.out hb ho)
 clear S2
 clear hb ho
 have S4 := Lib.hid (show Sl.Sep w _ [_] from Bag.take S3.out [1] (by rfl) (by decide))
 clear S3
 go_wp2_with fail
 go_loopw [3, 4] (fun s i wr => ∃ (k : Nat) (A : Option Addr) (C : Nat) (X : List Int), k ≤ N ∧ i = .int .i64 k ∧ s = .slice A X.length C ∧ Hid ((X = X0 ++ encOs ((coS_Op os).take k) ∧ ∀ j (hj : j < (coS_Op os).length), j < k → isO (coS_Op os)[j] = true) ∧ Sl.Sep w wr [Sl.own 5 .u8 A C X])) (fun _ i _ => N - (intOf i).toNat)
 case atStart => exact ⟨0, _, _, X0, Nat.zero_le _, rfl, rfl, And.intro ⟨by simp [encOs], fun j hj h => absurd h (by omega)⟩ S4.out⟩
 case round =>
  obtain ⟨k, A, C, X, hk, rfl, rfl, hrel⟩ := hrel
  have HI := Lib.hid hrel.out.1
  have S9 := Lib.hid hrel.out.2
  clear hrel S4
  by_cases hlt : (k : Int) < (N : Int)
  ·
   skip
   have hkl : k < os.length := by have := HN.out; omega
   obtain ⟨x, hx⟩ : ∃ x, os[k]? = some x := ⟨_, List.getElem?_eq_getElem hkl⟩
   obtain ⟨oad, e'⟩ := el_some cl_Op_len (by decide) (HR.out _ S9.out.old) hkl
   subst e'
   have hro := fun w' (h : Below w.heap.size w w') => rdOs (HX.out w' h) hx
   have hrr := fun w' (h : Below w.heap.size w w') => rdO (rdOs (HX.out w' h) hx)
   obtain ⟨kd, st, ⟨kk, kn, kt⟩, ⟨ra, rc, rl⟩, fd⟩ := x
   have HK := Lib.hid (fun w' (h : Below w.heap.size w w') => el7 cl_Op_len (HR.out _ h) hx rfl)
   dsimp only at HK hrr
   have HRO := Lib.hid hro
   have HRR := Lib.hid hrr
   have HC := Lib.hid (show (coS_Op os)[k]? = some (⟨kd, st, ⟨kk, kn, kt⟩, rl, fd⟩ : X_Op) from coS_at hx)
   have HFO := Lib.hid (HF.out _ (List.mem_of_getElem? HC.out))
   clear hx hrr hro
   obtain ⟨bo, hbo⟩ : ∃ b, isO (⟨kd, st, ⟨kk, kn, kt⟩, rl, fd⟩ : X_Op) = b := ⟨_, rfl⟩
   have HIO := fun w' (h : Below w.heap.size w w') => (specIsOp_any ⟨kd, st, ⟨kk, kn, kt⟩, ⟨ra, rc, rl⟩, fd⟩ HFO.out w' (HRO.out w' h)).mono (R' := fun e w2 => e = .returned (.bool bo) ∧ Below w'.heap.size w' w2) (fun e w2 hh => ⟨by rw [← hbo]; exact hh.1, hh.2⟩)
   unfold vv_Op at HIO
   dsimp only at HIO
   replace HIO := Lib.hid HIO
   have HBO := Lib.hid hbo
   clear hbo
   obtain ⟨f0, f1, f2, f3, f4, f5, f6⟩ := HK.out _ S9.out.old
   go_wp2_with fail
   go_at_call 130
   refine (HIO.out _ S9.out.old).mono ?_
   rintro e w2 ⟨rfl, hb⟩
   clear f0 f1 f2 f3 f4 f5 f6
   have S10 := Lib.hid (S9.out.keep hb)
   clear S9
   clear hb
   obtain ⟨f0, f1, f2, f3, f4, f5, f6⟩ := HK.out _ S10.out.old
   cases bo with
   | false =>
    go_wp2_with fail
    go_ret
    rw [show R = [] from by rw [← HR0.out]; exact okL_no HC.out HBO.out]
    exact Gave.mk rfl (Own.empty _ 5 .u8 S10.out.old.size) (below_alloc S10.out.old _ (Nat.le_refl _))
   | true =>
    have HV := Lib.hid (show isO (⟨kd, st, ⟨kk, kn, kt⟩, rl, fd⟩ : X_Op) = true from HBO.out)
    have HXB := Lib.hid (show X.length ≤ 300000000 from by
     rw [HI.out.1, List.length_append, ← HX0.out]
     have h1 := enc_len (N : Int)
     have h2 := encOs_len (l := (coS_Op os).take k) (fun o ho => by obtain ⟨j, hj, e⟩ := List.getElem_of_mem ho; rw [List.length_take] at hj; rw [← e, List.getElem_take]; exact HI.out.2 j (by omega) (by omega))
     have h3 : ((coS_Op os).take k).length ≤ k := by rw [List.length_take]; exact Nat.min_le_left _ _
     omega)
    have HEK := fun w => L4.specEncodeKey_any (⟨kk, kn, kt⟩ : K) (by have h : kt.size ≤ 1099511627776 := HFO.out.text; show kt.size ≤ _; omega) w
    skip
    unfold L4.K.v at HEK
    dsimp only at HEK
    have HER := fun w' (h : Below w.heap.size w w') => L5.specEncodeRecord_any ra rc rl (by have h : rl.length ≤ 1048576 := HFO.out.len; omega) HFO.out.small w' (HRR.out w' h)
    have hxb := HXB.out
    have hpt := isO_parts HV.out
    have HPS := Lib.hid (show (L3.strB st).length ≤ 8 from hpt.store)
    have HPF := Lib.hid (show (L3.strB fd).length ≤ 8 from hpt.field)
    have hpk : (toI (encU (⟨kk, kn, kt⟩ : K))).length ≤ 50 := hpt.key
    have hpr : (encR rl).length ≤ 160 := hpt.record
    obtain ⟨KB, hKB⟩ : ∃ x, toI (encU (⟨kk, kn, kt⟩ : K)) = x := ⟨_, rfl⟩
    obtain ⟨RB, hRB⟩ : ∃ x, encR rl = x := ⟨_, rfl⟩
    rw [hKB] at hpk
    rw [hRB] at hpr
    have HPK := Lib.hid hpk
    have HPR := Lib.hid hpr
    clear hpt hpk hpr
    obtain ⟨X1, hX1⟩ : ∃ x, X ++ enc kd = x := ⟨_, rfl⟩
    have hl1 : X1.length ≤ 300000300 := by rw [← hX1, List.length_append]; have h1 := enc_len kd; omega
    obtain ⟨X2, hX2⟩ : ∃ x, X1 ++ bsB (L3.strB st) = x := ⟨_, rfl⟩
    have hl2 : X2.length ≤ 300000600 := by rw [← hX2, List.length_append]; have h1 := bsB_len (L3.strB st); have h2 := HPS.out; omega
    obtain ⟨X3, hX3⟩ : ∃ x, X2 ++ bsB KB = x := ⟨_, rfl⟩
    have hl3 : X3.length ≤ 300000900 := by rw [← hX3, List.length_append]; have h1 := bsB_len (KB); have h2 := HPK.out; omega
    obtain ⟨X4, hX4⟩ : ∃ x, X3 ++ bsB RB = x := ⟨_, rfl⟩
    have hl4 : X4.length ≤ 300001200 := by rw [← hX4, List.length_append]; have h1 := bsB_len (RB); have h2 := HPR.out; omega
    obtain ⟨X5, hX5⟩ : ∃ x, X4 ++ bsB (L3.strB fd) = x := ⟨_, rfl⟩
    have hl5 : X5.length ≤ 300001500 := by rw [← hX5, List.length_append]; have h1 := bsB_len (L3.strB fd); have h2 := HPF.out; omega
    have HNX := Lib.hid (show X ++ encO (⟨kd, st, ⟨kk, kn, kt⟩, rl, fd⟩ : X_Op) = X5 from by rw [← hX5, ← hX4, ← hX3, ← hX2, ← hX1, ← hKB, ← hRB]; unfold encO; simp only [List.append_assoc])
    have HXX := Lib.hid (And.intro hX1 (And.intro hX2 (And.intro hX3 (And.intro hX4 hX5))))
    clear hX1 hX2 hX3 hX4 hX5
    have HLL := Lib.hid (And.intro hl1 (And.intro hl2 (And.intro hl3 (And.intro hl4 hl5))))
    clear hl1 hl2 hl3 hl4 hl5
    rw [hKB] at HEK
    rw [hRB] at HER
    replace HEK := Lib.hid HEK
    replace HER := Lib.hid HER
    clear hKB hRB
    clear hxb
    go_upto_region 7 with fail
    go_cut [3] (fun z wx => ∃ (A2 : Option Addr) (C2 : Nat), z = .slice A2 X2.length C2 ∧ Hid (Sl.Sep w wx [Sl.own 5 .u8 A2 C2 X2]))
    case first =>
     clear f0 f1 f2 f3 f4 f5 f6
     obtain ⟨f0, f1, f2, f3, f4, f5, f6⟩ := HK.out _ S10.out.old
     clear f0 f1 f2 f3 f4 f5 f6
     refine wp_region_held_drew (S := (fun w' => (w'.cell? (oad.add (k * 7)) = some (.int .i64 kd) ∧ w'.cell? (⟨(oad.add (k * 7)).block, (oad.add (k * 7)).off + 1, none⟩) = some (.string st) ∧ w'.cell? (⟨(oad.add (k * 7)).block, (oad.add (k * 7)).off + 2, none⟩) = some (.int .i64 kk) ∧ w'.cell? (⟨(oad.add (k * 7)).block, (oad.add (k * 7)).off + 3, none⟩) = some (.int .i64 kn) ∧ w'.cell? (⟨(oad.add (k * 7)).block, (oad.add (k * 7)).off + 4, none⟩) = some (.string kt) ∧ w'.cell? (⟨(oad.add (k * 7)).block, (oad.add (k * 7)).off + 5, none⟩) = some (.slice ra rl.length rc) ∧ w'.cell? (⟨(oad.add (k * 7)).block, (oad.add (k * 7)).off + 6, none⟩) = some (.string fd)))) (by kernel_rfl) (HK.out _ (Bag.drew1 S10.out).old) (fun hS => ?_)
     have S11 := Lib.hid (Bag.drew1 S10.out)
     clear S10
     generalize World.drew _ = w3 at hS S11 ⊢
     refine tk 0 rfl ?_
     try simp only [zp0, zp1, zp2, zp3, zp4]
     refine tk 1 rfl ?_
     try simp only [zp0, zp1, zp2, zp3, zp4]
     refine tk 2 rfl ?_
     try simp only [zp0, zp1, zp2, zp3, zp4]
     refine tk 3 rfl ?_
     try simp only [zp0, zp1, zp2, zp3, zp4]
     refine tk 4 rfl ?_
     try simp only [zp0, zp1, zp2, zp3, zp4]
     refine tk 5 rfl ?_
     try simp only [zp0, zp1, zp2, zp3, zp4]
     refine tk 7 rfl ?_
     try simp only [zp0, zp1, zp2, zp3, zp4]
     refine tk 8 rfl ?_
     try simp only [zp0, zp1, zp2, zp3, zp4]
     refine tk 9 rfl ?_
     try simp only [zp0, zp1, zp2, zp3, zp4]
     refine tk 10 rfl ?_
     try simp only [zp0, zp1, zp2, zp3, zp4]
     refine tk 11 rfl ?_
     try simp only [zp0, zp1, zp2, zp3, zp4]
     refine wpAnyH_ready (rs := [6, 12]) (by kernel_rfl) (by simp) ?_
     refine Reg.cons_op (i := 6) rfl (fun K hK => ?_) ?_
     ·
      skip
      go_simp
      go_at_call 110
      refine (spec_num S11.out (kd) X1 ((Sl.Sep.own S11.out 0 rfl).reads) ((Sl.Sep.own S11.out 0 rfl).cap) rfl (by have := HXB.out; omega) HXX.out.1).mono ?_
      rintro e w4 ⟨b1a, b1c, rfl, ho, hb⟩
      have S12 := Lib.hid (show Sl.Sep w _ [_, Sl.own 5 .u8 b1a b1c X1] from Sl.Sep.pushOwn S11.out hb ho)
      clear S11
      clear hb ho
      go_wp2_with fail
      refine hK.out _ _ (HK.out _ S12.out.old) (fun hS => ?_)
      clear hK K
      try simp only [zp0, zp1, zp2, zp3, zp4]
      refine Reg.one_op (i := 12) rfl (by kernel_rfl) (fun K hK => ?_)
      have hcv := Lib.run_convert_string_bytes (P := Try.prog) w4 9 22 5 st Try.underlying9 Try.underlying22 Try.underlying5
      go_simp
      have S13 := Lib.hid (show Sl.Sep w _ [_, _, conv w4.heap.size (L3.strB st)] from push_conv S12.out st)
      clear S12
      clear hcv
      obtain ⟨g1, hg⟩ : ∃ g', g' = w4.heap.size := ⟨_, rfl⟩
      rw [← hg] at S13 ⊢
      clear hg
      generalize Lib.bytesWorld w4 5 st = w5 at S13 ⊢
      refine hK.out _ _ (HK.out _ S13.out.old) (fun hS => ?_)
      clear hK K
      try simp only [zp0, zp1, zp2, zp3, zp4]
      refine Reg.one_op (i := 13) rfl (by kernel_rfl) (fun K hK => ?_)
      go_simp
      go_at_call 111
      refine (spec_bytes S13.out 1 X2 rfl (conv_rd S13.out 2 rfl) rfl ((L3.strB_length st).symm) (by have h := HLL.out.1; omega) (by have := HPS.out; omega) HXX.out.2.1).mono ?_
      rintro e w6 ⟨b2a, b2c, rfl, ho, hb⟩
      have S14 := Lib.hid (show Sl.Sep w _ [_, _, conv g1 (L3.strB st), Sl.own 5 .u8 b2a b2c X2] from Sl.Sep.pushOwn S13.out hb ho)
      clear S13
      clear hb ho
      go_wp2_with fail
      refine hK.out _ _ (HK.out _ S14.out.old) (fun hS => ?_)
      clear hK K
      try simp only [zp0, zp1, zp2, zp3, zp4]
      refine tk 14 rfl ?_
      try simp only [zp0, zp1, zp2, zp3, zp4]
      refine wpAnyH_done (by kernel_rfl) ?_ _
      obtain ⟨f0, f1, f2, f3, f4, f5, f6⟩ := HK.out _ S14.out.old
      clear f0 f1 f2 f3 f4 f5 f6
      have S15 := Lib.hid (show Sl.Sep w _ [_] from Bag.take S14.out [3] (by rfl) (by decide))
      clear S14
      go_wp2_with fail
      go_meet
      case rel => exact ⟨b2a, b2c, rfl, S15.out⟩
     refine Reg.cons_op (i := 12) rfl (fun K hK => ?_) ?_
     ·
      skip
      have hcv := Lib.run_convert_string_bytes (P := Try.prog) w3 9 22 5 st Try.underlying9 Try.underlying22 Try.underlying5
      go_simp
      have S12 := Lib.hid (show Sl.Sep w _ [_, conv w3.heap.size (L3.strB st)] from push_conv S11.out st)
      clear S11
      clear hcv
      obtain ⟨g1, hg⟩ : ∃ g', g' = w3.heap.size := ⟨_, rfl⟩
      rw [← hg] at S12 ⊢
      clear hg
      generalize Lib.bytesWorld w3 5 st = w4 at S12 ⊢
      refine hK.out _ _ (HK.out _ S12.out.old) (fun hS => ?_)
      clear hK K
      try simp only [zp0, zp1, zp2, zp3, zp4]
      refine Reg.one_op (i := 6) rfl (by kernel_rfl) (fun K hK => ?_)
      go_simp
      go_at_call 110
      refine (spec_num S12.out (kd) X1 ((Sl.Sep.own S12.out 0 rfl).reads) ((Sl.Sep.own S12.out 0 rfl).cap) rfl (by have := HXB.out; omega) HXX.out.1).mono ?_
      rintro e w5 ⟨b1a, b1c, rfl, ho, hb⟩
      have S13 := Lib.hid (show Sl.Sep w _ [_, conv g1 (L3.strB st), Sl.own 5 .u8 b1a b1c X1] from Sl.Sep.pushOwn S12.out hb ho)
      clear S12
      clear hb ho
      go_wp2_with fail
      refine hK.out _ _ (HK.out _ S13.out.old) (fun hS => ?_)
      clear hK K
      try simp only [zp0, zp1, zp2, zp3, zp4]
      refine Reg.one_op (i := 13) rfl (by kernel_rfl) (fun K hK => ?_)
      go_simp
      go_at_call 111
      refine (spec_bytes S13.out 2 X2 rfl (conv_rd S13.out 1 rfl) rfl ((L3.strB_length st).symm) (by have h := HLL.out.1; omega) (by have := HPS.out; omega) HXX.out.2.1).mono ?_
      rintro e w6 ⟨b2a, b2c, rfl, ho, hb⟩
      have S14 := Lib.hid (show Sl.Sep w _ [_, _, _, Sl.own 5 .u8 b2a b2c X2] from Sl.Sep.pushOwn S13.out hb ho)
      clear S13
      clear hb ho
      go_wp2_with fail
      refine hK.out _ _ (HK.out _ S14.out.old) (fun hS => ?_)
      clear hK K
      try simp only [zp0, zp1, zp2, zp3, zp4]
      refine tk 14 rfl ?_
      try simp only [zp0, zp1, zp2, zp3, zp4]
      refine wpAnyH_done (by kernel_rfl) ?_ _
      obtain ⟨f0, f1, f2, f3, f4, f5, f6⟩ := HK.out _ S14.out.old
      clear f0 f1 f2 f3 f4 f5 f6
      have S15 := Lib.hid (show Sl.Sep w _ [_] from Bag.take S14.out [3] (by rfl) (by decide))
      clear S14
      go_wp2_with fail
      go_meet
      case rel => exact ⟨b2a, b2c, rfl, S15.out⟩
     exact AllReadyH.nil
    case rest =>
     obtain ⟨A2, C2, rfl, hq⟩ := hcut
     obtain ⟨ww, hww, hSS⟩ : ∃ u, u = _ ∧ Sl.Sep w u [Sl.own 5 .u8 A2 C2 X2] := ⟨_, rfl, hq.out⟩
     subst hww
     have S60 := Lib.hid hSS
     clear hSS hq S10
     obtain ⟨f0, f1, f2, f3, f4, f5, f6⟩ := HK.out _ S60.out.old
     go_upto_region 8 with fail
     clear f0 f1 f2 f3 f4 f5 f6
     refine wp_region_held_drew (S := (fun w' => (w'.cell? (oad.add (k * 7)) = some (.int .i64 kd) ∧ w'.cell? (⟨(oad.add (k * 7)).block, (oad.add (k * 7)).off + 1, none⟩) = some (.string st) ∧ w'.cell? (⟨(oad.add (k * 7)).block, (oad.add (k * 7)).off + 2, none⟩) = some (.int .i64 kk) ∧ w'.cell? (⟨(oad.add (k * 7)).block, (oad.add (k * 7)).off + 3, none⟩) = some (.int .i64 kn) ∧ w'.cell? (⟨(oad.add (k * 7)).block, (oad.add (k * 7)).off + 4, none⟩) = some (.string kt) ∧ w'.cell? (⟨(oad.add (k * 7)).block, (oad.add (k * 7)).off + 5, none⟩) = some (.slice ra rl.length rc) ∧ w'.cell? (⟨(oad.add (k * 7)).block, (oad.add (k * 7)).off + 6, none⟩) = some (.string fd)))) (by kernel_rfl) (HK.out _ (Bag.drew1 S60.out).old) (fun hS => ?_)
     have S61 := Lib.hid (Bag.drew1 S60.out)
     clear S60
     generalize World.drew _ = w3 at hS S61 ⊢
     refine tk 0 rfl ?_
     try simp only [zp0, zp1, zp2, zp3, zp4]
     refine tk 1 rfl ?_
     try simp only [zp0, zp1, zp2, zp3, zp4]
     refine tk 2 rfl ?_
     try simp only [zp0, zp1, zp2, zp3, zp4]
     refine tk 3 rfl ?_
     try simp only [zp0, zp1, zp2, zp3, zp4]
     refine tk 4 rfl ?_
     try simp only [zp0, zp1, zp2, zp3, zp4]
     refine tk 5 rfl ?_
     try simp only [zp0, zp1, zp2, zp3, zp4]
     refine tk 8 rfl ?_
     try simp only [zp0, zp1, zp2, zp3, zp4]
     refine tk 9 rfl ?_
     try simp only [zp0, zp1, zp2, zp3, zp4]
     refine tk 10 rfl ?_
     try simp only [zp0, zp1, zp2, zp3, zp4]
     refine tk 11 rfl ?_
     try simp only [zp0, zp1, zp2, zp3, zp4]
     refine tk 12 rfl ?_
     try simp only [zp0, zp1, zp2, zp3, zp4]
     refine Reg.one_op (i := 6) rfl (by kernel_rfl) (fun K hK => ?_)
     go_simp
     go_at_call 31
     refine (HEK.out _).mono ?_
     rintro e w4 ⟨ka, kc, rfl, ho, hb⟩
     have S62 := Lib.hid (show Sl.Sep w _ [_, Sl.own 5 .u8 ka kc KB] from Sl.Sep.pushOwn S61.out hb ho)
     clear S61
     clear hb ho
     go_wp2_with fail
     refine hK.out _ _ (HK.out _ S62.out.old) (fun hS => ?_)
     clear hK K
     try simp only [zp0, zp1, zp2, zp3, zp4]
     refine Reg.one_op (i := 7) rfl (by kernel_rfl) (fun K hK => ?_)
     go_simp
     go_at_call 111
     refine (spec_bytes S62.out 0 X3 rfl ((Sl.Sep.own S62.out 1 rfl).reads) rfl (rfl) (by have h := HLL.out.2.1; omega) (by have := HPK.out; omega) HXX.out.2.2.1).mono ?_
     rintro e w5 ⟨b3a, b3c, rfl, ho, hb⟩
     have S63 := Lib.hid (show Sl.Sep w _ [_, _, Sl.own 5 .u8 b3a b3c X3] from Sl.Sep.pushOwn S62.out hb ho)
     clear S62
     clear hb ho
     go_wp2_with fail
     refine hK.out _ _ (HK.out _ S63.out.old) (fun hS => ?_)
     clear hK K
     try simp only [zp0, zp1, zp2, zp3, zp4]
     refine Reg.one_op (i := 13) rfl (by kernel_rfl) (fun K hK => ?_)
     go_simp
     go_at_call 32
     refine (HER.out _ S63.out.old).mono ?_
     rintro e w6 ⟨rea, rec_, rfl, ho, hb⟩
     have S64 := Lib.hid (show Sl.Sep w _ [_, _, _, Sl.own 5 .u8 rea rec_ RB] from Sl.Sep.pushOwn S63.out hb ho)
     clear S63
     clear hb ho
     go_wp2_with fail
     refine hK.out _ _ (HK.out _ S64.out.old) (fun hS => ?_)
     clear hK K
     try simp only [zp0, zp1, zp2, zp3, zp4]
     refine Reg.one_op (i := 14) rfl (by kernel_rfl) (fun K hK => ?_)
     go_simp
     go_at_call 111
     refine (spec_bytes S64.out 2 X4 rfl ((Sl.Sep.own S64.out 3 rfl).reads) rfl (rfl) (by have h := HLL.out.2.2.1; omega) (by have := HPR.out; omega) HXX.out.2.2.2.1).mono ?_
     rintro e w7 ⟨b4a, b4c, rfl, ho, hb⟩
     have S65 := Lib.hid (show Sl.Sep w _ [_, _, _, _, Sl.own 5 .u8 b4a b4c X4] from Sl.Sep.pushOwn S64.out hb ho)
     clear S64
     clear hb ho
     go_wp2_with fail
     refine hK.out _ _ (HK.out _ S65.out.old) (fun hS => ?_)
     clear hK K
     try simp only [zp0, zp1, zp2, zp3, zp4]
     refine tk 15 rfl ?_
     try simp only [zp0, zp1, zp2, zp3, zp4]
     refine wpAnyH_done (by kernel_rfl) ?_ _
     obtain ⟨f0, f1, f2, f3, f4, f5, f6⟩ := HK.out _ S65.out.old
     clear f0 f1 f2 f3 f4 f5 f6
     have S66 := Lib.hid (show Sl.Sep w _ [_] from Bag.take S65.out [4] (by rfl) (by decide))
     clear S65
     obtain ⟨f0, f1, f2, f3, f4, f5, f6⟩ := HK.out _ S66.out.old
     have hcv := Lib.run_convert_string_bytes (P := Try.prog) w7 9 22 5 fd Try.underlying9 Try.underlying22 Try.underlying5
     go_wp2_with fail
     clear f0 f1 f2 f3 f4 f5 f6
     have S67 := Lib.hid (show Sl.Sep w _ [_, conv w7.heap.size (L3.strB fd)] from push_conv S66.out fd)
     clear S66
     clear hcv
     obtain ⟨g1, hg⟩ : ∃ g', g' = w7.heap.size := ⟨_, rfl⟩
     rw [← hg] at S67 ⊢
     clear hg
     generalize Lib.bytesWorld w7 5 fd = w8 at S67 ⊢
     go_at_call 111
     refine (spec_bytes S67.out 0 X5 rfl (conv_rd S67.out 1 rfl) rfl ((L3.strB_length fd).symm) (by have h := HLL.out.2.2.2.1; omega) (by have := HPF.out; omega) HXX.out.2.2.2.2).mono ?_
     rintro e w9 ⟨b5a, b5c, rfl, ho, hb⟩
     have S68 := Lib.hid (show Sl.Sep w _ [_, conv g1 (L3.strB fd), Sl.own 5 .u8 b5a b5c X5] from Sl.Sep.pushOwn S67.out hb ho)
     clear S67
     clear hb ho
     have S69 := Lib.hid (show Sl.Sep w _ [_] from Bag.take S68.out [2] (by rfl) (by decide))
     clear S68
     go_wp2_with fail
     go_roundw
     case rel => exact ⟨k + 1, b5a, b5c, X5, by omega, by go_num, rfl, And.intro ⟨by rw [encOs_take HC.out, ← List.append_assoc, ← HI.out.1]; exact HNX.out.symm, fun j hj h => by
      by_cases e : j < k
      ·
       exact HI.out.2 j hj e
      ·
       obtain rfl : j = k := by omega
       rw [val_of HC.out]; exact HBO.out⟩ S69.out⟩
     case measure => simp [intOf]; omega
  ·
   skip
   obtain rfl : k = N := by omega
   have HE := Lib.hid (show (coS_Op os).take k = coS_Op os from List.take_of_length_le (by rw [HSL.out]; exact Nat.le_refl _))
   by_cases h6 : (6 : Int) < (k : Int)
   ·
    skip
    go_wp2_with fail
    go_ret
    rw [show R = [] from by rw [← HR0.out]; exact okL_many (by rw [HSL.out]; omega)]
    exact Gave.mk rfl (Own.empty _ 5 .u8 S9.out.old.size) (below_alloc S9.out.old _ (Nat.le_refl _))
   ·
    skip
    have HRX := Lib.hid (show R = X from by rw [← HR0.out, HI.out.1, HE.out, ← HX0.out, okL_yes (by rw [HSL.out]; omega) (fun j hj => HI.out.2 j hj (by rw [HSL.out] at hj; omega)), HSL.out])
    go_wp2_with fail
    go_ret
    rw [HRX.out]
    exact Gave.mk rfl (Sl.Sep.ownAt S9.out 0 rfl) S9.out.old
end Go.Proofs.Ytojcdmgcbgpdmaa.L9

namespace Go.Proofs.Ytojcdmgcbgpdmaa.L4
open Go.ChangeShapes Go.WideShapes Go.ChangeAt Go.RowKit Mem Sl Ex L2
def isLet (c : UInt8) : Bool := decide (97 ≤ c.toNat) && decide (c.toNat ≤ 122)
theorem isLetter_any (c : UInt8) (w : World) :
    Calls Try.prog 170 #[.int .u8 c.toNat] w fun e w' => e = .returned (.bool (isLet c)) ∧ w = w' := by
  by_cases h1 : (97 : Int) ≤ c.toNat <;> by_cases h2 : (c.toNat : Int) ≤ 122 <;>
    (go_enter Try.func170, Try.ntmps170
     go_wp2
     go_ret
     exact ⟨L1.ret_bool (by unfold isLet; have h1' := h1; have h2' := h2; simp only [Bool.false_eq, Bool.true_eq, Bool.and_eq_false_iff, Bool.and_eq_true, decide_eq_false_iff_not, decide_eq_true_eq]; omega), rfl⟩)
end Go.Proofs.Ytojcdmgcbgpdmaa.L4

namespace Go.Proofs.Ytojcdmgcbgpdmaa.L4
open Go.ChangeShapes Go.WideShapes Go.ChangeAt Go.RowKit Mem Sl Ex L2

def isDig (c : UInt8) : Bool := decide (48 ≤ c.toNat) && decide (c.toNat ≤ 57)
theorem chr_eq (c : UInt8) : chr c = (isLet c || isDig c) := rfl

theorem isDigit_any (c : UInt8) (w : World) :
    Calls Try.prog 211 #[.int .u8 c.toNat] w fun e w' => e = .returned (.bool (isDig c)) ∧ w = w' := by
  by_cases h1 : (48 : Int) ≤ c.toNat <;> by_cases h2 : (c.toNat : Int) ≤ 57 <;>
    (go_enter Try.func211, Try.ntmps211
     go_wp2
     go_ret
     exact ⟨L1.ret_bool (by unfold isDig; have h1' := h1; have h2' := h2; simp only [Bool.false_eq, Bool.true_eq, Bool.and_eq_false_iff, Bool.and_eq_true, decide_eq_false_iff_not, decide_eq_true_eq]; omega), rfl⟩)
theorem isKeyNumber_any (n : Int) (w : World) :
    Calls Try.prog 171 #[.int .i64 n] w fun e w' => e = .returned (.bool (L1.inB n (-1000000000000) 1000000000000)) ∧ w = w' := by
  have H1 := Lib.hid (fun w => L1.inRange_any n (-1000000000000) 1000000000000 w)
  obtain ⟨b, hb⟩ : ∃ b, L1.inB n (-1000000000000) 1000000000000 = b := ⟨_, rfl⟩
  rw [hb] at H1 ⊢
  go_enter Try.func171, Try.ntmps171
  go_wp2_with (go_at_call 98; with_reducible refine (H1.out _).mono ?_; rintro e w1 ⟨rfl, rfl⟩)
  go_ret
  exact ⟨rfl, rfl⟩
theorem isKeyText_any (s : ByteArray) (hs : s.size ≤ 281474976710656) (w : World) :
    Calls Try.prog 172 #[.string s] w fun e w' => e = .returned (.bool (isT s.data.toList)) ∧ w = w' := by
  have hsz : s.data.toList.length = s.size := by rw [Array.length_toList]; rfl
  have HZ := Lib.hid hsz
  clear hsz
  by_cases h12 : (s.size : Int) ≤ 12
  · go_enter Try.func172, Try.ntmps172
    go_wp2
    go_loop [9] (fun i => ∃ k : Nat, k ≤ s.size ∧ i = .int .i64 k ∧ Hid (∀ j (hj : j < s.data.toList.length), j < k → chr s.data.toList[j] = true)) (fun i => s.size - (intOf i).toNat)
    case atStart => exact ⟨0, Nat.zero_le _, rfl, fun j hj h => by omega⟩
    case round =>
      obtain ⟨k, hk, rfl, hrel⟩ := hrel
      by_cases hlt : k < s.size
      · have hb : s.data.toList[k]? = some s[k] := by
          rw [List.getElem?_eq_getElem (by rw [HZ.out]; exact hlt)]
          rfl
        have HB := Lib.hid hb
        clear hb
        have HC := Lib.hid (chr_eq s[k])
        have H1 := Lib.hid (fun w => isLetter_any s[k] w)
        have H2 := Lib.hid (fun w => isDigit_any s[k] w)
        obtain ⟨bl, hbl⟩ : ∃ b, isLet s[k] = b := ⟨_, rfl⟩
        obtain ⟨bd, hbd⟩ : ∃ b, isDig s[k] = b := ⟨_, rfl⟩
        rw [hbl] at H1 HC
        rw [hbd] at H2 HC
        clear hbl hbd
        cases bl
        all_goals
          cases bd
          all_goals
            go_wp2_with (first
              | (go_at_call 170; refine (H1.out _).mono ?_; rintro e w1 ⟨rfl, rfl⟩)
              | (go_at_call 211; refine (H2.out _).mono ?_; rintro e w1 ⟨rfl, rfl⟩))
            first
            | (go_round
               case rel => exact ⟨k + 1, by omega, by go_num, fun j hj h => by
                  by_cases e : j < k
                  · exact hrel.out j hj e
                  · obtain rfl : j = k := by omega
                    have := HB.out
                    rw [List.getElem?_eq_getElem hj] at this
                    rw [Option.some.inj this]
                    exact HC.out⟩
               case measure => simp [intOf]; omega)
            | (go_ret
               exact ⟨by rw [isT_no k _ HB.out HC.out]; rfl, rfl⟩)
      · go_wp2
        go_ret
        obtain rfl : k = s.size := by omega
        have e1 := isT_all (fun j hj => hrel.out j hj (by rw [HZ.out] at hj; exact hj))
        rw [HZ.out] at e1
        refine ⟨?_, rfl⟩
        rw [e1, decide_eq_true (show s.size ≤ 12 by omega)]
        rfl
  · go_enter Try.func172, Try.ntmps172
    go_wp2
    go_ret
    refine ⟨?_, rfl⟩
    have : isT s.data.toList = false := by
      unfold isT
      rw [HZ.out, decide_eq_false (show ¬ s.size ≤ 12 by omega), Bool.and_false]
    rw [this]
    rfl
set_option maxHeartbeats 2000000 in
theorem implIsKey_any (k : K) (hs : k.text.size ≤ 281474976710656) (w : World) :
    Calls Try.prog 99 #[k.v] w fun e w' => e = .returned (.bool (isK k)) ∧ Below w.heap.size w w' := by
  obtain ⟨kd, n, s⟩ := k
  unfold K.v
  obtain ⟨b2, hb2⟩ : ∃ b, L1.inB n (-1000000000000) 1000000000000 = b := ⟨_, rfl⟩
  obtain ⟨b4, hb4⟩ : ∃ b, isT s.data.toList = b := ⟨_, rfl⟩
  have H2 := Lib.hid (fun w => isKeyNumber_any n w)
  have H4 := Lib.hid (fun w => isKeyText_any s hs w)
  rw [hb2] at H2
  rw [hb4] at H4
  obtain ⟨c0, hc0⟩ : ∃ b, (n == 0) = b := ⟨_, rfl⟩
  obtain ⟨ct, hct⟩ : ∃ b, (s.toList == []) = b := ⟨_, rfl⟩
  have HE := show isK ⟨kd, n, s⟩ = (L1.inB kd 1 3 && b2 && (kd != 2 || c0) && b4 && (kd != 1 || ct)) by unfold isK; rw [hb2, show K.t ⟨kd, n, s⟩ = s.data.toList from rfl, hb4, ← hct, ByteArray.toList_eq, ← hc0]
  have hx1 : ct = true → b4 = true := fun h => by
    rw [h, ByteArray.toList_eq, beq_iff_eq] at hct
    rw [← hb4, hct]
    rfl
  have hx2 : c0 = true → b2 = true := fun h => by
    rw [h, beq_iff_eq] at hc0
    rw [← hb2, hc0]
    rfl
  have HB := Lib.hid (fun o => below_alloc (Below.refl w.heap.size w) o (Nat.le_refl _))
  clear hb2 hb4
  rcases (show kd = 1 ∨ kd = 2 ∨ kd = 3 ∨ (kd ≠ 1 ∧ kd ≠ 2 ∧ kd ≠ 3) by omega) with rfl | rfl | rfl | ⟨hk1, hk2, hk3⟩
  · rw [show isK ⟨1, n, s⟩ = (b2 && ct) by rw [HE]; revert hx1; cases b2 <;> cases b4 <;> cases ct <;> simp [L1.inB]]
    clear HE hc0 hx1 hx2
    rcases (show b2 = false ∨ b2 = true by cases b2 <;> simp) with rfl | rfl
    all_goals
      go_enter Try.func99, Try.ntmps99
      go_wp2_with (go_at_call 171; with_reducible refine (H2.out _).mono ?_; rintro e w1 ⟨rfl, rfl⟩)
      go_ret
      exact ⟨rfl, HB.out _⟩
  · rw [show isK ⟨2, n, s⟩ = (c0 && b4) by rw [HE]; revert hx2; cases b2 <;> cases b4 <;> cases c0 <;> simp [L1.inB]]
    clear HE hct hx1 hx2
    rcases (show c0 = false ∨ c0 = true by cases c0 <;> simp) with rfl | rfl
    all_goals
      go_enter Try.func99, Try.ntmps99
      go_wp2_with (go_at_call 172; refine (H4.out _).mono ?_; rintro e w1 ⟨rfl, rfl⟩)
      go_ret
      exact ⟨rfl, HB.out _⟩
  · rw [show isK ⟨3, n, s⟩ = (b2 && b4) by rw [HE]; cases b2 <;> cases b4 <;> cases c0 <;> cases ct <;> simp [L1.inB]]
    clear HE hct hc0 hx1 hx2
    rcases (show b2 = false ∨ b2 = true by cases b2 <;> simp) with rfl | rfl
    all_goals
      go_enter Try.func99, Try.ntmps99
      go_wp2_with (first
        | (go_at_call 171; with_reducible refine (H2.out _).mono ?_; rintro e w1 ⟨rfl, rfl⟩)
        | (go_at_call 172; refine (H4.out _).mono ?_; rintro e w1 ⟨rfl, rfl⟩))
      go_ret
      exact ⟨rfl, HB.out _⟩
  · have : L1.inB kd 1 3 = false := L1.inB_false.2 (by omega)
    rw [HE, this]
    clear HE hct hc0 hx1 hx2 this
    replace hk1 : ¬ kd = 1 := hk1
    replace hk2 : ¬ kd = 2 := hk2
    replace hk3 : ¬ kd = 3 := hk3
    go_enter Try.func99, Try.ntmps99
    go_wp2_with fail
    go_ret
    exact ⟨by simp, HB.out _⟩
end Go.Proofs.Ytojcdmgcbgpdmaa.L4

namespace Go.Proofs.Ytojcdmgcbgpdmaa.L5
open Go.Op (bytesLess)
open Go.ChangeShapes Go.WideShapes Go.ChangeAt Go.RowKit Mem Sl Ex L2 Sv

theorem low_isLet (c : UInt8) : L4.isLet c = low c := rfl
theorem isName_any (s : ByteArray) (hs : s.size ≤ 281474976710656) (w : World) :
  Calls Try.prog 97 #[.string s] w fun e w' => e = .returned (.bool (isN s.data.toList)) ∧ w = w' := by
 have hsz : s.data.toList.length = s.size := by rw [Array.length_toList]; rfl
 have HZ := Lib.hid hsz
 clear hsz
 have HI := Lib.hid (fun w => L1.inRange_any (s.size : Int) 1 8 w)
 have HS := Lib.hid (show L1.inB (s.size : Int) 1 8 = false → isN s.data.toList = false from fun h => by
  unfold isN
  rw [Bool.and_eq_false_iff]
  right
  rw [HZ.out, ← h]
  unfold L1.inB
  congr 1 <;> (rw [decide_eq_decide]; omega))
 obtain ⟨bi, hbi⟩ : ∃ b, L1.inB (s.size : Int) 1 8 = b := ⟨_, rfl⟩
 rw [hbi] at HI HS
 have HB0 := Lib.hid hbi
 clear hbi
 cases bi with
 | false =>
  replace HS := Lib.hid (HS.out rfl)
  go_enter Try.func97, Try.ntmps97
  go_wp2_with (go_at_call 98; refine (HI.out _).mono ?_; rintro e w1 ⟨rfl, rfl⟩)
  go_ret
  exact ⟨by rw [HS.out]; rfl, rfl⟩
 | true =>
  go_enter Try.func97, Try.ntmps97
  go_wp2_with (go_at_call 98; refine (HI.out _).mono ?_; rintro e w1 ⟨rfl, rfl⟩)
  go_loop [10] (fun i => ∃ k : Nat, k ≤ s.size ∧ i = .int .i64 k ∧ Hid (∀ j (hj : j < s.data.toList.length), j < k → low s.data.toList[j] = true)) (fun i => s.size - (intOf i).toNat)
  case atStart => exact ⟨0, Nat.zero_le _, rfl, fun j hj h => by omega⟩
  case round =>
   obtain ⟨k, hk, rfl, hrel⟩ := hrel
   by_cases hlt : k < s.size
   ·
    have hb : s.data.toList[k]? = some s[k] := by
     rw [List.getElem?_eq_getElem (by rw [HZ.out]; exact hlt)]
     rfl
    have HB := Lib.hid hb
    clear hb
    have H1 := Lib.hid (fun w => L4.isLetter_any s[k] w)
    obtain ⟨bl, hbl⟩ : ∃ b, L4.isLet s[k] = b := ⟨_, rfl⟩
    rw [hbl] at H1
    rw [low_isLet] at hbl
    have HL := Lib.hid hbl
    clear hbl
    cases bl with
    | true =>
     go_wp2_with (go_at_call 170; refine (H1.out _).mono ?_; rintro e w1 ⟨rfl, rfl⟩)
     go_round
     case rel => exact ⟨k + 1, by omega, by go_num, fun j hj h => by
       by_cases e : j < k
       ·
        exact hrel.out j hj e
       ·
        obtain rfl : j = k := by omega
        have := HB.out
        rw [List.getElem?_eq_getElem hj] at this
        rw [Option.some.inj this]
        exact HL.out⟩
     case measure => simp [intOf]; omega
    | false =>
     go_wp2_with (go_at_call 170; refine (H1.out _).mono ?_; rintro e w1 ⟨rfl, rfl⟩)
     go_ret
     exact ⟨by rw [isN_no k _ HB.out HL.out]; rfl, rfl⟩
   ·
    go_wp2_with fail
    go_ret
    obtain rfl : k = s.size := by omega
    have e1 := isN_all (fun j hj => hrel.out j hj (by rw [HZ.out] at hj; exact hj))
    rw [HZ.out, HB0.out] at e1
    exact ⟨by rw [e1]; rfl, rfl⟩

end Go.Proofs.Ytojcdmgcbgpdmaa.L5

set_option linter.unusedSimpArgs false
namespace Go.Proofs.Ytojcdmgcbgpdmaa.L5
open Go.Op (bytesLess)
open L4 (boxR push_box box_at)
open Go.ChangeShapes Go.WideShapes Go.ChangeAt Go.RowKit Mem Sl Ex L2 Sv

theorem isR_long {l : List F} (h : ¬ l.length ≤ 6) : isR l = false := by
 unfold isR
 rw [Bool.and_eq_false_iff]
 exact .inr (decide_eq_false h)
theorem Row.two {w : World} {g : Nat} {t : TypeId} {x y : Value} (h : Row w g t #[x, y]) : w.cell? ⟨g, 0, none⟩ = some x ∧ w.cell? ⟨g, 1, none⟩ = some y := ⟨by rw [h.cell]; rfl, by rw [h.cell]; rfl⟩
set_option maxHeartbeats 4000000 in
theorem isRecord_any (a : Option Addr) (c : Nat) (l : List F) (hl : l.length ≤ 1099511627776) (hsm : Small l) (w : World) (hr : Reads w w.heap.size a (cellsF l)) :
  Calls Try.prog 100 #[.agg #[.slice a l.length c]] w fun e w' => e = .returned (.bool (isR l)) ∧ Below w.heap.size w w' := by
 have HR := Lib.hid (fun w' (h : Below w.heap.size w w') => hr.below h)
 obtain ⟨n, hn⟩ : ∃ n, n = l.length := ⟨_, rfl⟩
 rw [← hn]
 rw [← hn] at hl
 have HN := Lib.hid hn
 have HS := Lib.hid hsm
 clear hn hr hsm
 have hl' : (n : Int) ≤ 1099511627776 := by omega
 have S1 := Lib.hid (push_box (Sep.start w) 31 #[.slice a n c] w.heap.size rfl)
 obtain ⟨W1, hW1⟩ : ∃ u, u = w.alloc (.cells #[.slice a n c] 31) := ⟨_, rfl⟩
 rw [← hW1] at S1
 go_enter Try.func100, Try.ntmps100
 go_upto_region 1 with fail
 rw [← hW1]
 clear hW1
 obtain ⟨r0, r1⟩ := Row.one (box_at S1.out 0 rfl)
 by_cases h6 : (n : Int) ≤ 6
 rotate_left
 ·
  have HX := Lib.hid (isR_long (l := l) (by have := HN.out; omega))
  have h6' : (6 : Int) < (n : Int) := by omega
  go_wp2_with fail
  go_ret
  exact ⟨by rw [HX.out]; rfl, S1.out.old⟩
 go_wp2_with fail
 go_loopw [12] (fun i wr => ∃ k : Nat, k ≤ n ∧ i = .int .i64 k ∧ Hid (okTo l k ∧ Sep w wr [boxR w.heap.size 31 #[.slice a n c]])) (fun i _ => n - (intOf i).toNat)
 case atStart => exact ⟨0, Nat.zero_le _, rfl, fun j hj h => by omega, S1.out⟩
 case round =>
  obtain ⟨k, hk, rfl, hrel⟩ := hrel
  clear r0 r1
  by_cases hlt : (k : Int) < (n : Int)
  ·
   have hkl : k < l.length := by have := HN.out; omega
   have HRr := Lib.hid (HR.out _ hrel.out.2.old)
   obtain ⟨ad, rfl, had, h1, h2⟩ := readsF HRr.out k hkl
   have HNm := Lib.hid (fun w => isName_any l[k].name (HS.out _ (List.getElem_mem hkl)) w)
   have HI := Lib.hid (fun w => L1.inRange_any l[k].n 0 1000000000 w)
   obtain ⟨bn, hbn⟩ : ∃ b, isN l[k].name.data.toList = b := ⟨_, rfl⟩
   obtain ⟨bi, hbi⟩ : ∃ b, L1.inB l[k].n 0 1000000000 = b := ⟨_, rfl⟩
   have HO := Lib.hid (show okF l[k] = (bn && bi) by unfold okF; rw [hbi]; unfold F.t; rw [hbn])
   rw [hbn] at HNm
   rw [hbi] at HI
   obtain ⟨t, ht⟩ : ∃ t, t = l[k].name := ⟨_, rfl⟩
   obtain ⟨m, hm⟩ : ∃ m, m = l[k].n := ⟨_, rfl⟩
   rw [← ht] at h1 HNm
   rw [← hm] at h2 HI
   clear hbn hbi hm
   have HT := Lib.hid ht
   clear ht
   have S2 := Lib.hid (push_box hrel.out.2 128 #[.string t, .int .i64 m] wr.heap.size rfl)
   obtain ⟨W2, hW2⟩ : ∃ u, u = wr.alloc (.cells #[.string t, .int .i64 m] 128) := ⟨_, rfl⟩
   rw [← hW2] at S2
   have S3 := Lib.hid (S2.out.drews 1)
   have S4 := Lib.hid (sep_sub S3.out (ts := [boxR w.heap.size 31 #[.slice (some ad) n c]]) id (fun i r h => by match i, h with | 0, h => exact h) (fun i j _ _ h => h))
   rcases Nat.eq_zero_or_pos k with rfl | hk0
   ·
    rw [Nat.zero_mul, show ad.add 0 = ad by simp [Addr.add]] at h1 h2
    go_upto_region 6 with fail
    rw [← hW2]
    clear hW2
    obtain ⟨r0, r1⟩ := Row.one (box_at S2.out 0 rfl)
    obtain ⟨q0, q1⟩ := Row.two (box_at S2.out 1 rfl)
    by_cases hb : (bn && bi) = true
    ·
     simp only [Bool.and_eq_true] at hb
     obtain ⟨rfl, rfl⟩ := hb
     have HOt := Lib.hid (show okF l[0] = true from HO.out)
     clear HO
     go_upto_region 8 with (first | (go_at_call 97; refine (HNm.out _).mono ?_; rintro e w1 ⟨rfl, rfl⟩) | (go_at_call 98; refine (HI.out _).mono ?_; rintro e w1 ⟨rfl, rfl⟩))
     refine wp_region_held_drew (S := (fun w' => w'.cell? ⟨w.heap.size, 0, none⟩ = some (.slice (some ad) n c) ∧ w'.cell? ⟨wr.heap.size, 0, none⟩ = some (.string t))) (by kernel_rfl) ⟨r0, q0⟩ (fun hS => ?_)
     refine tk 0 rfl ?_
     try simp only [zp0, zp1, zp2, zp3, zp4]
     refine tk 1 rfl ?_
     try simp only [zp0, zp1, zp2, zp3, zp4]
     refine tk 2 rfl ?_
     try simp only [zp0, zp1, zp2, zp3, zp4]
     refine sk 3 rfl ?_
     try simp only [zp0, zp1, zp2, zp3, zp4]
     refine sk 4 rfl ?_
     try simp only [zp0, zp1, zp2, zp3, zp4]
     refine sk 5 rfl ?_
     try simp only [zp0, zp1, zp2, zp3, zp4]
     refine sk 6 rfl ?_
     try simp only [zp0, zp1, zp2, zp3, zp4]
     refine sk 7 rfl ?_
     try simp only [zp0, zp1, zp2, zp3, zp4]
     refine sk 8 rfl ?_
     try simp only [zp0, zp1, zp2, zp3, zp4]
     refine sk 9 rfl ?_
     try simp only [zp0, zp1, zp2, zp3, zp4]
     refine sk 10 rfl ?_
     try simp only [zp0, zp1, zp2, zp3, zp4]
     refine sk 11 rfl ?_
     try simp only [zp0, zp1, zp2, zp3, zp4]
     refine sk 12 rfl ?_
     try simp only [zp0, zp1, zp2, zp3, zp4]
     refine tk 13 rfl ?_
     try simp only [zp0, zp1, zp2, zp3, zp4]
     refine wpAnyH_done (by kernel_rfl) ?_ _
     go_wp2_with fail
     go_roundw
     case rel => exact ⟨1, by omega, by go_num, fun j hj h => by
       obtain rfl : j = 0 := by omega
       exact ⟨HOt.out, fun h0 => by omega⟩, S4.out⟩
     case measure => simp [intOf]; omega
    ·
     have HX := Lib.hid (isR_no 0 hkl (.inl (by rw [HO.out]; simpa using hb)))
     rcases (show bn = false ∨ (bn = true ∧ bi = false) by cases bn <;> simp_all) with rfl | ⟨rfl, rfl⟩
     all_goals
      clear hb HO
      go_wp2_with (first | (go_at_call 97; refine (HNm.out _).mono ?_; rintro e w1 ⟨rfl, rfl⟩) | (go_at_call 98; refine (HI.out _).mono ?_; rintro e w1 ⟨rfl, rfl⟩))
      go_ret
      exact ⟨by rw [HX.out]; rfl, S2.out.old⟩
   ·
    obtain ⟨j, rfl⟩ : ∃ j, k = j + 1 := ⟨k - 1, by omega⟩
    go_upto_region 6 with fail
    rw [← hW2]
    clear hW2
    obtain ⟨r0, r1⟩ := Row.one (box_at S2.out 0 rfl)
    obtain ⟨q0, q1⟩ := Row.two (box_at S2.out 1 rfl)
    by_cases hb : (bn && bi) = true
    ·
     simp only [Bool.and_eq_true] at hb
     obtain ⟨rfl, rfl⟩ := hb
     have HOt := Lib.hid (show okF l[j + 1] = true from HO.out)
     clear HO
     obtain ⟨ad', e', -, h3, -⟩ := readsF (HR.out _ S2.out.old) j (by omega)
     injection e' with e'
     subst e'
     obtain ⟨p, hp⟩ : ∃ p, p = (l[j]'(by omega)).name := ⟨_, rfl⟩
     rw [← hp] at h3
     have hwj : IntKind.i64.wrap (j : Int) = (j : Int) := IntWalk.i64_in _ ⟨by omega, by omega⟩
     have k1 : (0 : Int) ≤ (j : Int) + 1 := by omega
     have k2 : (j : Int) + 1 < (n : Int) := by omega
     have k3 : (0 : Int) ≤ (j : Int) := by omega
     have k4 : (j : Int) < (n : Int) := by omega
     have hge := string_geq
     obtain ⟨bo, hbo⟩ : ∃ b, bytesLess p.toList t.toList = b := ⟨_, rfl⟩
     have HB := Lib.hid (show bytesLess (l[j]'(by omega)).t l[j + 1].t = bo by unfold F.t; rw [← hp, ← HT.out, ← hbo, ByteArray.toList_eq, ByteArray.toList_eq])
     clear hp
     cases bo with
     | false =>
      have HX := Lib.hid (isR_no (j + 1) hkl (.inr ⟨Nat.succ_pos j, HB.out⟩))
      go_upto_region 8 with (first | (go_at_call 97; refine (HNm.out _).mono ?_; rintro e w1 ⟨rfl, rfl⟩) | (go_at_call 98; refine (HI.out _).mono ?_; rintro e w1 ⟨rfl, rfl⟩))
      refine wp_region_held_drew (S := (fun w' => w'.cell? ⟨w.heap.size, 0, none⟩ = some (.slice (some ad) n c) ∧ w'.cell? ⟨wr.heap.size, 0, none⟩ = some (.string t) ∧ w'.cell? (ad.add (j * 2)) = some (.string p))) (by kernel_rfl) ⟨r0, q0, h3⟩ (fun hS => ?_)
      refine tk 0 rfl ?_
      try simp only [zp0, zp1, zp2, zp3, zp4]
      refine tk 1 rfl ?_
      try simp only [zp0, zp1, zp2, zp3, zp4]
      refine tk 2 rfl ?_
      try simp only [zp0, zp1, zp2, zp3, zp4]
      refine tk 3 rfl ?_
      try simp only [zp0, zp1, zp2, zp3, zp4]
      refine tk 4 rfl ?_
      try simp only [zp0, zp1, zp2, zp3, zp4]
      refine tk 5 rfl ?_
      try simp only [zp0, zp1, zp2, zp3, zp4]
      refine tk 6 rfl ?_
      try simp only [zp0, zp1, zp2, zp3, zp4]
      refine tk 7 rfl ?_
      try simp only [zp0, zp1, zp2, zp3, zp4]
      refine tk 8 rfl ?_
      try simp only [zp0, zp1, zp2, zp3, zp4]
      refine tk 9 rfl ?_
      try simp only [zp0, zp1, zp2, zp3, zp4]
      refine tk 10 rfl ?_
      try simp only [zp0, zp1, zp2, zp3, zp4]
      refine tk 11 rfl ?_
      try simp only [zp0, zp1, zp2, zp3, zp4]
      refine tk 12 rfl ?_
      try simp only [zp0, zp1, zp2, zp3, zp4]
      refine tk 13 rfl ?_
      try simp only [zp0, zp1, zp2, zp3, zp4]
      refine wpAnyH_done (by kernel_rfl) ?_ _
      go_wp2_with fail
      go_ret
      exact ⟨by rw [HX.out]; rfl, S4.out.old⟩
     | true =>
      go_upto_region 8 with (first | (go_at_call 97; refine (HNm.out _).mono ?_; rintro e w1 ⟨rfl, rfl⟩) | (go_at_call 98; refine (HI.out _).mono ?_; rintro e w1 ⟨rfl, rfl⟩))
      refine wp_region_held_drew (S := (fun w' => w'.cell? ⟨w.heap.size, 0, none⟩ = some (.slice (some ad) n c) ∧ w'.cell? ⟨wr.heap.size, 0, none⟩ = some (.string t) ∧ w'.cell? (ad.add (j * 2)) = some (.string p))) (by kernel_rfl) ⟨r0, q0, h3⟩ (fun hS => ?_)
      refine tk 0 rfl ?_
      try simp only [zp0, zp1, zp2, zp3, zp4]
      refine tk 1 rfl ?_
      try simp only [zp0, zp1, zp2, zp3, zp4]
      refine tk 2 rfl ?_
      try simp only [zp0, zp1, zp2, zp3, zp4]
      refine tk 3 rfl ?_
      try simp only [zp0, zp1, zp2, zp3, zp4]
      refine tk 4 rfl ?_
      try simp only [zp0, zp1, zp2, zp3, zp4]
      refine tk 5 rfl ?_
      try simp only [zp0, zp1, zp2, zp3, zp4]
      refine tk 6 rfl ?_
      try simp only [zp0, zp1, zp2, zp3, zp4]
      refine tk 7 rfl ?_
      try simp only [zp0, zp1, zp2, zp3, zp4]
      refine tk 8 rfl ?_
      try simp only [zp0, zp1, zp2, zp3, zp4]
      refine tk 9 rfl ?_
      try simp only [zp0, zp1, zp2, zp3, zp4]
      refine tk 10 rfl ?_
      try simp only [zp0, zp1, zp2, zp3, zp4]
      refine tk 11 rfl ?_
      try simp only [zp0, zp1, zp2, zp3, zp4]
      refine tk 12 rfl ?_
      try simp only [zp0, zp1, zp2, zp3, zp4]
      refine tk 13 rfl ?_
      try simp only [zp0, zp1, zp2, zp3, zp4]
      refine wpAnyH_done (by kernel_rfl) ?_ _
      go_wp2_with fail
      go_roundw
      case rel => exact ⟨j + 1 + 1, by omega, by go_num, fun q hq h => by
       by_cases e : q < j + 1
       ·
        exact hrel.out.1 q hq e
       ·
        obtain rfl : q = j + 1 := by omega
        exact ⟨HOt.out, fun _ => HB.out⟩, S4.out⟩
      case measure => simp [intOf]; omega
    ·
     have HX := Lib.hid (isR_no (j + 1) hkl (.inl (by rw [HO.out]; simpa using hb)))
     rcases (show bn = false ∨ (bn = true ∧ bi = false) by cases bn <;> simp_all) with rfl | ⟨rfl, rfl⟩
     all_goals
      clear hb HO
      go_wp2_with (first | (go_at_call 97; refine (HNm.out _).mono ?_; rintro e w1 ⟨rfl, rfl⟩) | (go_at_call 98; refine (HI.out _).mono ?_; rintro e w1 ⟨rfl, rfl⟩))
      go_ret
      exact ⟨by rw [HX.out]; rfl, S2.out.old⟩
  ·
   go_wp2_with fail
   go_ret
   exact ⟨by rw [isR_iff.2 ⟨fun j hj _ => hrel.out.1 j hj (by have := HN.out; omega), by have := HN.out; omega⟩]; rfl, hrel.out.2.old⟩
end Go.Proofs.Ytojcdmgcbgpdmaa.L5

namespace Go.Proofs.Ytojcdmgcbgpdmaa.L9
open V L6
open L4 (K isK cmpK)
open L5 (F isR isN string_geq)
open Go.Op (bytesLess)
open Go.ChangeShapes Go.WideShapes Go.ChangeAt Go.RowKit Mem Sl Ex L2 Sv Bag

def ifO (kd : Int) (v : Value) : Value := if kd = 1 then .iface 245 v else if kd = 2 then .iface 246 v else if kd = 3 then .iface 247 v else if kd = 4 then .iface 221 v else if kd = 5 then .iface 239 v else if kd = 6 then .iface 240 v else .nilIface
theorem ifO1 (v : Value) : ifO 1 v = .iface 245 v := rfl
theorem ifO2 (v : Value) : ifO 2 v = .iface 246 v := rfl
theorem ifO3 (v : Value) : ifO 3 v = .iface 247 v := rfl
theorem ifO4 (v : Value) : ifO 4 v = .iface 221 v := rfl
theorem ifO5 (v : Value) : ifO 5 v = .iface 239 v := rfl
theorem ifO6 (v : Value) : ifO 6 v = .iface 240 v := rfl
theorem ifO_no {kd : Int} (v : Value) (h : ¬ (kd = 1 ∨ kd = 2 ∨ kd = 3 ∨ kd = 4 ∨ kd = 5 ∨ kd = 6)) : ifO kd v = .nilIface := by
 unfold ifO
 rw [if_neg (by omega), if_neg (by omega), if_neg (by omega), if_neg (by omega), if_neg (by omega), if_neg (by omega)]
theorem nil_no (t : TypeId) (v : Value) (w : World) : (binOp .eql 219 (.iface t v) .nilIface).run Try.prog w = .ok (.bool false) w := by rfl
theorem nil_yes (w : World) : (binOp .eql 219 .nilIface .nilIface).run Try.prog w = .ok (.bool true) w := by rfl
theorem as_clearOp (v : Value) (w : World) : (Instr.typeAssert (.iface 239 v) 219 239 true).run Try.prog w = .ok (.tuple #[v, .bool true]) w := by rfl
theorem not_clearOp_nil (w : World) : (Instr.typeAssert .nilIface 219 239 true).run Try.prog w = .ok (.tuple #[.agg #[.int .i64 0, .string ⟨#[]⟩, .int .i64 0, .int .i64 0, .string ⟨#[]⟩, .slice none 0 0, .string ⟨#[]⟩], .bool false]) w := by kernel_rfl
theorem not_clearOp_putOp (v : Value) (w : World) : (Instr.typeAssert (.iface 245 v) 219 239 true).run Try.prog w = .ok (.tuple #[.agg #[.int .i64 0, .string ⟨#[]⟩, .int .i64 0, .int .i64 0, .string ⟨#[]⟩, .slice none 0 0, .string ⟨#[]⟩], .bool false]) w := by kernel_rfl
theorem not_clearOp_addOp (v : Value) (w : World) : (Instr.typeAssert (.iface 246 v) 219 239 true).run Try.prog w = .ok (.tuple #[.agg #[.int .i64 0, .string ⟨#[]⟩, .int .i64 0, .int .i64 0, .string ⟨#[]⟩, .slice none 0 0, .string ⟨#[]⟩], .bool false]) w := by kernel_rfl
theorem not_clearOp_deleteOp (v : Value) (w : World) : (Instr.typeAssert (.iface 247 v) 219 239 true).run Try.prog w = .ok (.tuple #[.agg #[.int .i64 0, .string ⟨#[]⟩, .int .i64 0, .int .i64 0, .string ⟨#[]⟩, .slice none 0 0, .string ⟨#[]⟩], .bool false]) w := by kernel_rfl
theorem not_clearOp_getOp (v : Value) (w : World) : (Instr.typeAssert (.iface 221 v) 219 239 true).run Try.prog w = .ok (.tuple #[.agg #[.int .i64 0, .string ⟨#[]⟩, .int .i64 0, .int .i64 0, .string ⟨#[]⟩, .slice none 0 0, .string ⟨#[]⟩], .bool false]) w := by kernel_rfl
theorem not_clearOp_incOp (v : Value) (w : World) : (Instr.typeAssert (.iface 240 v) 219 239 true).run Try.prog w = .ok (.tuple #[.agg #[.int .i64 0, .string ⟨#[]⟩, .int .i64 0, .int .i64 0, .string ⟨#[]⟩, .slice none 0 0, .string ⟨#[]⟩], .bool false]) w := by kernel_rfl
theorem as_incOp (v : Value) (w : World) : (Instr.typeAssert (.iface 240 v) 219 240 true).run Try.prog w = .ok (.tuple #[v, .bool true]) w := by rfl
theorem not_incOp_nil (w : World) : (Instr.typeAssert .nilIface 219 240 true).run Try.prog w = .ok (.tuple #[.agg #[.int .i64 0, .string ⟨#[]⟩, .int .i64 0, .int .i64 0, .string ⟨#[]⟩, .slice none 0 0, .string ⟨#[]⟩], .bool false]) w := by kernel_rfl
theorem not_incOp_putOp (v : Value) (w : World) : (Instr.typeAssert (.iface 245 v) 219 240 true).run Try.prog w = .ok (.tuple #[.agg #[.int .i64 0, .string ⟨#[]⟩, .int .i64 0, .int .i64 0, .string ⟨#[]⟩, .slice none 0 0, .string ⟨#[]⟩], .bool false]) w := by kernel_rfl
theorem not_incOp_addOp (v : Value) (w : World) : (Instr.typeAssert (.iface 246 v) 219 240 true).run Try.prog w = .ok (.tuple #[.agg #[.int .i64 0, .string ⟨#[]⟩, .int .i64 0, .int .i64 0, .string ⟨#[]⟩, .slice none 0 0, .string ⟨#[]⟩], .bool false]) w := by kernel_rfl
theorem not_incOp_deleteOp (v : Value) (w : World) : (Instr.typeAssert (.iface 247 v) 219 240 true).run Try.prog w = .ok (.tuple #[.agg #[.int .i64 0, .string ⟨#[]⟩, .int .i64 0, .int .i64 0, .string ⟨#[]⟩, .slice none 0 0, .string ⟨#[]⟩], .bool false]) w := by kernel_rfl
theorem not_incOp_getOp (v : Value) (w : World) : (Instr.typeAssert (.iface 221 v) 219 240 true).run Try.prog w = .ok (.tuple #[.agg #[.int .i64 0, .string ⟨#[]⟩, .int .i64 0, .int .i64 0, .string ⟨#[]⟩, .slice none 0 0, .string ⟨#[]⟩], .bool false]) w := by kernel_rfl
theorem not_incOp_clearOp (v : Value) (w : World) : (Instr.typeAssert (.iface 239 v) 219 240 true).run Try.prog w = .ok (.tuple #[.agg #[.int .i64 0, .string ⟨#[]⟩, .int .i64 0, .int .i64 0, .string ⟨#[]⟩, .slice none 0 0, .string ⟨#[]⟩], .bool false]) w := by kernel_rfl
set_option maxHeartbeats 4000000 in
theorem operationOf_any (o : Y_Op) (w : World) :
  Calls Try.prog 202 #[vv_Op o] w fun e w' => e = .returned (ifO o.f_Kind (vv_Op o)) ∧ Below w.heap.size w w' := by
 obtain ⟨kd, st, ⟨kk, kn, kt⟩, ⟨ra, rc, rl⟩, fd⟩ := o
 unfold vv_Op
 dsimp only
 rcases (show kd = 1 ∨ kd = 2 ∨ kd = 3 ∨ kd = 4 ∨ kd = 5 ∨ kd = 6 ∨ ¬ (kd = 1 ∨ kd = 2 ∨ kd = 3 ∨ kd = 4 ∨ kd = 5 ∨ kd = 6) by omega) with rfl | rfl | rfl | rfl | rfl | rfl | hno
 ·
  skip
  rw [ifO1]
  have S1 := Lib.hid (show Sl.Sep w _ [_] from L4.push_box (Sl.Sep.start w) 148 #[.int .i64 1, .string st, .int .i64 kk, .int .i64 kn, .string kt, .slice ra rl.length rc, .string fd] (w.heap.size) (by simp))
  obtain ⟨wa, hwa⟩ : ∃ w_, w_ = (w.alloc (.cells #[.int .i64 1, .string st, .int .i64 kk, .int .i64 kn, .string kt, .slice ra rl.length rc, .string fd] 148)) := ⟨_, rfl⟩
  rw [← hwa] at S1
  go_enter Try.func202, Try.ntmps202
  go_upto_region 1 with fail
  rw [← hwa]
  clear hwa
  obtain ⟨f0, f1, f2, f3, f4, f5, f6⟩ := Bag.cs7 S1.out 0 rfl
  go_wp2_with fail
  go_ret
  exact ⟨rfl, S1.out.old⟩
 ·
  skip
  rw [ifO2]
  have S1 := Lib.hid (show Sl.Sep w _ [_] from L4.push_box (Sl.Sep.start w) 148 #[.int .i64 2, .string st, .int .i64 kk, .int .i64 kn, .string kt, .slice ra rl.length rc, .string fd] (w.heap.size) (by simp))
  obtain ⟨wa, hwa⟩ : ∃ w_, w_ = (w.alloc (.cells #[.int .i64 2, .string st, .int .i64 kk, .int .i64 kn, .string kt, .slice ra rl.length rc, .string fd] 148)) := ⟨_, rfl⟩
  rw [← hwa] at S1
  go_enter Try.func202, Try.ntmps202
  go_upto_region 1 with fail
  rw [← hwa]
  clear hwa
  obtain ⟨f0, f1, f2, f3, f4, f5, f6⟩ := Bag.cs7 S1.out 0 rfl
  go_wp2_with fail
  go_ret
  exact ⟨rfl, S1.out.old⟩
 ·
  skip
  rw [ifO3]
  have S1 := Lib.hid (show Sl.Sep w _ [_] from L4.push_box (Sl.Sep.start w) 148 #[.int .i64 3, .string st, .int .i64 kk, .int .i64 kn, .string kt, .slice ra rl.length rc, .string fd] (w.heap.size) (by simp))
  obtain ⟨wa, hwa⟩ : ∃ w_, w_ = (w.alloc (.cells #[.int .i64 3, .string st, .int .i64 kk, .int .i64 kn, .string kt, .slice ra rl.length rc, .string fd] 148)) := ⟨_, rfl⟩
  rw [← hwa] at S1
  go_enter Try.func202, Try.ntmps202
  go_upto_region 1 with fail
  rw [← hwa]
  clear hwa
  obtain ⟨f0, f1, f2, f3, f4, f5, f6⟩ := Bag.cs7 S1.out 0 rfl
  go_wp2_with fail
  go_ret
  exact ⟨rfl, S1.out.old⟩
 ·
  skip
  rw [ifO4]
  have S1 := Lib.hid (show Sl.Sep w _ [_] from L4.push_box (Sl.Sep.start w) 148 #[.int .i64 4, .string st, .int .i64 kk, .int .i64 kn, .string kt, .slice ra rl.length rc, .string fd] (w.heap.size) (by simp))
  obtain ⟨wa, hwa⟩ : ∃ w_, w_ = (w.alloc (.cells #[.int .i64 4, .string st, .int .i64 kk, .int .i64 kn, .string kt, .slice ra rl.length rc, .string fd] 148)) := ⟨_, rfl⟩
  rw [← hwa] at S1
  go_enter Try.func202, Try.ntmps202
  go_upto_region 1 with fail
  rw [← hwa]
  clear hwa
  obtain ⟨f0, f1, f2, f3, f4, f5, f6⟩ := Bag.cs7 S1.out 0 rfl
  go_wp2_with fail
  go_ret
  exact ⟨rfl, S1.out.old⟩
 ·
  skip
  rw [ifO5]
  have S1 := Lib.hid (show Sl.Sep w _ [_] from L4.push_box (Sl.Sep.start w) 148 #[.int .i64 5, .string st, .int .i64 kk, .int .i64 kn, .string kt, .slice ra rl.length rc, .string fd] (w.heap.size) (by simp))
  obtain ⟨wa, hwa⟩ : ∃ w_, w_ = (w.alloc (.cells #[.int .i64 5, .string st, .int .i64 kk, .int .i64 kn, .string kt, .slice ra rl.length rc, .string fd] 148)) := ⟨_, rfl⟩
  rw [← hwa] at S1
  go_enter Try.func202, Try.ntmps202
  go_upto_region 1 with fail
  rw [← hwa]
  clear hwa
  obtain ⟨f0, f1, f2, f3, f4, f5, f6⟩ := Bag.cs7 S1.out 0 rfl
  go_wp2_with fail
  go_ret
  exact ⟨rfl, S1.out.old⟩
 ·
  skip
  rw [ifO6]
  have S1 := Lib.hid (show Sl.Sep w _ [_] from L4.push_box (Sl.Sep.start w) 148 #[.int .i64 6, .string st, .int .i64 kk, .int .i64 kn, .string kt, .slice ra rl.length rc, .string fd] (w.heap.size) (by simp))
  obtain ⟨wa, hwa⟩ : ∃ w_, w_ = (w.alloc (.cells #[.int .i64 6, .string st, .int .i64 kk, .int .i64 kn, .string kt, .slice ra rl.length rc, .string fd] 148)) := ⟨_, rfl⟩
  rw [← hwa] at S1
  go_enter Try.func202, Try.ntmps202
  go_upto_region 1 with fail
  rw [← hwa]
  clear hwa
  obtain ⟨f0, f1, f2, f3, f4, f5, f6⟩ := Bag.cs7 S1.out 0 rfl
  go_wp2_with fail
  go_ret
  exact ⟨rfl, S1.out.old⟩
 ·
  skip
  rw [ifO_no _ hno]
  have n1 : ¬ kd = 1 := by omega
  have n2 : ¬ kd = 2 := by omega
  have n3 : ¬ kd = 3 := by omega
  have n4 : ¬ kd = 4 := by omega
  have n5 : ¬ kd = 5 := by omega
  have n6 : ¬ kd = 6 := by omega
  clear hno
  have S1 := Lib.hid (show Sl.Sep w _ [_] from L4.push_box (Sl.Sep.start w) 148 #[.int .i64 kd, .string st, .int .i64 kk, .int .i64 kn, .string kt, .slice ra rl.length rc, .string fd] (w.heap.size) (by simp))
  obtain ⟨wa, hwa⟩ : ∃ w_, w_ = (w.alloc (.cells #[.int .i64 kd, .string st, .int .i64 kk, .int .i64 kn, .string kt, .slice ra rl.length rc, .string fd] 148)) := ⟨_, rfl⟩
  rw [← hwa] at S1
  go_enter Try.func202, Try.ntmps202
  go_upto_region 1 with fail
  rw [← hwa]
  clear hwa
  obtain ⟨f0, f1, f2, f3, f4, f5, f6⟩ := Bag.cs7 S1.out 0 rfl
  go_wp2_with fail
  go_ret
  exact ⟨rfl, S1.out.old⟩
set_option maxHeartbeats 8000000 in
theorem isOp_any (o : Y_Op) (hf : FitO (co_Op o)) (w : World) (hr : RowsRd w w.heap.size (rw_Op o)) :
  Calls Try.prog 189 #[vv_Op o] w fun e w' => e = .returned (.bool (isO (co_Op o))) ∧ Below w.heap.size w w' := by
 have HRR := Lib.hid (fun w' (h : Below w.heap.size w w') => (((rdO hr).below h).more h.size : Reads w' w'.heap.size o.f_Record.a (L5.cellsF o.f_Record.l)))
 have HFO := Lib.hid (show FitO ⟨o.f_Kind, o.f_Store, o.f_Key, o.f_Record.l, o.f_Field⟩ from hf)
 clear hf hr
 obtain ⟨kd, st, ⟨kk, kn, kt⟩, ⟨ra, rc, rl⟩, fd⟩ := o
 try unfold vv_Op
 dsimp only at HRR HFO ⊢
 obtain ⟨bn, hbn⟩ : ∃ b, isN st.data.toList = b := ⟨_, rfl⟩
 obtain ⟨bk, hbk⟩ : ∃ b, isK (⟨kk, kn, kt⟩ : K) = b := ⟨_, rfl⟩
 obtain ⟨br, hbr⟩ : ∃ b, isR rl = b := ⟨_, rfl⟩
 obtain ⟨bf, hbf⟩ : ∃ b, isN fd.data.toList = b := ⟨_, rfl⟩
 obtain ⟨c0, hc0⟩ : ∃ b, (fd.toList == []) = b := ⟨_, rfl⟩
 have HNA := fun w => L5.isName_any st HFO.out.store w
 rw [hbn] at HNA
 replace HNA := Lib.hid HNA
 have HNF := fun w => L5.isName_any fd HFO.out.field w
 rw [hbf] at HNF
 replace HNF := Lib.hid HNF
 have HKY := fun w => L4.implIsKey_any (⟨kk, kn, kt⟩ : K) (by have h : kt.size ≤ 1099511627776 := HFO.out.text; show kt.size ≤ _; omega) w
 rw [hbk] at HKY
 unfold L4.K.v at HKY
 dsimp only at HKY
 replace HKY := Lib.hid HKY
 have HRC := fun w' (h : Below w.heap.size w w') => L5.isRecord_any ra rc rl (by have h : rl.length ≤ 1048576 := HFO.out.len; omega) HFO.out.small w' (HRR.out w' h)
 rw [hbr] at HRC
 replace HRC := Lib.hid HRC
 have HB : isO (co_Op ⟨kd, st, ⟨kk, kn, kt⟩, ⟨ra, rc, rl⟩, fd⟩) = (L1.inB kd 1 6 && (bn && ((kd == 5 || bk) && (br && (if kd = 6 then bf else c0))))) := by rw [← hbn, ← hbk, ← hbr, ← hbf, ← hc0]; rfl
 clear hbn hbk hbr hbf
 have HBB := Lib.hid HB
 clear HB
 rcases (show kd = 1 ∨ kd = 2 ∨ kd = 3 ∨ kd = 4 ∨ kd = 5 ∨ kd = 6 ∨ ¬ (kd = 1 ∨ kd = 2 ∨ kd = 3 ∨ kd = 4 ∨ kd = 5 ∨ kd = 6) by omega) with rfl | rfl | rfl | rfl | rfl | rfl | hno
 ·
  skip
  have HOF := fun w => operationOf_any ⟨1, st, ⟨kk, kn, kt⟩, ⟨ra, rc, rl⟩, fd⟩ w
  unfold vv_Op at HOF
  dsimp only at HOF
  rw [ifO1] at HOF
  replace HOF := Lib.hid HOF
  have hnil := fun v w => nil_no 245 v w
  have asclearOp := not_clearOp_putOp
  have asincOp := not_incOp_putOp
  have HW : isO (co_Op ⟨1, st, ⟨kk, kn, kt⟩, ⟨ra, rc, rl⟩, fd⟩) = (bn && (bk && (br && c0))) := by rw [HBB.out]; cases bn <;> cases bk <;> cases br <;> cases bf <;> cases c0 <;> rfl
  rw [HW]
  clear HW HBB
  generalize hB : (bn && _) = B
  have HB := Lib.hid hB.symm
  clear hB
  have S1 := Lib.hid (show Sl.Sep w _ [_] from L4.push_box (Sl.Sep.start w) 148 #[.int .i64 1, .string st, .int .i64 kk, .int .i64 kn, .string kt, .slice ra rl.length rc, .string fd] (w.heap.size) (by simp))
  obtain ⟨wa, hwa⟩ : ∃ w_, w_ = (w.alloc (.cells #[.int .i64 1, .string st, .int .i64 kk, .int .i64 kn, .string kt, .slice ra rl.length rc, .string fd] 148)) := ⟨_, rfl⟩
  rw [← hwa] at S1
  go_enter Try.func189, Try.ntmps189
  go_upto_region 1 with fail
  rw [← hwa]
  clear hwa
  obtain ⟨f0, f1, f2, f3, f4, f5, f6⟩ := Bag.cs7 S1.out 0 rfl
  cases bn with
  | false =>
   go_wp2_with fail
   go_at_call 97
   refine (HNA.out _).mono ?_
   rintro e w1 ⟨rfl, rfl⟩
   go_wp2_with fail
   go_ret
   exact ⟨by rw [HB.out]; simp [*], S1.out.old⟩
  | true =>
   go_wp2_with fail
   go_at_call 97
   refine (HNA.out _).mono ?_
   rintro e w1 ⟨rfl, rfl⟩
   cases br with
   | false =>
    go_wp2_with fail
    go_at_call 100
    refine (HRC.out _ S1.out.old).mono ?_
    rintro e w2 ⟨rfl, hb⟩
    clear f0 f1 f2 f3 f4 f5 f6
    have S2 := Lib.hid (S1.out.keep hb)
    clear S1
    clear hb
    obtain ⟨f0, f1, f2, f3, f4, f5, f6⟩ := Bag.cs7 S2.out 0 rfl
    go_wp2_with fail
    go_ret
    exact ⟨by rw [HB.out]; simp [*], S2.out.old⟩
   | true =>
    go_wp2_with fail
    go_at_call 100
    refine (HRC.out _ S1.out.old).mono ?_
    rintro e w2 ⟨rfl, hb⟩
    clear f0 f1 f2 f3 f4 f5 f6
    have S2 := Lib.hid (S1.out.keep hb)
    clear S1
    clear hb
    obtain ⟨f0, f1, f2, f3, f4, f5, f6⟩ := Bag.cs7 S2.out 0 rfl
    go_wp2_with fail
    go_at_call 202
    refine (HOF.out _).mono ?_
    rintro e w3 ⟨rfl, hb⟩
    clear f0 f1 f2 f3 f4 f5 f6
    have S3 := Lib.hid (S2.out.keep hb)
    clear S2
    clear hb
    obtain ⟨f0, f1, f2, f3, f4, f5, f6⟩ := Bag.cs7 S3.out 0 rfl
    cases bk with
    | false =>
     go_wp2_with fail
     go_at_call 99
     refine (HKY.out _).mono ?_
     rintro e w4 ⟨rfl, hb⟩
     clear f0 f1 f2 f3 f4 f5 f6
     have S4 := Lib.hid (S3.out.keep hb)
     clear S3
     clear hb
     obtain ⟨f0, f1, f2, f3, f4, f5, f6⟩ := Bag.cs7 S4.out 0 rfl
     go_wp2_with fail
     go_ret
     exact ⟨by rw [HB.out]; simp [*], S4.out.old⟩
    | true =>
     go_wp2_with fail
     go_at_call 99
     refine (HKY.out _).mono ?_
     rintro e w4 ⟨rfl, hb⟩
     clear f0 f1 f2 f3 f4 f5 f6
     have S4 := Lib.hid (S3.out.keep hb)
     clear S3
     clear hb
     obtain ⟨f0, f1, f2, f3, f4, f5, f6⟩ := Bag.cs7 S4.out 0 rfl
     go_wp2_with fail
     go_ret
     exact ⟨by rw [HB.out]; simp [*], S4.out.old⟩
 ·
  skip
  have HOF := fun w => operationOf_any ⟨2, st, ⟨kk, kn, kt⟩, ⟨ra, rc, rl⟩, fd⟩ w
  unfold vv_Op at HOF
  dsimp only at HOF
  rw [ifO2] at HOF
  replace HOF := Lib.hid HOF
  have hnil := fun v w => nil_no 246 v w
  have asclearOp := not_clearOp_addOp
  have asincOp := not_incOp_addOp
  have HW : isO (co_Op ⟨2, st, ⟨kk, kn, kt⟩, ⟨ra, rc, rl⟩, fd⟩) = (bn && (bk && (br && c0))) := by rw [HBB.out]; cases bn <;> cases bk <;> cases br <;> cases bf <;> cases c0 <;> rfl
  rw [HW]
  clear HW HBB
  generalize hB : (bn && _) = B
  have HB := Lib.hid hB.symm
  clear hB
  have S1 := Lib.hid (show Sl.Sep w _ [_] from L4.push_box (Sl.Sep.start w) 148 #[.int .i64 2, .string st, .int .i64 kk, .int .i64 kn, .string kt, .slice ra rl.length rc, .string fd] (w.heap.size) (by simp))
  obtain ⟨wa, hwa⟩ : ∃ w_, w_ = (w.alloc (.cells #[.int .i64 2, .string st, .int .i64 kk, .int .i64 kn, .string kt, .slice ra rl.length rc, .string fd] 148)) := ⟨_, rfl⟩
  rw [← hwa] at S1
  go_enter Try.func189, Try.ntmps189
  go_upto_region 1 with fail
  rw [← hwa]
  clear hwa
  obtain ⟨f0, f1, f2, f3, f4, f5, f6⟩ := Bag.cs7 S1.out 0 rfl
  cases bn with
  | false =>
   go_wp2_with fail
   go_at_call 97
   refine (HNA.out _).mono ?_
   rintro e w1 ⟨rfl, rfl⟩
   go_wp2_with fail
   go_ret
   exact ⟨by rw [HB.out]; simp [*], S1.out.old⟩
  | true =>
   go_wp2_with fail
   go_at_call 97
   refine (HNA.out _).mono ?_
   rintro e w1 ⟨rfl, rfl⟩
   cases br with
   | false =>
    go_wp2_with fail
    go_at_call 100
    refine (HRC.out _ S1.out.old).mono ?_
    rintro e w2 ⟨rfl, hb⟩
    clear f0 f1 f2 f3 f4 f5 f6
    have S2 := Lib.hid (S1.out.keep hb)
    clear S1
    clear hb
    obtain ⟨f0, f1, f2, f3, f4, f5, f6⟩ := Bag.cs7 S2.out 0 rfl
    go_wp2_with fail
    go_ret
    exact ⟨by rw [HB.out]; simp [*], S2.out.old⟩
   | true =>
    go_wp2_with fail
    go_at_call 100
    refine (HRC.out _ S1.out.old).mono ?_
    rintro e w2 ⟨rfl, hb⟩
    clear f0 f1 f2 f3 f4 f5 f6
    have S2 := Lib.hid (S1.out.keep hb)
    clear S1
    clear hb
    obtain ⟨f0, f1, f2, f3, f4, f5, f6⟩ := Bag.cs7 S2.out 0 rfl
    go_wp2_with fail
    go_at_call 202
    refine (HOF.out _).mono ?_
    rintro e w3 ⟨rfl, hb⟩
    clear f0 f1 f2 f3 f4 f5 f6
    have S3 := Lib.hid (S2.out.keep hb)
    clear S2
    clear hb
    obtain ⟨f0, f1, f2, f3, f4, f5, f6⟩ := Bag.cs7 S3.out 0 rfl
    cases bk with
    | false =>
     go_wp2_with fail
     go_at_call 99
     refine (HKY.out _).mono ?_
     rintro e w4 ⟨rfl, hb⟩
     clear f0 f1 f2 f3 f4 f5 f6
     have S4 := Lib.hid (S3.out.keep hb)
     clear S3
     clear hb
     obtain ⟨f0, f1, f2, f3, f4, f5, f6⟩ := Bag.cs7 S4.out 0 rfl
     go_wp2_with fail
     go_ret
     exact ⟨by rw [HB.out]; simp [*], S4.out.old⟩
    | true =>
     go_wp2_with fail
     go_at_call 99
     refine (HKY.out _).mono ?_
     rintro e w4 ⟨rfl, hb⟩
     clear f0 f1 f2 f3 f4 f5 f6
     have S4 := Lib.hid (S3.out.keep hb)
     clear S3
     clear hb
     obtain ⟨f0, f1, f2, f3, f4, f5, f6⟩ := Bag.cs7 S4.out 0 rfl
     go_wp2_with fail
     go_ret
     exact ⟨by rw [HB.out]; simp [*], S4.out.old⟩
 ·
  skip
  have HOF := fun w => operationOf_any ⟨3, st, ⟨kk, kn, kt⟩, ⟨ra, rc, rl⟩, fd⟩ w
  unfold vv_Op at HOF
  dsimp only at HOF
  rw [ifO3] at HOF
  replace HOF := Lib.hid HOF
  have hnil := fun v w => nil_no 247 v w
  have asclearOp := not_clearOp_deleteOp
  have asincOp := not_incOp_deleteOp
  have HW : isO (co_Op ⟨3, st, ⟨kk, kn, kt⟩, ⟨ra, rc, rl⟩, fd⟩) = (bn && (bk && (br && c0))) := by rw [HBB.out]; cases bn <;> cases bk <;> cases br <;> cases bf <;> cases c0 <;> rfl
  rw [HW]
  clear HW HBB
  generalize hB : (bn && _) = B
  have HB := Lib.hid hB.symm
  clear hB
  have S1 := Lib.hid (show Sl.Sep w _ [_] from L4.push_box (Sl.Sep.start w) 148 #[.int .i64 3, .string st, .int .i64 kk, .int .i64 kn, .string kt, .slice ra rl.length rc, .string fd] (w.heap.size) (by simp))
  obtain ⟨wa, hwa⟩ : ∃ w_, w_ = (w.alloc (.cells #[.int .i64 3, .string st, .int .i64 kk, .int .i64 kn, .string kt, .slice ra rl.length rc, .string fd] 148)) := ⟨_, rfl⟩
  rw [← hwa] at S1
  go_enter Try.func189, Try.ntmps189
  go_upto_region 1 with fail
  rw [← hwa]
  clear hwa
  obtain ⟨f0, f1, f2, f3, f4, f5, f6⟩ := Bag.cs7 S1.out 0 rfl
  cases bn with
  | false =>
   go_wp2_with fail
   go_at_call 97
   refine (HNA.out _).mono ?_
   rintro e w1 ⟨rfl, rfl⟩
   go_wp2_with fail
   go_ret
   exact ⟨by rw [HB.out]; simp [*], S1.out.old⟩
  | true =>
   go_wp2_with fail
   go_at_call 97
   refine (HNA.out _).mono ?_
   rintro e w1 ⟨rfl, rfl⟩
   cases br with
   | false =>
    go_wp2_with fail
    go_at_call 100
    refine (HRC.out _ S1.out.old).mono ?_
    rintro e w2 ⟨rfl, hb⟩
    clear f0 f1 f2 f3 f4 f5 f6
    have S2 := Lib.hid (S1.out.keep hb)
    clear S1
    clear hb
    obtain ⟨f0, f1, f2, f3, f4, f5, f6⟩ := Bag.cs7 S2.out 0 rfl
    go_wp2_with fail
    go_ret
    exact ⟨by rw [HB.out]; simp [*], S2.out.old⟩
   | true =>
    go_wp2_with fail
    go_at_call 100
    refine (HRC.out _ S1.out.old).mono ?_
    rintro e w2 ⟨rfl, hb⟩
    clear f0 f1 f2 f3 f4 f5 f6
    have S2 := Lib.hid (S1.out.keep hb)
    clear S1
    clear hb
    obtain ⟨f0, f1, f2, f3, f4, f5, f6⟩ := Bag.cs7 S2.out 0 rfl
    go_wp2_with fail
    go_at_call 202
    refine (HOF.out _).mono ?_
    rintro e w3 ⟨rfl, hb⟩
    clear f0 f1 f2 f3 f4 f5 f6
    have S3 := Lib.hid (S2.out.keep hb)
    clear S2
    clear hb
    obtain ⟨f0, f1, f2, f3, f4, f5, f6⟩ := Bag.cs7 S3.out 0 rfl
    cases bk with
    | false =>
     go_wp2_with fail
     go_at_call 99
     refine (HKY.out _).mono ?_
     rintro e w4 ⟨rfl, hb⟩
     clear f0 f1 f2 f3 f4 f5 f6
     have S4 := Lib.hid (S3.out.keep hb)
     clear S3
     clear hb
     obtain ⟨f0, f1, f2, f3, f4, f5, f6⟩ := Bag.cs7 S4.out 0 rfl
     go_wp2_with fail
     go_ret
     exact ⟨by rw [HB.out]; simp [*], S4.out.old⟩
    | true =>
     go_wp2_with fail
     go_at_call 99
     refine (HKY.out _).mono ?_
     rintro e w4 ⟨rfl, hb⟩
     clear f0 f1 f2 f3 f4 f5 f6
     have S4 := Lib.hid (S3.out.keep hb)
     clear S3
     clear hb
     obtain ⟨f0, f1, f2, f3, f4, f5, f6⟩ := Bag.cs7 S4.out 0 rfl
     go_wp2_with fail
     go_ret
     exact ⟨by rw [HB.out]; simp [*], S4.out.old⟩
 ·
  skip
  have HOF := fun w => operationOf_any ⟨4, st, ⟨kk, kn, kt⟩, ⟨ra, rc, rl⟩, fd⟩ w
  unfold vv_Op at HOF
  dsimp only at HOF
  rw [ifO4] at HOF
  replace HOF := Lib.hid HOF
  have hnil := fun v w => nil_no 221 v w
  have asclearOp := not_clearOp_getOp
  have asincOp := not_incOp_getOp
  have HW : isO (co_Op ⟨4, st, ⟨kk, kn, kt⟩, ⟨ra, rc, rl⟩, fd⟩) = (bn && (bk && (br && c0))) := by rw [HBB.out]; cases bn <;> cases bk <;> cases br <;> cases bf <;> cases c0 <;> rfl
  rw [HW]
  clear HW HBB
  generalize hB : (bn && _) = B
  have HB := Lib.hid hB.symm
  clear hB
  have S1 := Lib.hid (show Sl.Sep w _ [_] from L4.push_box (Sl.Sep.start w) 148 #[.int .i64 4, .string st, .int .i64 kk, .int .i64 kn, .string kt, .slice ra rl.length rc, .string fd] (w.heap.size) (by simp))
  obtain ⟨wa, hwa⟩ : ∃ w_, w_ = (w.alloc (.cells #[.int .i64 4, .string st, .int .i64 kk, .int .i64 kn, .string kt, .slice ra rl.length rc, .string fd] 148)) := ⟨_, rfl⟩
  rw [← hwa] at S1
  go_enter Try.func189, Try.ntmps189
  go_upto_region 1 with fail
  rw [← hwa]
  clear hwa
  obtain ⟨f0, f1, f2, f3, f4, f5, f6⟩ := Bag.cs7 S1.out 0 rfl
  cases bn with
  | false =>
   go_wp2_with fail
   go_at_call 97
   refine (HNA.out _).mono ?_
   rintro e w1 ⟨rfl, rfl⟩
   go_wp2_with fail
   go_ret
   exact ⟨by rw [HB.out]; simp [*], S1.out.old⟩
  | true =>
   go_wp2_with fail
   go_at_call 97
   refine (HNA.out _).mono ?_
   rintro e w1 ⟨rfl, rfl⟩
   cases br with
   | false =>
    go_wp2_with fail
    go_at_call 100
    refine (HRC.out _ S1.out.old).mono ?_
    rintro e w2 ⟨rfl, hb⟩
    clear f0 f1 f2 f3 f4 f5 f6
    have S2 := Lib.hid (S1.out.keep hb)
    clear S1
    clear hb
    obtain ⟨f0, f1, f2, f3, f4, f5, f6⟩ := Bag.cs7 S2.out 0 rfl
    go_wp2_with fail
    go_ret
    exact ⟨by rw [HB.out]; simp [*], S2.out.old⟩
   | true =>
    go_wp2_with fail
    go_at_call 100
    refine (HRC.out _ S1.out.old).mono ?_
    rintro e w2 ⟨rfl, hb⟩
    clear f0 f1 f2 f3 f4 f5 f6
    have S2 := Lib.hid (S1.out.keep hb)
    clear S1
    clear hb
    obtain ⟨f0, f1, f2, f3, f4, f5, f6⟩ := Bag.cs7 S2.out 0 rfl
    go_wp2_with fail
    go_at_call 202
    refine (HOF.out _).mono ?_
    rintro e w3 ⟨rfl, hb⟩
    clear f0 f1 f2 f3 f4 f5 f6
    have S3 := Lib.hid (S2.out.keep hb)
    clear S2
    clear hb
    obtain ⟨f0, f1, f2, f3, f4, f5, f6⟩ := Bag.cs7 S3.out 0 rfl
    cases bk with
    | false =>
     go_wp2_with fail
     go_at_call 99
     refine (HKY.out _).mono ?_
     rintro e w4 ⟨rfl, hb⟩
     clear f0 f1 f2 f3 f4 f5 f6
     have S4 := Lib.hid (S3.out.keep hb)
     clear S3
     clear hb
     obtain ⟨f0, f1, f2, f3, f4, f5, f6⟩ := Bag.cs7 S4.out 0 rfl
     go_wp2_with fail
     go_ret
     exact ⟨by rw [HB.out]; simp [*], S4.out.old⟩
    | true =>
     go_wp2_with fail
     go_at_call 99
     refine (HKY.out _).mono ?_
     rintro e w4 ⟨rfl, hb⟩
     clear f0 f1 f2 f3 f4 f5 f6
     have S4 := Lib.hid (S3.out.keep hb)
     clear S3
     clear hb
     obtain ⟨f0, f1, f2, f3, f4, f5, f6⟩ := Bag.cs7 S4.out 0 rfl
     go_wp2_with fail
     go_ret
     exact ⟨by rw [HB.out]; simp [*], S4.out.old⟩
 ·
  skip
  have HOF := fun w => operationOf_any ⟨5, st, ⟨kk, kn, kt⟩, ⟨ra, rc, rl⟩, fd⟩ w
  unfold vv_Op at HOF
  dsimp only at HOF
  rw [ifO5] at HOF
  replace HOF := Lib.hid HOF
  have hnil := fun v w => nil_no 239 v w
  have asclearOp := as_clearOp
  have asincOp := not_incOp_clearOp
  have HW : isO (co_Op ⟨5, st, ⟨kk, kn, kt⟩, ⟨ra, rc, rl⟩, fd⟩) = (bn && (br && c0)) := by rw [HBB.out]; cases bn <;> cases bk <;> cases br <;> cases bf <;> cases c0 <;> rfl
  rw [HW]
  clear HW HBB
  generalize hB : (bn && _) = B
  have HB := Lib.hid hB.symm
  clear hB
  have S1 := Lib.hid (show Sl.Sep w _ [_] from L4.push_box (Sl.Sep.start w) 148 #[.int .i64 5, .string st, .int .i64 kk, .int .i64 kn, .string kt, .slice ra rl.length rc, .string fd] (w.heap.size) (by simp))
  obtain ⟨wa, hwa⟩ : ∃ w_, w_ = (w.alloc (.cells #[.int .i64 5, .string st, .int .i64 kk, .int .i64 kn, .string kt, .slice ra rl.length rc, .string fd] 148)) := ⟨_, rfl⟩
  rw [← hwa] at S1
  go_enter Try.func189, Try.ntmps189
  go_upto_region 1 with fail
  rw [← hwa]
  clear hwa
  obtain ⟨f0, f1, f2, f3, f4, f5, f6⟩ := Bag.cs7 S1.out 0 rfl
  cases bn with
  | false =>
   go_wp2_with fail
   go_at_call 97
   refine (HNA.out _).mono ?_
   rintro e w1 ⟨rfl, rfl⟩
   go_wp2_with fail
   go_ret
   exact ⟨by rw [HB.out]; simp [*], S1.out.old⟩
  | true =>
   go_wp2_with fail
   go_at_call 97
   refine (HNA.out _).mono ?_
   rintro e w1 ⟨rfl, rfl⟩
   cases br with
   | false =>
    go_wp2_with fail
    go_at_call 100
    refine (HRC.out _ S1.out.old).mono ?_
    rintro e w2 ⟨rfl, hb⟩
    clear f0 f1 f2 f3 f4 f5 f6
    have S2 := Lib.hid (S1.out.keep hb)
    clear S1
    clear hb
    obtain ⟨f0, f1, f2, f3, f4, f5, f6⟩ := Bag.cs7 S2.out 0 rfl
    go_wp2_with fail
    go_ret
    exact ⟨by rw [HB.out]; simp [*], S2.out.old⟩
   | true =>
    go_wp2_with fail
    go_at_call 100
    refine (HRC.out _ S1.out.old).mono ?_
    rintro e w2 ⟨rfl, hb⟩
    clear f0 f1 f2 f3 f4 f5 f6
    have S2 := Lib.hid (S1.out.keep hb)
    clear S1
    clear hb
    obtain ⟨f0, f1, f2, f3, f4, f5, f6⟩ := Bag.cs7 S2.out 0 rfl
    go_wp2_with fail
    go_at_call 202
    refine (HOF.out _).mono ?_
    rintro e w3 ⟨rfl, hb⟩
    clear f0 f1 f2 f3 f4 f5 f6
    have S3 := Lib.hid (S2.out.keep hb)
    clear S2
    clear hb
    obtain ⟨f0, f1, f2, f3, f4, f5, f6⟩ := Bag.cs7 S3.out 0 rfl
    go_wp2_with fail
    go_ret
    exact ⟨by rw [HB.out]; simp [*], S3.out.old⟩
 ·
  skip
  have HOF := fun w => operationOf_any ⟨6, st, ⟨kk, kn, kt⟩, ⟨ra, rc, rl⟩, fd⟩ w
  unfold vv_Op at HOF
  dsimp only at HOF
  rw [ifO6] at HOF
  replace HOF := Lib.hid HOF
  have hnil := fun v w => nil_no 240 v w
  have asclearOp := not_clearOp_incOp
  have asincOp := as_incOp
  have HW : isO (co_Op ⟨6, st, ⟨kk, kn, kt⟩, ⟨ra, rc, rl⟩, fd⟩) = (bn && (bk && (br && bf))) := by rw [HBB.out]; cases bn <;> cases bk <;> cases br <;> cases bf <;> cases c0 <;> rfl
  rw [HW]
  clear HW HBB
  generalize hB : (bn && _) = B
  have HB := Lib.hid hB.symm
  clear hB
  have S1 := Lib.hid (show Sl.Sep w _ [_] from L4.push_box (Sl.Sep.start w) 148 #[.int .i64 6, .string st, .int .i64 kk, .int .i64 kn, .string kt, .slice ra rl.length rc, .string fd] (w.heap.size) (by simp))
  obtain ⟨wa, hwa⟩ : ∃ w_, w_ = (w.alloc (.cells #[.int .i64 6, .string st, .int .i64 kk, .int .i64 kn, .string kt, .slice ra rl.length rc, .string fd] 148)) := ⟨_, rfl⟩
  rw [← hwa] at S1
  go_enter Try.func189, Try.ntmps189
  go_upto_region 1 with fail
  rw [← hwa]
  clear hwa
  obtain ⟨f0, f1, f2, f3, f4, f5, f6⟩ := Bag.cs7 S1.out 0 rfl
  cases bn with
  | false =>
   go_wp2_with fail
   go_at_call 97
   refine (HNA.out _).mono ?_
   rintro e w1 ⟨rfl, rfl⟩
   go_wp2_with fail
   go_ret
   exact ⟨by rw [HB.out]; simp [*], S1.out.old⟩
  | true =>
   go_wp2_with fail
   go_at_call 97
   refine (HNA.out _).mono ?_
   rintro e w1 ⟨rfl, rfl⟩
   cases br with
   | false =>
    go_wp2_with fail
    go_at_call 100
    refine (HRC.out _ S1.out.old).mono ?_
    rintro e w2 ⟨rfl, hb⟩
    clear f0 f1 f2 f3 f4 f5 f6
    have S2 := Lib.hid (S1.out.keep hb)
    clear S1
    clear hb
    obtain ⟨f0, f1, f2, f3, f4, f5, f6⟩ := Bag.cs7 S2.out 0 rfl
    go_wp2_with fail
    go_ret
    exact ⟨by rw [HB.out]; simp [*], S2.out.old⟩
   | true =>
    go_wp2_with fail
    go_at_call 100
    refine (HRC.out _ S1.out.old).mono ?_
    rintro e w2 ⟨rfl, hb⟩
    clear f0 f1 f2 f3 f4 f5 f6
    have S2 := Lib.hid (S1.out.keep hb)
    clear S1
    clear hb
    obtain ⟨f0, f1, f2, f3, f4, f5, f6⟩ := Bag.cs7 S2.out 0 rfl
    go_wp2_with fail
    go_at_call 202
    refine (HOF.out _).mono ?_
    rintro e w3 ⟨rfl, hb⟩
    clear f0 f1 f2 f3 f4 f5 f6
    have S3 := Lib.hid (S2.out.keep hb)
    clear S2
    clear hb
    obtain ⟨f0, f1, f2, f3, f4, f5, f6⟩ := Bag.cs7 S3.out 0 rfl
    cases bk with
    | false =>
     go_wp2_with fail
     go_at_call 99
     refine (HKY.out _).mono ?_
     rintro e w4 ⟨rfl, hb⟩
     clear f0 f1 f2 f3 f4 f5 f6
     have S4 := Lib.hid (S3.out.keep hb)
     clear S3
     clear hb
     obtain ⟨f0, f1, f2, f3, f4, f5, f6⟩ := Bag.cs7 S4.out 0 rfl
     go_wp2_with fail
     go_ret
     exact ⟨by rw [HB.out]; simp [*], S4.out.old⟩
    | true =>
     go_wp2_with fail
     go_at_call 99
     refine (HKY.out _).mono ?_
     rintro e w4 ⟨rfl, hb⟩
     clear f0 f1 f2 f3 f4 f5 f6
     have S4 := Lib.hid (S3.out.keep hb)
     clear S3
     clear hb
     obtain ⟨f0, f1, f2, f3, f4, f5, f6⟩ := Bag.cs7 S4.out 0 rfl
     cases bf with
     | false =>
      go_wp2_with fail
      go_at_call 97
      refine (HNF.out _).mono ?_
      rintro e w5 ⟨rfl, rfl⟩
      go_wp2_with fail
      go_ret
      exact ⟨by rw [HB.out]; simp [*], S4.out.old⟩
     | true =>
      go_wp2_with fail
      go_at_call 97
      refine (HNF.out _).mono ?_
      rintro e w5 ⟨rfl, rfl⟩
      go_wp2_with fail
      go_ret
      exact ⟨by rw [HB.out]; simp [*], S4.out.old⟩
 ·
  skip
  have HOF := fun w => operationOf_any ⟨kd, st, ⟨kk, kn, kt⟩, ⟨ra, rc, rl⟩, fd⟩ w
  unfold vv_Op at HOF
  dsimp only at HOF
  rw [ifO_no _ hno] at HOF
  replace HOF := Lib.hid HOF
  have hnil := nil_yes
  have asclearOp := not_clearOp_nil
  have asincOp := not_incOp_nil
  have HW : isO (co_Op ⟨kd, st, ⟨kk, kn, kt⟩, ⟨ra, rc, rl⟩, fd⟩) = false := by rw [HBB.out, inB_no (by omega) (by omega) (by omega) (by omega) (by omega) (by omega)]; rfl
  rw [HW]
  clear HW HBB
  have S1 := Lib.hid (show Sl.Sep w _ [_] from L4.push_box (Sl.Sep.start w) 148 #[.int .i64 kd, .string st, .int .i64 kk, .int .i64 kn, .string kt, .slice ra rl.length rc, .string fd] (w.heap.size) (by simp))
  obtain ⟨wa, hwa⟩ : ∃ w_, w_ = (w.alloc (.cells #[.int .i64 kd, .string st, .int .i64 kk, .int .i64 kn, .string kt, .slice ra rl.length rc, .string fd] 148)) := ⟨_, rfl⟩
  rw [← hwa] at S1
  go_enter Try.func189, Try.ntmps189
  go_upto_region 1 with fail
  rw [← hwa]
  clear hwa
  obtain ⟨f0, f1, f2, f3, f4, f5, f6⟩ := Bag.cs7 S1.out 0 rfl
  cases bn with
  | false =>
   go_wp2_with fail
   go_at_call 97
   refine (HNA.out _).mono ?_
   rintro e w1 ⟨rfl, rfl⟩
   go_wp2_with fail
   go_ret
   exact ⟨by rfl, S1.out.old⟩
  | true =>
   go_wp2_with fail
   go_at_call 97
   refine (HNA.out _).mono ?_
   rintro e w1 ⟨rfl, rfl⟩
   cases br with
   | false =>
    go_wp2_with fail
    go_at_call 100
    refine (HRC.out _ S1.out.old).mono ?_
    rintro e w2 ⟨rfl, hb⟩
    clear f0 f1 f2 f3 f4 f5 f6
    have S2 := Lib.hid (S1.out.keep hb)
    clear S1
    clear hb
    obtain ⟨f0, f1, f2, f3, f4, f5, f6⟩ := Bag.cs7 S2.out 0 rfl
    go_wp2_with fail
    go_ret
    exact ⟨by rfl, S2.out.old⟩
   | true =>
    go_wp2_with fail
    go_at_call 100
    refine (HRC.out _ S1.out.old).mono ?_
    rintro e w2 ⟨rfl, hb⟩
    clear f0 f1 f2 f3 f4 f5 f6
    have S2 := Lib.hid (S1.out.keep hb)
    clear S1
    clear hb
    obtain ⟨f0, f1, f2, f3, f4, f5, f6⟩ := Bag.cs7 S2.out 0 rfl
    go_wp2_with fail
    go_at_call 202
    refine (HOF.out _).mono ?_
    rintro e w3 ⟨rfl, hb⟩
    clear f0 f1 f2 f3 f4 f5 f6
    have S3 := Lib.hid (S2.out.keep hb)
    clear S2
    clear hb
    obtain ⟨f0, f1, f2, f3, f4, f5, f6⟩ := Bag.cs7 S3.out 0 rfl
    go_wp2_with fail
    go_ret
    exact ⟨by rfl, S3.out.old⟩
end Go.Proofs.Ytojcdmgcbgpdmaa.L9

namespace Go.Proofs.Ytojcdmgcbgpdmaa.L10
theorem any_no {α : Type} {p : α → Bool} {xs : List α} (h : ∀ j (hj : j < xs.length), p xs[j] = false) : xs.any p = false := by
 rw [List.any_eq_false]
 intro x hx
 obtain ⟨j, hj, rfl⟩ := List.mem_iff_getElem.1 hx
 rw [h j hj]; decide
theorem any_yes {α : Type} {p : α → Bool} {xs : List α} {k : Nat} {x : α} (hx : xs[k]? = some x) (h : p x = true) : xs.any p = true :=
 List.any_eq_true.2 ⟨x, List.mem_of_getElem? hx, h⟩
end Go.Proofs.Ytojcdmgcbgpdmaa.L10

namespace Go.Proofs.Ytojcdmgcbgpdmaa.L9
open V L6
open L4 (K isK cmpK)
open L5 (F isR isN string_geq)
open Go.Op (bytesLess)
open Go.ChangeShapes Go.WideShapes Go.ChangeAt Go.RowKit Mem Sl Ex L2 Sv Bag

set_option maxHeartbeats 2000000 in
theorem areOps1_any (x : Y_Op) (hf : FitO (co_Op x)) (w : World) (hr : RowsRd w w.heap.size (rw_Op x)) :
  Calls Try.prog 188 #[vv_Op x] w fun e w' => e = .returned (.bool (!isO (co_Op x))) ∧ Below w.heap.size w w' := by
 have HIO := Lib.hid (fun w' (h : Below w.heap.size w w') => isOp_any x hf w' ((hr.below h).more h.size))
 obtain ⟨b, hb⟩ : ∃ b, isO (co_Op x) = b := ⟨_, rfl⟩
 rw [hb] at HIO ⊢
 clear hb hr hf
 unfold vv_Op at HIO ⊢
 have S1 := Lib.hid (show Sl.Sep w _ [_] from L4.push_box (Sl.Sep.start w) 148 #[.int .i64 x.f_Kind, .string x.f_Store, .int .i64 x.f_Key.kind, .int .i64 x.f_Key.n, .string x.f_Key.text, .slice x.f_Record.a x.f_Record.l.length x.f_Record.c, .string x.f_Field] (w.heap.size) (by simp))
 obtain ⟨wa, hwa⟩ : ∃ w_, w_ = (w.alloc (.cells #[.int .i64 x.f_Kind, .string x.f_Store, .int .i64 x.f_Key.kind, .int .i64 x.f_Key.n, .string x.f_Key.text, .slice x.f_Record.a x.f_Record.l.length x.f_Record.c, .string x.f_Field] 148)) := ⟨_, rfl⟩
 rw [← hwa] at S1
 go_enter Try.func188, Try.ntmps188
 go_upto_region 1 with fail
 rw [← hwa]
 clear hwa
 obtain ⟨f0, f1, f2, f3, f4, f5, f6⟩ := Bag.cs7 S1.out 0 rfl
 go_wp2_with fail
 go_at_call 189
 refine (HIO.out _ S1.out.old).mono ?_
 rintro e w1 ⟨rfl, hb⟩
 clear f0 f1 f2 f3 f4 f5 f6
 have S2 := Lib.hid (S1.out.keep hb)
 clear S1
 clear hb
 obtain ⟨f0, f1, f2, f3, f4, f5, f6⟩ := Bag.cs7 S2.out 0 rfl
 cases b with
 | true =>
  go_wp2_with fail
  go_ret
  exact ⟨rfl, S2.out.old⟩
 | false =>
  go_wp2_with fail
  go_ret
  exact ⟨rfl, S2.out.old⟩
set_option maxHeartbeats 2000000 in
theorem indexFunc_ar (f : Y_Op → Bool) (a : Option Addr) (c : Nat) (xs : List Y_Op) (hl : xs.length ≤ 1048576) (w : World) (hr : Reads w w.heap.size a (xs.flatMap cl_Op)) (hp : ∀ x ∈ xs, ∀ w', Below w.heap.size w w' → Calls Try.prog 188 #[vv_Op x] w' fun e w'' => e = .returned (.bool (f x)) ∧ Below w'.heap.size w' w'') :
  Calls Try.prog 201 #[.slice a xs.length c, .func (.func 188) #[] #[]] w fun e w' => ∃ z : Int, e = .returned (.int .i64 z) ∧ xs.any f = decide (0 ≤ z) ∧ Below w.heap.size w w' := by
 have HR := Lib.hid (fun w' (h : Below w.heap.size w w') => hr.below h)
 have HP := Lib.hid hp
 obtain ⟨N, hN⟩ : ∃ n, n = xs.length := ⟨_, rfl⟩
 rw [← hN] at hl ⊢
 have hl' : (N : Int) ≤ 1048576 := by omega
 have HN := Lib.hid hN
 obtain ⟨B, hB⟩ : ∃ b, xs.any f = b := ⟨_, rfl⟩
 rw [hB]
 have HB := Lib.hid hB
 clear hN hr hp hB
 have S1 := Lib.hid (show Sl.Sep w w [] from Sl.Sep.start w)
 go_enter Try.func201, Try.ntmps201
 go_wp2_with fail
 go_loopw [8] (fun i wr => ∃ k : Nat, k ≤ N ∧ i = .int .i64 k ∧ Hid ((∀ j (hj : j < xs.length), j < k → f xs[j] = false) ∧ Sl.Sep w wr [])) (fun i _ => N - (intOf i).toNat)
 case atStart => exact ⟨0, Nat.zero_le _, rfl, And.intro (fun j hj h => absurd h (by omega)) S1.out⟩
 case round =>
  obtain ⟨k, hk, rfl, hrel⟩ := hrel
  have HA := Lib.hid hrel.out.1
  have S2 := Lib.hid hrel.out.2
  clear hrel S1
  by_cases hlt : (k : Int) < (N : Int)
  ·
   skip
   have hkl : k < xs.length := by have := HN.out; omega
   obtain ⟨x, hx⟩ : ∃ x, xs[k]? = some x := ⟨_, List.getElem?_eq_getElem hkl⟩
   obtain ⟨ad, e'⟩ := el_some cl_Op_len (by decide) (HR.out _ S2.out.old) hkl
   subst e'
   have HPX := Lib.hid (fun w' (h : Below w.heap.size w w') => HP.out x (List.mem_of_getElem? hx) w' h)
   have HK := Lib.hid (fun w' (h : Below w.heap.size w w') => el7 cl_Op_len (HR.out _ h) hx rfl)
   have HC := Lib.hid hx
   clear hx
   obtain ⟨b, hb⟩ : ∃ b, f x = b := ⟨_, rfl⟩
   rw [hb] at HPX
   have HBX := Lib.hid hb
   clear hb
   dsimp only [vv_Op] at HPX
   obtain ⟨f0, f1, f2, f3, f4, f5, f6⟩ := HK.out _ S2.out.old
   go_wp2_with fail
   go_at_call 188
   refine (HPX.out _ S2.out.old).mono ?_
   rintro e w3 ⟨rfl, hb⟩
   clear f0 f1 f2 f3 f4 f5 f6
   have S3 := Lib.hid (S2.out.keep hb)
   clear S2
   clear hb
   cases b with
   | true =>
    go_wp2_with fail
    go_ret
    exact ⟨(k : Int), rfl, by rw [← HB.out, L10.any_yes HC.out HBX.out]; exact (decide_eq_true (Int.natCast_nonneg k)).symm, S3.out.old⟩
   | false =>
    go_wp2_with fail
    go_roundw
    case rel => exact ⟨k + 1, by omega, by go_num, And.intro (fun j hj h => by
     by_cases e : j < k
     ·
      exact HA.out j hj e
     ·
      obtain rfl : j = k := by omega
      rw [(List.getElem?_eq_some_iff.1 HC.out).2]; exact HBX.out) S3.out⟩
    case measure => simp [intOf]; omega
  ·
   skip
   go_wp2_with fail
   go_ret
   exact ⟨-1, rfl, by rw [← HB.out, L10.any_no (fun j hj => HA.out j hj (by have := HN.out; omega))]; rfl, S2.out.old⟩
set_option maxHeartbeats 2000000 in
theorem containsFunc_ar (f : Y_Op → Bool) (a : Option Addr) (c : Nat) (xs : List Y_Op) (hl : xs.length ≤ 1048576) (w : World) (hr : Reads w w.heap.size a (xs.flatMap cl_Op)) (hp : ∀ x ∈ xs, ∀ w', Below w.heap.size w w' → Calls Try.prog 188 #[vv_Op x] w' fun e w'' => e = .returned (.bool (f x)) ∧ Below w'.heap.size w' w'') :
  Calls Try.prog 145 #[.slice a xs.length c, .func (.func 188) #[] #[]] w fun e w' => e = .returned (.bool (xs.any f)) ∧ Below w.heap.size w w' := by
 have HIX := Lib.hid (indexFunc_ar f a c xs hl w hr hp)
 obtain ⟨N, hN⟩ : ∃ n, n = xs.length := ⟨_, rfl⟩
 rw [← hN] at HIX ⊢
 obtain ⟨B, hB⟩ : ∃ b, xs.any f = b := ⟨_, rfl⟩
 rw [hB] at HIX ⊢
 clear hN hr hp hl hB
 go_enter Try.func145, Try.ntmps145
 go_wp2_with fail
 go_at_call 201
 refine HIX.out.mono ?_
 rintro e w3 ⟨z, rfl, hz, hb⟩
 by_cases h0 : (0 : Int) ≤ z
 ·
  rw [decide_eq_true h0] at hz
  subst hz
  go_wp2_with fail
  go_ret
  exact ⟨by first | rfl | simp [h0], hb⟩
 ·
  rw [decide_eq_false h0] at hz
  subst hz
  go_wp2_with fail
  go_ret
  exact ⟨by first | rfl | simp [h0], hb⟩
set_option maxHeartbeats 2000000 in
theorem areOps_any (a : Option Addr) (c : Nat) (os : List Y_Op) (hl : os.length ≤ 1048576) (hf : ∀ o ∈ coS_Op os, FitO o) (w : World) (hr : Reads w w.heap.size a (os.flatMap cl_Op)) (hx : RowsRd w w.heap.size (rws_Op os)) :
  Calls Try.prog 131 #[.slice a os.length c] w fun e w' => e = .returned (.bool (okL (coS_Op os))) ∧ Below w.heap.size w w' := by
 have HCF := containsFunc_ar (fun x => !isO (co_Op x)) a c os hl w hr (fun x hm w2 h2 => areOps1_any x (hf _ (by rw [coS_Op_eq]; exact List.mem_map.2 ⟨x, hm, rfl⟩)) w2 (by obtain ⟨j, hj, rfl⟩ := List.mem_iff_getElem.1 hm; exact (((rdOs hx (List.getElem?_eq_getElem hj)).below h2).more h2.size)))
 have HOK := Lib.hid (show okL (coS_Op os) = (decide (os.length ≤ 6) && !(os.any fun x => !isO (co_Op x))) from by unfold okL; rw [coS_len, coS_Op_eq, List.all_map, List.not_any_eq_all_not]; simp [Function.comp_def])
 obtain ⟨B, hB⟩ : ∃ b, (os.any fun x => !isO (co_Op x)) = b := ⟨_, rfl⟩
 rw [hB] at HCF HOK
 obtain ⟨R, hR⟩ : ∃ b, okL (coS_Op os) = b := ⟨_, rfl⟩
 rw [hR] at HOK ⊢
 obtain ⟨N, hN⟩ : ∃ n, n = os.length := ⟨_, rfl⟩
 rw [← hN] at HCF HOK ⊢
 clear hB hR hN hr hx hf hl
 replace HCF := Lib.hid HCF
 have S1 := Lib.hid (show Sl.Sep w w [] from Sl.Sep.start w)
 go_enter Try.func131, Try.ntmps131
 by_cases h6 : N ≤ 6
 rotate_left
 ·
  have h6i : ¬ (N : Int) ≤ 6 := by omega
  have HR := Lib.hid (show R = false from by rw [HOK.out, decide_eq_false h6]; rfl)
  go_wp2_with fail
  go_ret
  exact ⟨by rw [HR.out] <;> rfl, Below.refl _ _⟩
 have h6i : (N : Int) ≤ 6 := by omega
 have HR := Lib.hid (show R = !B from by rw [HOK.out, decide_eq_true h6]; rfl)
 go_wp2_with fail
 go_at_call 145
 refine HCF.out.mono ?_
 rintro e w3 ⟨rfl, hb⟩
 cases B with
 | true =>
  go_wp2_with fail
  go_ret
  exact ⟨by rw [HR.out] <;> rfl, hb⟩
 | false =>
  go_wp2_with fail
  go_ret
  exact ⟨by rw [HR.out] <;> rfl, hb⟩
end Go.Proofs.Ytojcdmgcbgpdmaa.L9

set_option linter.unusedSimpArgs false
namespace Go.Proofs.Ytojcdmgcbgpdmaa.L5
open L4 (boxR push_box box_at)
open Go.ChangeShapes Go.WideShapes Go.ChangeAt Go.RowKit Mem Sl Ex L2 Sv

theorem own_at0 {W w : World} {rs : List Res} {e : TypeId} {k : IntKind} {a : Option Addr} {c : Nat} {l : List Int} (h : Sep W w rs) (i : Nat) (hi : rs[i]? = some (Sl.own e k a c l)) : Own w 0 e k a c l := h.own i hi
theorem sep_ends {W w : World} {r0 r1 r2 r3 r4 : Res} (h : Sep W w [r0, r1, r2, r3, r4]) : Sep W w [r0, r4] :=
 sep_sub h (fun i => i * 4) (fun i r hr => by
  match i, hr with
  | 0, hr => exact hr
  | 1, hr => exact hr
  | i + 2, hr => simp at hr) (fun i j _ _ e => by omega)
set_option maxHeartbeats 4000000 in
theorem encodeRecord_any (a : Option Addr) (c : Nat) (l : List F) (hl : l.length ≤ 1099511627776) (hsm : Small l) (w : World) (hr : Reads w w.heap.size a (cellsF l)) :
  Calls Try.prog 113 #[.agg #[.slice a l.length c]] w (Gave w w.heap.size 5 .u8 (encR l)) := by
 have HR := Lib.hid (fun w' (h : Below w.heap.size w w') => hr.below h)
 have HS := Lib.hid (fun w' (h : Below w.heap.size w w') => isRecord_any a c l hl hsm w' ((hr.below h).more h.size))
 obtain ⟨n, hn⟩ : ∃ n, n = l.length := ⟨_, rfl⟩
 rw [← hn] at hl HS ⊢
 have HN := Lib.hid hn
 clear hn hr hsm
 have hl' : (n : Int) ≤ 1099511627776 := by omega
 obtain ⟨br, hbr⟩ : ∃ b, isR l = b := ⟨_, rfl⟩
 rw [hbr] at HS
 have HBr := Lib.hid hbr
 clear hbr
 have S1 := Lib.hid (push_box (Sep.start w) 31 #[.slice a n c] w.heap.size rfl)
 obtain ⟨W1, hW1⟩ : ∃ u, u = w.alloc (.cells #[.slice a n c] 31) := ⟨_, rfl⟩
 rw [← hW1] at S1
 go_enter Try.func113, Try.ntmps113
 go_upto_region 1 with fail
 rw [← hW1]
 clear hW1
 obtain ⟨r0, r1⟩ := Row.one (box_at S1.out 0 rfl)
 go_wp2_with fail
 go_at_call 100
 refine (HS.out _ S1.out.old).mono ?_
 rintro e w3 ⟨rfl, h3⟩
 have S2 := Lib.hid (S1.out.keep h3)
 clear h3 HS r0 r1 S1
 obtain ⟨r0, r1⟩ := Row.one (box_at S2.out 0 rfl)
 cases br with
 | false =>
  have HE := Lib.hid (show encR l = [] by unfold encR; rw [HBr.out]; rfl)
  go_wp2_with fail
  go_ret
  rw [HE.out]
  exact Gave.mk rfl (Own.empty w3 5 .u8 S2.out.old.size) (below_alloc S2.out.old _ (Nat.le_refl _))
 | true =>
  have HE := Lib.hid (show encR l = enc n ++ encB l by unfold encR; rw [HBr.out, HN.out]; rfl)
  have HI := Lib.hid (isR_iff.1 HBr.out).2
  have HNM := Lib.hid (isR_names HBr.out)
  have HLN := Lib.hid (show ∀ k, (enc n ++ encB (l.take k)).length ≤ 126 from fun k => by
   have h1 := enc_len n
   have h2 := encB_len (l.take k) (fun f hf => HNM.out f (List.mem_of_mem_take hf))
   have h3 : (l.take k).length ≤ l.length := by rw [List.length_take]; exact Nat.min_le_right _ _
   have h4 := HI.out
   rw [List.length_append]
   omega)
  have HC4 := Lib.hid (implAppendUvarint_any none 0 [] n w3 Reads.nil (by simp) (by simp))
  go_wp2_with fail
  go_at_call 132
  refine HC4.out.mono ?_
  rintro e w5 ⟨a5, c5, rfl, ho5, hb5⟩
  have S5 := Lib.hid (S2.out.pushOwn hb5 ho5)
  clear ho5 hb5 HC4 r0 r1
  obtain ⟨r0, r1⟩ := Row.one (box_at S5.out 0 rfl)
  go_wp2_with fail
  clear r0 r1
  go_loopw [3, 17] (fun s i wr => ∃ (k : Nat) (a1 : Option Addr) (c1 n1 : Nat), k ≤ n ∧ i = .int .i64 k ∧ s = .slice a1 n1 c1 ∧ Hid (Sep w wr [boxR w.heap.size 31 #[.slice a n c], own 5 .u8 a1 c1 (enc n ++ encB (l.take k))] ∧ n1 = (enc n ++ encB (l.take k)).length)) (fun _ i _ => n - (intOf i).toNat)
  case atStart => exact ⟨0, _, _, _, Nat.zero_le _, rfl, rfl, And.intro (by simpa [encB] using S5.out) (by simp [encB])⟩
  case round =>
   obtain ⟨k, a1, c1, n1, hk, rfl, rfl, hrel⟩ := hrel
   by_cases hlt : (k : Int) < (n : Int)
   ·
    have hkl : k < l.length := by have := HN.out; omega
    obtain ⟨ad, rfl, had, h1, h2⟩ := readsF (HR.out _ hrel.out.1.old) k hkl
    obtain ⟨t, ht⟩ : ∃ t, t = l[k].name := ⟨_, rfl⟩
    obtain ⟨x, hx⟩ : ∃ m, m = l[k].n := ⟨_, rfl⟩
    have HK := Lib.hid (show encB (l.take (k + 1)) = encB (l.take k) ++ ((enc (L3.strB t).length ++ L3.strB t) ++ enc x) by rw [encB_take l k hkl, ht, hx]; rfl)
    have HTL := Lib.hid (show (L3.strB t).length ≤ 8 by
     have h := HNM.out _ (List.getElem_mem hkl)
     unfold isN at h
     simp only [Bool.and_eq_true, decide_eq_true_eq] at h
     rw [ht]; unfold L3.strB; rw [List.length_map]; exact h.2.2)
    rw [← ht] at h1
    rw [← hx] at h2
    clear ht hx
    obtain ⟨fb, hfb⟩ : ∃ g, g = wr.heap.size := ⟨_, rfl⟩
    have SF := Lib.hid (push_box hrel.out.1 128 #[.string t, .int .i64 x] fb hfb)
    obtain ⟨W2, hW2⟩ : ∃ u, u = wr.alloc (.cells #[.string t, .int .i64 x] 128) := ⟨_, rfl⟩
    rw [← hW2] at SF
    go_upto_region 7 with fail
    rw [← hW2, ← hfb]
    clear hW2 hfb h1 h2 had
    obtain ⟨wd, hwd⟩ : ∃ u, u = W2.drew := ⟨_, rfl⟩
    have SD := Lib.hid (show Sep w wd [boxR w.heap.size 31 #[.slice (some ad) n c], own 5 .u8 a1 c1 (enc n ++ encB (l.take k)), boxR fb 128 #[.string t, .int .i64 x]] by rw [hwd]; exact SF.out.drews 1)
    have HC := Lib.hid (show ∀ w', Below wd.heap.size wd w' → w'.cell? ⟨fb, 0, none⟩ = some (.string t) ∧ w'.cell? ⟨fb, 1, none⟩ = some (.int .i64 x) from fun w' h => Row.two (box_at (SD.out.keep h) 2 rfl))
    have HT := Lib.hid (Lib.run_convert_string_bytes (P := Try.prog) wd 9 22 5 t Try.underlying9 Try.underlying22 Try.underlying5)
    have HT1 := Lib.hid (And.intro (L3.strB_reads wd 5 t) (L3.strB_below wd 5 t))
    obtain ⟨wb, hwb⟩ : ∃ x, x = Lib.bytesWorld wd 5 t := ⟨_, rfl⟩
    obtain ⟨cp, hcp⟩ : ∃ x, x = grownCap wd t.size 0 5 := ⟨_, rfl⟩
    obtain ⟨p, hp⟩ : ∃ p, p = t.size := ⟨_, rfl⟩
    rw [← hwb, ← hcp, ← hp] at HT
    rw [← hwb] at HT1
    have SB := Lib.hid (SD.out.keep HT1.out.2)
    obtain ⟨g, hg⟩ : ∃ g, g = wd.heap.size := ⟨_, rfl⟩
    have HTr := Lib.hid HT1.out.1
    rw [← hg] at HT HTr
    have HP := Lib.hid (show p = (L3.strB t).length by rw [hp, L3.strB_length])
    have HN1 := Lib.hid hrel.out.2
    obtain ⟨X, hX⟩ : ∃ X, X = enc n ++ encB (l.take k) ++ enc (L3.strB t).length ++ L3.strB t := ⟨_, rfl⟩
    obtain ⟨Y, hY⟩ : ∃ Y, Y = X ++ enc x := ⟨_, rfl⟩
    have HY := Lib.hid (show enc n ++ encB (l.take (k + 1)) = Y by rw [HK.out, hY, hX]; simp only [List.append_assoc])
    have HXL := Lib.hid (show X.length ≤ 1000 by
     have h3 := HLN.out k
     have h4 := HTL.out
     have h5 := enc_len (L3.strB t).length
     rw [List.length_append] at h3
     rw [hX, List.length_append, List.length_append, List.length_append]
     omega)
    have H15 := Lib.hid (show ∀ w' a8 c8, Own w' 0 5 .u8 a8 c8 X → Calls Try.prog 132 #[.slice a8 X.length c8, .int .i64 x] w' (Gave w' w'.heap.size 5 .u8 Y) from fun w' a8 c8 ho => by
     rw [hY]
     exact implAppendUvarint_any a8 c8 X x w' ho.reads ho.cap (by have := HXL.out; omega))
    have H8 := Lib.hid (show ∀ w', Reads w' w'.heap.size (some ⟨g, 0, none⟩) (ints .u8 (L3.strB t)) → w' = wb → ∀ c2, Calls Try.prog 178 #[.slice a1 n1 c1, .slice (some ⟨g, 0, none⟩) p c2] w' (Gave w' w'.heap.size 5 .u8 X) from fun w' hr he c2 => by
     subst he
     rw [hX]
     rw [HN1.out, HP.out]
     have h3 := HLN.out k
     have h4 := HTL.out
     have ho := own_at0 SB.out 1 rfl
     exact implAppendBytes_any a1 _ c1 c2 _ _ w' ho.reads hr ho.cap (by omega) (by omega))
    have hcv := HT.out
    have HWD := Lib.hid hwd
    have HGd := Lib.hid hg
    clear hwb hcp hp hg hX hY hwd
    refine wp_region_held_drew (S := (fun w' => w'.cell? ⟨fb, 0, none⟩ = some (.string t) ∧ w'.cell? ⟨fb, 1, none⟩ = some (.int .i64 x))) (by kernel_rfl) (by rw [← HWD.out]; exact HC.out _ (Below.refl _ _)) (fun hS => ?_)
    rw [← HWD.out] at hS ⊢
    refine tk 0 rfl ?_
    try simp only [zp0, zp1, zp2, zp3, zp4]
    refine tk 1 rfl ?_
    try simp only [zp0, zp1, zp2, zp3, zp4]
    refine tk 2 rfl ?_
    try simp only [zp0, zp1, zp2, zp3, zp4]
    refine tk 5 rfl ?_
    try simp only [zp0, zp1, zp2, zp3, zp4]
    refine tk 6 rfl ?_
    try simp only [zp0, zp1, zp2, zp3, zp4]
    refine Reg.one_op (i := 3) rfl (by kernel_rfl) (fun K hK => ?_)
    go_simp
    refine hK.out _ _ (HC.out _ HT1.out.2) (fun hS => ?_)
    clear hK K
    try simp only [zp0, zp1, zp2, zp3, zp4]
    refine Reg.one_op (i := 4) rfl (by kernel_rfl) (fun K hK => ?_)
    go_simp
    go_at_call 178
    refine (H8.out _ HTr.out rfl _).mono ?_
    rintro e w8 ⟨a8, c8, rfl, ho8, hb8⟩
    have HO8 := Lib.hid (And.intro ho8 (HT1.out.2.trans (hb8.mono HT1.out.2.size)))
    have S8 := Lib.hid (SB.out.pushOwn hb8 ho8)
    clear ho8 hb8
    go_wp2_with fail
    refine hK.out _ _ (HC.out _ HO8.out.2) (fun hS => ?_)
    clear hK K
    try simp only [zp0, zp1, zp2, zp3, zp4]
    refine Reg.one_op (i := 7) rfl (by kernel_rfl) (fun K hK => ?_)
    go_simp
    go_at_call 132
    refine (H15.out _ _ _ (own_at0 S8.out 3 rfl)).mono ?_
    rintro e w9 ⟨a9, c9, rfl, ho9, hb9⟩
    have HO9 := Lib.hid (HO8.out.2.trans (hb9.mono HO8.out.2.size))
    have S9 := Lib.hid (S8.out.pushOwn hb9 ho9)
    clear ho9 hb9
    go_wp2_with fail
    refine hK.out _ _ (HC.out _ HO9.out) (fun hS => ?_)
    clear hK K
    try simp only [zp0, zp1, zp2, zp3, zp4]
    refine tk 8 rfl ?_
    try simp only [zp0, zp1, zp2, zp3, zp4]
    refine wpAnyH_done (by kernel_rfl) ?_ _
    go_wp2_with fail
    go_roundw
    case rel => exact ⟨k + 1, _, _, _, by omega, by go_num, rfl, And.intro (by rw [HY.out]; exact sep_ends S9.out) (by rw [HY.out])⟩
    case measure => simp [intOf]; omega
   ·
    go_wp2_with fail
    go_ret
    obtain rfl : k = n := by omega
    have e1 : l.take k = l := by rw [HN.out, List.take_length]
    obtain ⟨ho, h3⟩ := hrel.out
    rw [e1] at ho h3
    rw [HE.out]
    exact Gave.mk h3 (ho.ownAt 1 rfl) ho.old
end Go.Proofs.Ytojcdmgcbgpdmaa.L5

namespace Go.Proofs.Ytojcdmgcbgpdmaa.L4
open Go.Op (bytesLess)
open Go.ChangeShapes Go.WideShapes Go.ChangeAt Go.RowKit Mem Sl Ex L2

def numCells (m : Nat) : Array Value := #[.int .u8 ((m / 1099511627776 % 256 : Nat) : Int), .int .u8 ((m / 4294967296 % 256 : Nat) : Int), .int .u8 ((m / 16777216 % 256 : Nat) : Int), .int .u8 ((m / 65536 % 256 : Nat) : Int), .int .u8 ((m / 256 % 256 : Nat) : Int), .int .u8 ((m / 1 % 256 : Nat) : Int)]

set_option maxHeartbeats 2000000 in
theorem encodeNumber_any (n : Int) (m : Nat) (hm : (m : Int) = n + 1000000000000) (h1 : n ≤ 1000000000000) (w : World) :
  Calls Try.prog 174 #[.int .i64 n] w fun e w' => e = .returned (.agg (numCells m)) ∧ Below w.heap.size w w' := by
 obtain ⟨M, hM⟩ : ∃ M : Int, M = n + 1000000000000 := ⟨_, rfl⟩
 have hM0 : 0 ≤ M := by omega
 have hM1 : M ≤ 2000000000000 := by omega
 go_enter Try.func174, Try.ntmps174
 go_wp2
 refine wp_loop_rounds 7 ?_
 iterate 7 (rw [rounds_succ]; go_wp2)
 refine bodyPost_ret (v := .agg _) (by simp [results, Try.results174, go_sem]; rfl) rfl ?_
 refine ⟨?_, below_alloc (below_alloc (Below.refl _ _) _ (Nat.le_refl _)) _ (Nat.le_refl _)⟩
 have e0 : (n + 1000000000000) / 256 / 256 / 256 / 256 / 256 = ((m / 1099511627776 % 256 : Nat) : Int) := by omega
 have e1 : (n + 1000000000000) / 256 / 256 / 256 / 256 % 256 = ((m / 4294967296 % 256 : Nat) : Int) := by omega
 have e2 : (n + 1000000000000) / 256 / 256 / 256 % 256 = ((m / 16777216 % 256 : Nat) : Int) := by omega
 have e3 : (n + 1000000000000) / 256 / 256 % 256 = ((m / 65536 % 256 : Nat) : Int) := by omega
 have e4 : (n + 1000000000000) / 256 % 256 = ((m / 256 % 256 : Nat) : Int) := by omega
 have e5 : (n + 1000000000000) % 256 = ((m / 1 % 256 : Nat) : Int) := by omega
 rw [e0, e1, e2, e3, e4, e5]
 rfl

theorem numCells_form (m : Nat) : ∃ x0 x1 x2 x3 x4 x5 : Int, numCells m = #[.int .u8 x0, .int .u8 x1, .int .u8 x2, .int .u8 x3, .int .u8 x4, .int .u8 x5] ∧ toI (be 6 m) = [x0, x1, x2, x3, x4, x5] := by
 refine ⟨_, _, _, _, _, _, rfl, ?_⟩
 simp only [be, toI, List.map_cons, List.map_nil, UInt8.toNat_ofNat', show (256 ^ 5 : Nat) = 1099511627776 from rfl, show (256 ^ 4 : Nat) = 4294967296 from rfl, show (256 ^ 3 : Nat) = 16777216 from rfl, show (256 ^ 2 : Nat) = 65536 from rfl, show (256 ^ 1 : Nat) = 256 from rfl, show (256 ^ 0 : Nat) = 1 from rfl, Nat.mod_mod]
theorem reads_row {w : World} {g : Nat} {t : TypeId} {k : IntKind} {l : List Int} (h : Row w g t (ints k l).toArray) : Reads w w.heap.size (some ⟨g, 0, none⟩) (ints k l) := fun j hj => by
 refine ⟨_, rfl, by simpa [add_block] using h.inside, ?_⟩
 rw [Addr.add_lit, h.cell]
 simp [List.getElem?_eq_getElem hj]

section
variable {P : Program} (w : World)
theorem wpList_append_str {ops : Array Oper} {rest : List Oper} {o : Oper} {act : Act} {Q : Exit → Act → World → Prop} (hgd : o.guard = none) (sl x : Operand) (t u : TypeId)
  (ho : o.op = .call { callee := .builtin .append, args := #[sl, x], argTypes := #[t, u] })
  (B : Nat) (e : TypeId) (i : TypeInfo) (ht : P.underlying t = some (.slice e)) (hu : P.underlying u = some .string) (hi : P.info? e = some i) (hz : i.zero = some (.int .u8 0))
  (hsize : i.size = 1) (hby : i.bytes = 1) (a : Option Addr) (n c : Nat) (l : List Int) (hs : act.eval sl = .slice a n c) (hn : n = l.length) (hown : Own w B e .u8 a c l) (s : ByteArray) (hx : act.eval x = .string s)
  (h63 : l.length + s.size ≤ maxLen) (hbytes : l.length + s.size ≤ 140737488355328) (hbase : B ≤ w.heap.size)
  (h : ∀ a1 c1 w', Own w' B e .u8 a1 c1 (l ++ L3.strB s) → w.grownBy w' (Value.slice a l.length c).ownBlock → wpList P ops Q rest (act.put o.dst (.slice a1 (l.length + s.size) c1)) w') : wpList P ops Q (o :: rest) act w := by
 subst hn
 have hsc : ints .u8 l ++ Lib.strCells s = ints .u8 (l ++ L3.strB s) := by
  rw [ints_append]
  congr 1
  unfold Lib.strCells ints L3.strB
  rw [List.map_map]
  rfl
 refine Lib.wpList_append_own_string w hgd sl x t u ho B e i ht hu hi hz hsize hby _ l.length (ints .u8 l) hs hown s hx h63 hbytes hbase ?_
 intro v' w' h2 h3 _
 rw [hsc] at h2
 rcases h2.2 with ⟨rfl, hn⟩ | ⟨g, cap, cur, rfl, _⟩
 ·
  have h0 : Own w' B e .u8 none 0 (l ++ L3.strB s) := by
   unfold Own
   rw [List.length_append, L3.strB_length, hn]
   rw [hn] at h2
   exact h2
  have := h none 0 w' h0 h3
  rw [hn] at this
  exact this
 ·
  refine h _ cap w' ?_ h3
  unfold Own
  rw [List.length_append, L3.strB_length]
  exact h2
end

set_option maxHeartbeats 2000000 in
theorem implEncodeKey_any (k : K) (hs : k.text.size ≤ 1099511627776) (w : World) :
  Calls Try.prog 112 #[k.v] w (Gave w w.heap.size 5 .u8 (toI (encU k))) := by
 obtain ⟨i0, hi, hz0, hz1, hz2⟩ := infoOf _ _ _ _ info8
 obtain ⟨w2, hw2⟩ : ∃ w2, w2 = w.alloc (.cells k.cells 28) := ⟨_, rfl⟩
 have ba : Box w2 w.heap.size 28 k := by rw [hw2]; exact Box.made w _ k
 have hbl : Below w.heap.size w w2 := by rw [hw2]; exact below_alloc (Below.refl _ _) _ (Nat.le_refl _)
 have H1 := Lib.hid (fun w => implIsKey_any k (by omega) w)
 obtain ⟨ia, hia⟩ : ∃ x, isK k = x := ⟨_, rfl⟩
 rw [hia] at H1
 obtain ⟨kd, n, s⟩ := k
 simp only [K.v, K.cells] at H1 hw2 hs ⊢
 go_enter Try.func112, Try.ntmps112
 go_wp2_with fail
 go_at_call 99
 rw [← hw2]
 refine (H1.out w2).mono ?_
 rintro e w3 ⟨rfl, h3⟩
 have BA := Lib.hid (And.intro (ba.below h3) (hbl.trans (h3.mono hbl.size)))
 have hsz : w.heap.size + 1 ≤ w3.heap.size := by have := h3.size; rw [hw2] at this; simpa using this
 clear hw2 ba hbl h3 H1
 cases ia with
 | false =>
  have HE := Lib.hid (show toI (encU ⟨kd, n, s⟩) = [] by unfold encU; rw [hia]; rfl)
  go_wp2_with fail
  go_ret
  rw [HE.out]
  exact Gave.mk rfl (Own.empty w3 5 .u8 BA.out.2.size) (below_alloc BA.out.2 _ (Nat.le_refl _))
 | true =>
  have g := isK_iff.1 hia
  have k0 : 1 ≤ kd := g.k0
  have k1 : kd ≤ 3 := g.k1
  have n0 : -1000000000000 ≤ n := g.n0
  have n1 : n ≤ 1000000000000 := g.n1
  obtain ⟨b0, b1, b2⟩ := BA.out.1.facts
  obtain ⟨d0, d1, d2⟩ := (BA.out.1.more (.cells #[.int .u8 kd] 5)).facts
  have H3 := Lib.hid (And.intro (L3.own_lit w3 5 .u8 [kd] hsz (by simp [maxLen])) (below_alloc (Below.refl (w.heap.size + 1) w3) (.cells #[.int .u8 kd] 5) hsz))
  obtain ⟨m, hm⟩ : ∃ m : Nat, (m : Int) = n + 1000000000000 := ⟨(n + 1000000000000).toNat, by omega⟩
  have HM := Lib.hid hm
  clear hm
  by_cases hk : kd = 2
  ·
   subst hk
   have HE := Lib.hid (show toI (encU ⟨2, n, s⟩) = [2] ++ L3.strB s by rw [encU_good hia]; rfl)
   go_wp2_with (at_builtin; refine wpList_append_str _ rfl _ _ 22 9 rfl (w.heap.size + 1) 5 i0 Try.underlying22 Try.underlying9 hi hz0 hz1 hz2 _ _ _ ([2]) rfl rfl H3.out.1 s rfl (by unfold maxLen; simp; omega) (by simp; omega) (Nat.le_trans hsz (by simp)) ?_; intro a9 c9 w9 ho9 hg9)
   go_ret
   rw [HE.out]
   refine Gave.mk (by simp [L3.strB_length]; omega) (ho9.base (Nat.le_succ _)) ?_
   have q2 := BA.out.2.trans (H3.out.2.mono (Nat.le_succ _))
   exact q2.trans ((below_own H3.out.1 hg9 (Nat.le_trans hsz H3.out.2.size)).mono (Nat.le_succ _))
  ·
   have HE := Lib.hid (show toI (encU ⟨kd, n, s⟩) = (kd :: toI (be 6 m)) ++ L3.strB s by
    rw [encU_good hia]
    have e1 : num6 ⟨kd, n, s⟩ = be 6 m := by unfold num6; rw [if_neg hk, ← HM.out]; rfl
    rw [e1]
    simp only [toI, List.map_cons, List.map_append, UInt8.toNat_ofNat', List.cons_append]
    congr 1
    show (((kd.toNat % 2 ^ 8 : Nat)) : Int) = kd
    omega)
   obtain ⟨w4, hw4⟩ : ∃ x, x = w3.alloc (.cells #[.int .u8 kd] 5) := ⟨_, rfl⟩
   have o4 : Own w4 (w.heap.size + 1) 5 .u8 (some ⟨w3.heap.size, 0, none⟩) 1 [kd] := by rw [hw4]; exact H3.out.1
   have b4 : Below (w.heap.size + 1) w3 w4 := by rw [hw4]; exact H3.out.2
   have bx4 : Box w4 w.heap.size 28 ⟨kd, n, s⟩ := by rw [hw4]; exact BA.out.1.more _
   have HN := Lib.hid (encodeNumber_any n m HM.out n1)
   go_wp2_with fail
   go_at_call 174
   rw [← hw4]
   clear hw4 b0 b1 b2 d0 d1 d2
   refine (HN.out w4).mono ?_
   rintro e w5 ⟨rfl, h5⟩
   obtain ⟨x0, x1, x2, x3, x4, x5, hnc, hnl⟩ := numCells_form m
   rw [hnc]
   have hsz4 : w.heap.size + 1 ≤ w4.heap.size := Nat.le_trans hsz b4.size
   have q5 := b4.trans (h5.mono hsz4)
   have R6 : Row (w5.alloc (.cells #[.int .u8 x0, .int .u8 x1, .int .u8 x2, .int .u8 x3, .int .u8 x4, .int .u8 x5] 190)) w5.heap.size 190 (ints .u8 (toI (be 6 m))).toArray := by
    rw [hnl]
    exact Row.made w5 _ _
   have r6 := reads_row R6
   have bx6 := (bx4.below h5).more (.cells #[.int .u8 x0, .int .u8 x1, .int .u8 x2, .int .u8 x3, .int .u8 x4, .int .u8 x5] 190)
   have o6 := own_alloc (o4.below h5) (.cells #[.int .u8 x0, .int .u8 x1, .int .u8 x2, .int .u8 x3, .int .u8 x4, .int .u8 x5] 190)
   have hsz5 : w.heap.size + 1 ≤ w5.heap.size := Nat.le_trans hsz4 h5.size
   have q6 := below_alloc q5 (.cells #[.int .u8 x0, .int .u8 x1, .int .u8 x2, .int .u8 x3, .int .u8 x4, .int .u8 x5] 190) hsz
   have hsz6 : w.heap.size + 1 ≤ (w5.alloc (.cells #[.int .u8 x0, .int .u8 x1, .int .u8 x2, .int .u8 x3, .int .u8 x4, .int .u8 x5] 190)).heap.size := Nat.le_trans hsz5 (by simp)
   have S := Lib.hid (And.intro r6 (And.intro bx6 (And.intro o6 (And.intro hsz6 q6))))
   clear R6 r6 bx6 o6 hsz6 q6 q5 h5 o4 b4 bx4 hnc hnl H3 hsz4 hsz5
   have hszw := hsz
   go_wp2_with (first
    | (at_builtin; refine wpList_append_src _ rfl _ _ 22 rfl (w.heap.size + 1) 5 i0 (.int .u8 0) 1 Try.underlying22 hi hz0 hz1 hz2 rfl .u8 _ _ _ ([kd]) rfl rfl S.out.2.2.1 _ _ _ _ (toI (be 6 m)) rfl (by simp) S.out.1 (by simp [maxLen]) (by simp) S.out.2.2.2.1 ?_; intro a7 c7 w7 ho7 hg7; have q7 := S.out.2.2.2.2.trans (below_own S.out.2.2.1 hg7 S.out.2.2.2.1); have bx7 := Row.below S.out.2.1 (below_own S.out.2.2.1 hg7 S.out.2.2.2.1) (Nat.lt_succ_self _); obtain ⟨b0, b1, b2⟩ := Box.facts bx7)
    | (at_builtin; refine wpList_append_str _ rfl _ _ 22 9 rfl (w.heap.size + 1) 5 i0 Try.underlying22 Try.underlying9 hi hz0 hz1 hz2 _ 7 _ (kd :: toI (be 6 m)) rfl (by simp) ho7 s rfl (by unfold maxLen; simp; omega) (by simp; omega) (Nat.le_trans hszw q7.size) ?_; intro a9 c9 w9 ho9 hg9))
   go_ret
   rw [HE.out]
   refine Gave.mk (by simp [L3.strB_length]; omega) (ho9.base (Nat.le_succ _)) ?_
   have q2 := BA.out.2.trans (q7.mono (Nat.le_succ _))
   exact q2.trans ((below_own ho7 hg9 (Nat.le_trans hszw q7.size)).mono (Nat.le_succ _))
end Go.Proofs.Ytojcdmgcbgpdmaa.L4

set_option linter.unusedSimpArgs false
namespace Go.Proofs.Ytojcdmgcbgpdmaa.L9
open V L6
open L4 (K isK cmpK)
open L5 (F isR isN string_geq)
open Go.Op (bytesLess)
open Go.ChangeShapes Go.WideShapes Go.ChangeAt Go.RowKit Mem Sl Ex L2 Sv Bag
open L2 Ex
open L4 (encU toI toU)
open L5 (encR)

set_option maxHeartbeats 8000000 in
theorem appendOp_any (a : Option Addr) (c : Nat) (l : List Int) (o : Y_Op) (hf : FitO (co_Op o)) (ho : isO (co_Op o) = true) (hl : l.length ≤ 500000000) (hc : l.length ≤ c) (w : World) (hrl : Reads w w.heap.size a (ints .u8 l)) (hr : RowsRd w w.heap.size (rw_Op o)) :
  Calls Try.prog 133 #[.slice a l.length c, vv_Op o] w (Gave w w.heap.size 5 .u8 (l ++ encO (co_Op o))) := by
 have HRL := Lib.hid (fun w' (h : Below w.heap.size w w') => ((hrl.below h).more h.size : Reads w' w'.heap.size a (ints .u8 l)))
 have hxb := hl
 have HV := Lib.hid ho
 clear hrl ho
 have HRR := Lib.hid (fun w' (h : Below w.heap.size w w') => (((rdO hr).below h).more h.size : Reads w' w'.heap.size o.f_Record.a (L5.cellsF o.f_Record.l)))
 have HFO := Lib.hid (show FitO ⟨o.f_Kind, o.f_Store, o.f_Key, o.f_Record.l, o.f_Field⟩ from hf)
 clear hf hr
 obtain ⟨kd, st, ⟨kk, kn, kt⟩, ⟨ra, rc, rl⟩, fd⟩ := o
 try unfold vv_Op
 dsimp only at HRR HFO ⊢
 replace HV := Lib.hid (show isO (⟨kd, st, ⟨kk, kn, kt⟩, rl, fd⟩ : X_Op) = true from HV.out)
 show Calls _ _ _ _ (Gave _ _ _ _ (l ++ encO (⟨kd, st, ⟨kk, kn, kt⟩, rl, fd⟩ : X_Op)))
 have HEK := fun w => L4.implEncodeKey_any (⟨kk, kn, kt⟩ : K) (by have h : kt.size ≤ 1099511627776 := HFO.out.text; show kt.size ≤ _; omega) w
 skip
 unfold L4.K.v at HEK
 dsimp only at HEK
 have HER := fun w' (h : Below w.heap.size w w') => L5.encodeRecord_any ra rc rl (by have h : rl.length ≤ 1048576 := HFO.out.len; omega) HFO.out.small w' (HRR.out w' h)
 have hpt := isO_parts HV.out
 have HPS := Lib.hid (show (L3.strB st).length ≤ 8 from hpt.store)
 have HPF := Lib.hid (show (L3.strB fd).length ≤ 8 from hpt.field)
 have hpk : (toI (encU (⟨kk, kn, kt⟩ : K))).length ≤ 50 := hpt.key
 have hpr : (encR rl).length ≤ 160 := hpt.record
 obtain ⟨KB, hKB⟩ : ∃ x, toI (encU (⟨kk, kn, kt⟩ : K)) = x := ⟨_, rfl⟩
 obtain ⟨RB, hRB⟩ : ∃ x, encR rl = x := ⟨_, rfl⟩
 rw [hKB] at hpk
 rw [hRB] at hpr
 have HPK := Lib.hid hpk
 have HPR := Lib.hid hpr
 clear hpt hpk hpr
 obtain ⟨X1, hX1⟩ : ∃ x, l ++ enc kd = x := ⟨_, rfl⟩
 have hl1 : X1.length ≤ 500000300 := by rw [← hX1, List.length_append]; have h1 := enc_len kd; omega
 obtain ⟨X2, hX2⟩ : ∃ x, X1 ++ bsB (L3.strB st) = x := ⟨_, rfl⟩
 have hl2 : X2.length ≤ 500000600 := by rw [← hX2, List.length_append]; have h1 := bsB_len (L3.strB st); have h2 := HPS.out; omega
 obtain ⟨X3, hX3⟩ : ∃ x, X2 ++ bsB KB = x := ⟨_, rfl⟩
 have hl3 : X3.length ≤ 500000900 := by rw [← hX3, List.length_append]; have h1 := bsB_len (KB); have h2 := HPK.out; omega
 obtain ⟨X4, hX4⟩ : ∃ x, X3 ++ bsB RB = x := ⟨_, rfl⟩
 have hl4 : X4.length ≤ 500001200 := by rw [← hX4, List.length_append]; have h1 := bsB_len (RB); have h2 := HPR.out; omega
 obtain ⟨X5, hX5⟩ : ∃ x, X4 ++ bsB (L3.strB fd) = x := ⟨_, rfl⟩
 have hl5 : X5.length ≤ 500001500 := by rw [← hX5, List.length_append]; have h1 := bsB_len (L3.strB fd); have h2 := HPF.out; omega
 have HNX := Lib.hid (show l ++ encO (⟨kd, st, ⟨kk, kn, kt⟩, rl, fd⟩ : X_Op) = X5 from by rw [← hX5, ← hX4, ← hX3, ← hX2, ← hX1, ← hKB, ← hRB]; unfold encO; simp only [List.append_assoc])
 have HXX := Lib.hid (And.intro hX1 (And.intro hX2 (And.intro hX3 (And.intro hX4 hX5))))
 clear hX1 hX2 hX3 hX4 hX5
 have HLL := Lib.hid (And.intro hl1 (And.intro hl2 (And.intro hl3 (And.intro hl4 hl5))))
 clear hl1 hl2 hl3 hl4 hl5
 rw [hKB] at HEK
 rw [hRB] at HER
 replace HEK := Lib.hid HEK
 replace HER := Lib.hid HER
 clear hKB hRB
 rw [HNX.out]
 clear HNX
 have HXB := Lib.hid hxb
 have HCP := Lib.hid hc
 clear hxb hl hc HV
 obtain ⟨L, hL⟩ : ∃ n, n = l.length := ⟨_, rfl⟩
 have HLN := Lib.hid hL
 rw [← hL]
 clear hL
 have S1 := Lib.hid (show Sl.Sep w _ [_] from L4.push_box (Sl.Sep.start w) 148 #[.int .i64 kd, .string st, .int .i64 kk, .int .i64 kn, .string kt, .slice ra rl.length rc, .string fd] (w.heap.size) (by simp))
 obtain ⟨wa, hwa⟩ : ∃ w_, w_ = (w.alloc (.cells #[.int .i64 kd, .string st, .int .i64 kk, .int .i64 kn, .string kt, .slice ra rl.length rc, .string fd] 148)) := ⟨_, rfl⟩
 rw [← hwa] at S1
 go_enter Try.func133, Try.ntmps133
 go_upto_region 1 with fail
 rw [← hwa]
 clear hwa
 obtain ⟨f0, f1, f2, f3, f4, f5, f6⟩ := Bag.cs7 S1.out 0 rfl
 go_wp2_with fail
 go_at_call 132
 refine (impl_num S1.out (kd) X1 (HRL.out _ S1.out.old) HCP.out HLN.out (by have := HXB.out; omega) HXX.out.1).mono ?_
 rintro e w1 ⟨b1a, b1c, rfl, ho, hb⟩
 clear f0 f1 f2 f3 f4 f5 f6
 have S2 := Lib.hid (show Sl.Sep w _ [_, Sl.own 5 .u8 b1a b1c X1] from Sl.Sep.pushOwn S1.out hb ho)
 clear S1
 clear hb ho
 obtain ⟨f0, f1, f2, f3, f4, f5, f6⟩ := Bag.cs7 S2.out 0 rfl
 go_upto_region 2 with fail
 go_cut [23, 24] (fun z y wx => ∃ (gs : Nat) (ka1 : Option Addr) (kc1 : Nat) (ra1 : Option Addr) (rc1 : Nat) (gf ss sf : Nat), z = .agg #[.slice (some ⟨gs, 0, none⟩) st.size ss, .slice ka1 KB.length kc1, .slice ra1 RB.length rc1, .slice (some ⟨gf, 0, none⟩) fd.size sf] ∧ y = .int .i64 0 ∧ Hid (Sl.Sep w wx [Sl.own 5 .u8 b1a b1c X1, conv gs (L3.strB st), Sl.own 5 .u8 ka1 kc1 KB, Sl.own 5 .u8 ra1 rc1 RB, conv gf (L3.strB fd)]))
 case first =>
  clear f0 f1 f2 f3 f4 f5 f6
  obtain ⟨f0, f1, f2, f3, f4, f5, f6⟩ := Bag.cs7 S2.out 0 rfl
  clear f0 f1 f2 f3 f4 f5 f6
  refine wp_region_held_drew (S := (fun w' => (w'.cell? ⟨w.heap.size, 0, none⟩ = some (.int .i64 kd) ∧ w'.cell? ⟨w.heap.size, 1, none⟩ = some (.string st) ∧ w'.cell? ⟨w.heap.size, 2, none⟩ = some (.int .i64 kk) ∧ w'.cell? ⟨w.heap.size, 3, none⟩ = some (.int .i64 kn) ∧ w'.cell? ⟨w.heap.size, 4, none⟩ = some (.string kt) ∧ w'.cell? ⟨w.heap.size, 5, none⟩ = some (.slice ra rl.length rc) ∧ w'.cell? ⟨w.heap.size, 6, none⟩ = some (.string fd)))) (by kernel_rfl) (Bag.cs7 (Bag.drew1 S2.out) 0 rfl) (fun hS => ?_)
  have S3 := Lib.hid (Bag.drew1 S2.out)
  clear S2
  generalize World.drew _ = w2 at hS S3 ⊢
  refine tk 0 rfl ?_
  try simp only [zp0, zp1, zp2, zp3, zp4]
  refine tk 1 rfl ?_
  try simp only [zp0, zp1, zp2, zp3, zp4]
  refine tk 3 rfl ?_
  try simp only [zp0, zp1, zp2, zp3, zp4]
  refine tk 4 rfl ?_
  try simp only [zp0, zp1, zp2, zp3, zp4]
  refine tk 6 rfl ?_
  try simp only [zp0, zp1, zp2, zp3, zp4]
  refine tk 7 rfl ?_
  try simp only [zp0, zp1, zp2, zp3, zp4]
  refine tk 9 rfl ?_
  try simp only [zp0, zp1, zp2, zp3, zp4]
  refine tk 10 rfl ?_
  try simp only [zp0, zp1, zp2, zp3, zp4]
  refine tk 13 rfl ?_
  try simp only [zp0, zp1, zp2, zp3, zp4]
  refine wpAnyH_ready (rs := [2, 5, 11]) (by kernel_rfl) (by simp) ?_
  refine Reg.cons_op (i := 2) rfl (fun K hK => ?_) ?_
  ·
   skip
   have hcv := Lib.run_convert_string_bytes (P := Try.prog) w2 9 22 5 st Try.underlying9 Try.underlying22 Try.underlying5
   go_simp
   have S4 := Lib.hid (show Sl.Sep w _ [_, _, conv w2.heap.size (L3.strB st)] from push_conv S3.out st)
   clear S3
   clear hcv
   obtain ⟨g1, hg⟩ : ∃ g', g' = w2.heap.size := ⟨_, rfl⟩
   rw [← hg] at S4 ⊢
   clear hg
   generalize Lib.bytesWorld w2 5 st = w3 at S4 ⊢
   refine hK.out _ _ (Bag.cs7 S4.out 0 rfl) (fun hS => ?_)
   clear hK K
   try simp only [zp0, zp1, zp2, zp3, zp4]
   refine wpAnyH_ready (rs := [5, 11]) (by kernel_rfl) (by simp) ?_
   refine Reg.cons_op (i := 5) rfl (fun K hK => ?_) ?_
   ·
    skip
    go_simp
    go_at_call 112
    refine (HEK.out _).mono ?_
    rintro e w4 ⟨ka, kc, rfl, ho, hb⟩
    have S5 := Lib.hid (show Sl.Sep w _ [_, _, conv g1 (L3.strB st), Sl.own 5 .u8 ka kc KB] from Sl.Sep.pushOwn S4.out hb ho)
    clear S4
    clear hb ho
    go_wp2_with fail
    refine hK.out _ _ (Bag.cs7 S5.out 0 rfl) (fun hS => ?_)
    clear hK K
    try simp only [zp0, zp1, zp2, zp3, zp4]
    refine wpAnyH_ready (rs := [8, 11]) (by kernel_rfl) (by simp) ?_
    refine Reg.cons_op (i := 8) rfl (fun K hK => ?_) ?_
    ·
     skip
     go_simp
     go_at_call 113
     refine (HER.out _ S5.out.old).mono ?_
     rintro e w5 ⟨rea, rec_, rfl, ho, hb⟩
     have S6 := Lib.hid (show Sl.Sep w _ [_, _, _, _, Sl.own 5 .u8 rea rec_ RB] from Sl.Sep.pushOwn S5.out hb ho)
     clear S5
     clear hb ho
     go_wp2_with fail
     refine hK.out _ _ (Bag.cs7 S6.out 0 rfl) (fun hS => ?_)
     clear hK K
     try simp only [zp0, zp1, zp2, zp3, zp4]
     refine Reg.one_op (i := 11) rfl (by kernel_rfl) (fun K hK => ?_)
     have hcv := Lib.run_convert_string_bytes (P := Try.prog) w5 9 22 5 fd Try.underlying9 Try.underlying22 Try.underlying5
     go_simp
     have S7 := Lib.hid (show Sl.Sep w _ [_, _, _, _, _, conv w5.heap.size (L3.strB fd)] from push_conv S6.out fd)
     clear S6
     clear hcv
     obtain ⟨g2, hg⟩ : ∃ g', g' = w5.heap.size := ⟨_, rfl⟩
     rw [← hg] at S7 ⊢
     clear hg
     generalize Lib.bytesWorld w5 5 fd = w6 at S7 ⊢
     refine hK.out _ _ (Bag.cs7 S7.out 0 rfl) (fun hS => ?_)
     clear hK K
     try simp only [zp0, zp1, zp2, zp3, zp4]
     refine tk 12 rfl ?_
     try simp only [zp0, zp1, zp2, zp3, zp4]
     refine wpAnyH_done (by kernel_rfl) ?_ _
     obtain ⟨f0, f1, f2, f3, f4, f5, f6⟩ := Bag.cs7 S7.out 0 rfl
     clear f0 f1 f2 f3 f4 f5 f6
     have S8 := Lib.hid (show Sl.Sep w _ [_, _, _, _, conv g2 (L3.strB fd)] from Bag.take S7.out [1, 2, 3, 4, 5] (by rfl) (by decide))
     clear S7
     go_wp2_with fail
     go_meet
     case rel => exact ⟨g1, ka, kc, rea, rec_, g2, _, _, rfl, rfl, S8.out⟩
    refine Reg.cons_op (i := 11) rfl (fun K hK => ?_) ?_
    ·
     skip
     have hcv := Lib.run_convert_string_bytes (P := Try.prog) w4 9 22 5 fd Try.underlying9 Try.underlying22 Try.underlying5
     go_simp
     have S6 := Lib.hid (show Sl.Sep w _ [_, _, _, _, conv w4.heap.size (L3.strB fd)] from push_conv S5.out fd)
     clear S5
     clear hcv
     obtain ⟨g2, hg⟩ : ∃ g', g' = w4.heap.size := ⟨_, rfl⟩
     rw [← hg] at S6 ⊢
     clear hg
     generalize Lib.bytesWorld w4 5 fd = w5 at S6 ⊢
     refine hK.out _ _ (Bag.cs7 S6.out 0 rfl) (fun hS => ?_)
     clear hK K
     try simp only [zp0, zp1, zp2, zp3, zp4]
     refine Reg.one_op (i := 8) rfl (by kernel_rfl) (fun K hK => ?_)
     go_simp
     go_at_call 113
     refine (HER.out _ S6.out.old).mono ?_
     rintro e w6 ⟨rea, rec_, rfl, ho, hb⟩
     have S7 := Lib.hid (show Sl.Sep w _ [_, _, _, _, conv g2 (L3.strB fd), Sl.own 5 .u8 rea rec_ RB] from Sl.Sep.pushOwn S6.out hb ho)
     clear S6
     clear hb ho
     go_wp2_with fail
     refine hK.out _ _ (Bag.cs7 S7.out 0 rfl) (fun hS => ?_)
     clear hK K
     try simp only [zp0, zp1, zp2, zp3, zp4]
     refine tk 12 rfl ?_
     try simp only [zp0, zp1, zp2, zp3, zp4]
     refine wpAnyH_done (by kernel_rfl) ?_ _
     obtain ⟨f0, f1, f2, f3, f4, f5, f6⟩ := Bag.cs7 S7.out 0 rfl
     clear f0 f1 f2 f3 f4 f5 f6
     have S8 := Lib.hid (show Sl.Sep w _ [_, _, _, _, _] from Bag.take S7.out [1, 2, 3, 5, 4] (by rfl) (by decide))
     clear S7
     go_wp2_with fail
     go_meet
     case rel => exact ⟨g1, ka, kc, rea, rec_, g2, _, _, rfl, rfl, S8.out⟩
    exact AllReadyH.nil
   refine Reg.cons_op (i := 11) rfl (fun K hK => ?_) ?_
   ·
    skip
    have hcv := Lib.run_convert_string_bytes (P := Try.prog) w3 9 22 5 fd Try.underlying9 Try.underlying22 Try.underlying5
    go_simp
    have S5 := Lib.hid (show Sl.Sep w _ [_, _, conv g1 (L3.strB st), conv w3.heap.size (L3.strB fd)] from push_conv S4.out fd)
    clear S4
    clear hcv
    obtain ⟨g2, hg⟩ : ∃ g', g' = w3.heap.size := ⟨_, rfl⟩
    rw [← hg] at S5 ⊢
    clear hg
    generalize Lib.bytesWorld w3 5 fd = w4 at S5 ⊢
    refine hK.out _ _ (Bag.cs7 S5.out 0 rfl) (fun hS => ?_)
    clear hK K
    try simp only [zp0, zp1, zp2, zp3, zp4]
    refine Reg.one_op (i := 5) rfl (by kernel_rfl) (fun K hK => ?_)
    go_simp
    go_at_call 112
    refine (HEK.out _).mono ?_
    rintro e w5 ⟨ka, kc, rfl, ho, hb⟩
    have S6 := Lib.hid (show Sl.Sep w _ [_, _, _, conv g2 (L3.strB fd), Sl.own 5 .u8 ka kc KB] from Sl.Sep.pushOwn S5.out hb ho)
    clear S5
    clear hb ho
    go_wp2_with fail
    refine hK.out _ _ (Bag.cs7 S6.out 0 rfl) (fun hS => ?_)
    clear hK K
    try simp only [zp0, zp1, zp2, zp3, zp4]
    refine Reg.one_op (i := 8) rfl (by kernel_rfl) (fun K hK => ?_)
    go_simp
    go_at_call 113
    refine (HER.out _ S6.out.old).mono ?_
    rintro e w6 ⟨rea, rec_, rfl, ho, hb⟩
    have S7 := Lib.hid (show Sl.Sep w _ [_, _, _, _, _, Sl.own 5 .u8 rea rec_ RB] from Sl.Sep.pushOwn S6.out hb ho)
    clear S6
    clear hb ho
    go_wp2_with fail
    refine hK.out _ _ (Bag.cs7 S7.out 0 rfl) (fun hS => ?_)
    clear hK K
    try simp only [zp0, zp1, zp2, zp3, zp4]
    refine tk 12 rfl ?_
    try simp only [zp0, zp1, zp2, zp3, zp4]
    refine wpAnyH_done (by kernel_rfl) ?_ _
    obtain ⟨f0, f1, f2, f3, f4, f5, f6⟩ := Bag.cs7 S7.out 0 rfl
    clear f0 f1 f2 f3 f4 f5 f6
    have S8 := Lib.hid (show Sl.Sep w _ [_, _, _, _, _] from Bag.take S7.out [1, 2, 4, 5, 3] (by rfl) (by decide))
    clear S7
    go_wp2_with fail
    go_meet
    case rel => exact ⟨g1, ka, kc, rea, rec_, g2, _, _, rfl, rfl, S8.out⟩
   exact AllReadyH.nil
  refine Reg.cons_op (i := 5) rfl (fun K hK => ?_) ?_
  ·
   skip
   go_simp
   go_at_call 112
   refine (HEK.out _).mono ?_
   rintro e w3 ⟨ka, kc, rfl, ho, hb⟩
   have S4 := Lib.hid (show Sl.Sep w _ [_, _, Sl.own 5 .u8 ka kc KB] from Sl.Sep.pushOwn S3.out hb ho)
   clear S3
   clear hb ho
   go_wp2_with fail
   refine hK.out _ _ (Bag.cs7 S4.out 0 rfl) (fun hS => ?_)
   clear hK K
   try simp only [zp0, zp1, zp2, zp3, zp4]
   refine wpAnyH_ready (rs := [2, 8, 11]) (by kernel_rfl) (by simp) ?_
   refine Reg.cons_op (i := 2) rfl (fun K hK => ?_) ?_
   ·
    skip
    have hcv := Lib.run_convert_string_bytes (P := Try.prog) w3 9 22 5 st Try.underlying9 Try.underlying22 Try.underlying5
    go_simp
    have S5 := Lib.hid (show Sl.Sep w _ [_, _, _, conv w3.heap.size (L3.strB st)] from push_conv S4.out st)
    clear S4
    clear hcv
    obtain ⟨g1, hg⟩ : ∃ g', g' = w3.heap.size := ⟨_, rfl⟩
    rw [← hg] at S5 ⊢
    clear hg
    generalize Lib.bytesWorld w3 5 st = w4 at S5 ⊢
    refine hK.out _ _ (Bag.cs7 S5.out 0 rfl) (fun hS => ?_)
    clear hK K
    try simp only [zp0, zp1, zp2, zp3, zp4]
    refine wpAnyH_ready (rs := [8, 11]) (by kernel_rfl) (by simp) ?_
    refine Reg.cons_op (i := 8) rfl (fun K hK => ?_) ?_
    ·
     skip
     go_simp
     go_at_call 113
     refine (HER.out _ S5.out.old).mono ?_
     rintro e w5 ⟨rea, rec_, rfl, ho, hb⟩
     have S6 := Lib.hid (show Sl.Sep w _ [_, _, _, conv g1 (L3.strB st), Sl.own 5 .u8 rea rec_ RB] from Sl.Sep.pushOwn S5.out hb ho)
     clear S5
     clear hb ho
     go_wp2_with fail
     refine hK.out _ _ (Bag.cs7 S6.out 0 rfl) (fun hS => ?_)
     clear hK K
     try simp only [zp0, zp1, zp2, zp3, zp4]
     refine Reg.one_op (i := 11) rfl (by kernel_rfl) (fun K hK => ?_)
     have hcv := Lib.run_convert_string_bytes (P := Try.prog) w5 9 22 5 fd Try.underlying9 Try.underlying22 Try.underlying5
     go_simp
     have S7 := Lib.hid (show Sl.Sep w _ [_, _, _, _, _, conv w5.heap.size (L3.strB fd)] from push_conv S6.out fd)
     clear S6
     clear hcv
     obtain ⟨g2, hg⟩ : ∃ g', g' = w5.heap.size := ⟨_, rfl⟩
     rw [← hg] at S7 ⊢
     clear hg
     generalize Lib.bytesWorld w5 5 fd = w6 at S7 ⊢
     refine hK.out _ _ (Bag.cs7 S7.out 0 rfl) (fun hS => ?_)
     clear hK K
     try simp only [zp0, zp1, zp2, zp3, zp4]
     refine tk 12 rfl ?_
     try simp only [zp0, zp1, zp2, zp3, zp4]
     refine wpAnyH_done (by kernel_rfl) ?_ _
     obtain ⟨f0, f1, f2, f3, f4, f5, f6⟩ := Bag.cs7 S7.out 0 rfl
     clear f0 f1 f2 f3 f4 f5 f6
     have S8 := Lib.hid (show Sl.Sep w _ [_, _, _, _, conv g2 (L3.strB fd)] from Bag.take S7.out [1, 3, 2, 4, 5] (by rfl) (by decide))
     clear S7
     go_wp2_with fail
     go_meet
     case rel => exact ⟨g1, ka, kc, rea, rec_, g2, _, _, rfl, rfl, S8.out⟩
    refine Reg.cons_op (i := 11) rfl (fun K hK => ?_) ?_
    ·
     skip
     have hcv := Lib.run_convert_string_bytes (P := Try.prog) w4 9 22 5 fd Try.underlying9 Try.underlying22 Try.underlying5
     go_simp
     have S6 := Lib.hid (show Sl.Sep w _ [_, _, _, conv g1 (L3.strB st), conv w4.heap.size (L3.strB fd)] from push_conv S5.out fd)
     clear S5
     clear hcv
     obtain ⟨g2, hg⟩ : ∃ g', g' = w4.heap.size := ⟨_, rfl⟩
     rw [← hg] at S6 ⊢
     clear hg
     generalize Lib.bytesWorld w4 5 fd = w5 at S6 ⊢
     refine hK.out _ _ (Bag.cs7 S6.out 0 rfl) (fun hS => ?_)
     clear hK K
     try simp only [zp0, zp1, zp2, zp3, zp4]
     refine Reg.one_op (i := 8) rfl (by kernel_rfl) (fun K hK => ?_)
     go_simp
     go_at_call 113
     refine (HER.out _ S6.out.old).mono ?_
     rintro e w6 ⟨rea, rec_, rfl, ho, hb⟩
     have S7 := Lib.hid (show Sl.Sep w _ [_, _, _, _, conv g2 (L3.strB fd), Sl.own 5 .u8 rea rec_ RB] from Sl.Sep.pushOwn S6.out hb ho)
     clear S6
     clear hb ho
     go_wp2_with fail
     refine hK.out _ _ (Bag.cs7 S7.out 0 rfl) (fun hS => ?_)
     clear hK K
     try simp only [zp0, zp1, zp2, zp3, zp4]
     refine tk 12 rfl ?_
     try simp only [zp0, zp1, zp2, zp3, zp4]
     refine wpAnyH_done (by kernel_rfl) ?_ _
     obtain ⟨f0, f1, f2, f3, f4, f5, f6⟩ := Bag.cs7 S7.out 0 rfl
     clear f0 f1 f2 f3 f4 f5 f6
     have S8 := Lib.hid (show Sl.Sep w _ [_, _, _, _, _] from Bag.take S7.out [1, 3, 2, 5, 4] (by rfl) (by decide))
     clear S7
     go_wp2_with fail
     go_meet
     case rel => exact ⟨g1, ka, kc, rea, rec_, g2, _, _, rfl, rfl, S8.out⟩
    exact AllReadyH.nil
   refine Reg.cons_op (i := 8) rfl (fun K hK => ?_) ?_
   ·
    skip
    go_simp
    go_at_call 113
    refine (HER.out _ S4.out.old).mono ?_
    rintro e w4 ⟨rea, rec_, rfl, ho, hb⟩
    have S5 := Lib.hid (show Sl.Sep w _ [_, _, _, Sl.own 5 .u8 rea rec_ RB] from Sl.Sep.pushOwn S4.out hb ho)
    clear S4
    clear hb ho
    go_wp2_with fail
    refine hK.out _ _ (Bag.cs7 S5.out 0 rfl) (fun hS => ?_)
    clear hK K
    try simp only [zp0, zp1, zp2, zp3, zp4]
    refine wpAnyH_ready (rs := [2, 11]) (by kernel_rfl) (by simp) ?_
    refine Reg.cons_op (i := 2) rfl (fun K hK => ?_) ?_
    ·
     skip
     have hcv := Lib.run_convert_string_bytes (P := Try.prog) w4 9 22 5 st Try.underlying9 Try.underlying22 Try.underlying5
     go_simp
     have S6 := Lib.hid (show Sl.Sep w _ [_, _, _, _, conv w4.heap.size (L3.strB st)] from push_conv S5.out st)
     clear S5
     clear hcv
     obtain ⟨g1, hg⟩ : ∃ g', g' = w4.heap.size := ⟨_, rfl⟩
     rw [← hg] at S6 ⊢
     clear hg
     generalize Lib.bytesWorld w4 5 st = w5 at S6 ⊢
     refine hK.out _ _ (Bag.cs7 S6.out 0 rfl) (fun hS => ?_)
     clear hK K
     try simp only [zp0, zp1, zp2, zp3, zp4]
     refine Reg.one_op (i := 11) rfl (by kernel_rfl) (fun K hK => ?_)
     have hcv := Lib.run_convert_string_bytes (P := Try.prog) w5 9 22 5 fd Try.underlying9 Try.underlying22 Try.underlying5
     go_simp
     have S7 := Lib.hid (show Sl.Sep w _ [_, _, _, _, conv g1 (L3.strB st), conv w5.heap.size (L3.strB fd)] from push_conv S6.out fd)
     clear S6
     clear hcv
     obtain ⟨g2, hg⟩ : ∃ g', g' = w5.heap.size := ⟨_, rfl⟩
     rw [← hg] at S7 ⊢
     clear hg
     generalize Lib.bytesWorld w5 5 fd = w6 at S7 ⊢
     refine hK.out _ _ (Bag.cs7 S7.out 0 rfl) (fun hS => ?_)
     clear hK K
     try simp only [zp0, zp1, zp2, zp3, zp4]
     refine tk 12 rfl ?_
     try simp only [zp0, zp1, zp2, zp3, zp4]
     refine wpAnyH_done (by kernel_rfl) ?_ _
     obtain ⟨f0, f1, f2, f3, f4, f5, f6⟩ := Bag.cs7 S7.out 0 rfl
     clear f0 f1 f2 f3 f4 f5 f6
     have S8 := Lib.hid (show Sl.Sep w _ [_, _, _, _, conv g2 (L3.strB fd)] from Bag.take S7.out [1, 4, 2, 3, 5] (by rfl) (by decide))
     clear S7
     go_wp2_with fail
     go_meet
     case rel => exact ⟨g1, ka, kc, rea, rec_, g2, _, _, rfl, rfl, S8.out⟩
    refine Reg.cons_op (i := 11) rfl (fun K hK => ?_) ?_
    ·
     skip
     have hcv := Lib.run_convert_string_bytes (P := Try.prog) w4 9 22 5 fd Try.underlying9 Try.underlying22 Try.underlying5
     go_simp
     have S6 := Lib.hid (show Sl.Sep w _ [_, _, _, _, conv w4.heap.size (L3.strB fd)] from push_conv S5.out fd)
     clear S5
     clear hcv
     obtain ⟨g1, hg⟩ : ∃ g', g' = w4.heap.size := ⟨_, rfl⟩
     rw [← hg] at S6 ⊢
     clear hg
     generalize Lib.bytesWorld w4 5 fd = w5 at S6 ⊢
     refine hK.out _ _ (Bag.cs7 S6.out 0 rfl) (fun hS => ?_)
     clear hK K
     try simp only [zp0, zp1, zp2, zp3, zp4]
     refine Reg.one_op (i := 2) rfl (by kernel_rfl) (fun K hK => ?_)
     have hcv := Lib.run_convert_string_bytes (P := Try.prog) w5 9 22 5 st Try.underlying9 Try.underlying22 Try.underlying5
     go_simp
     have S7 := Lib.hid (show Sl.Sep w _ [_, _, _, _, conv g1 (L3.strB fd), conv w5.heap.size (L3.strB st)] from push_conv S6.out st)
     clear S6
     clear hcv
     obtain ⟨g2, hg⟩ : ∃ g', g' = w5.heap.size := ⟨_, rfl⟩
     rw [← hg] at S7 ⊢
     clear hg
     generalize Lib.bytesWorld w5 5 st = w6 at S7 ⊢
     refine hK.out _ _ (Bag.cs7 S7.out 0 rfl) (fun hS => ?_)
     clear hK K
     try simp only [zp0, zp1, zp2, zp3, zp4]
     refine tk 12 rfl ?_
     try simp only [zp0, zp1, zp2, zp3, zp4]
     refine wpAnyH_done (by kernel_rfl) ?_ _
     obtain ⟨f0, f1, f2, f3, f4, f5, f6⟩ := Bag.cs7 S7.out 0 rfl
     clear f0 f1 f2 f3 f4 f5 f6
     have S8 := Lib.hid (show Sl.Sep w _ [_, conv g2 (L3.strB st), _, _, _] from Bag.take S7.out [1, 5, 2, 3, 4] (by rfl) (by decide))
     clear S7
     go_wp2_with fail
     go_meet
     case rel => exact ⟨g2, ka, kc, rea, rec_, g1, _, _, rfl, rfl, S8.out⟩
    exact AllReadyH.nil
   refine Reg.cons_op (i := 11) rfl (fun K hK => ?_) ?_
   ·
    skip
    have hcv := Lib.run_convert_string_bytes (P := Try.prog) w3 9 22 5 fd Try.underlying9 Try.underlying22 Try.underlying5
    go_simp
    have S5 := Lib.hid (show Sl.Sep w _ [_, _, _, conv w3.heap.size (L3.strB fd)] from push_conv S4.out fd)
    clear S4
    clear hcv
    obtain ⟨g1, hg⟩ : ∃ g', g' = w3.heap.size := ⟨_, rfl⟩
    rw [← hg] at S5 ⊢
    clear hg
    generalize Lib.bytesWorld w3 5 fd = w4 at S5 ⊢
    refine hK.out _ _ (Bag.cs7 S5.out 0 rfl) (fun hS => ?_)
    clear hK K
    try simp only [zp0, zp1, zp2, zp3, zp4]
    refine wpAnyH_ready (rs := [2, 8]) (by kernel_rfl) (by simp) ?_
    refine Reg.cons_op (i := 2) rfl (fun K hK => ?_) ?_
    ·
     skip
     have hcv := Lib.run_convert_string_bytes (P := Try.prog) w4 9 22 5 st Try.underlying9 Try.underlying22 Try.underlying5
     go_simp
     have S6 := Lib.hid (show Sl.Sep w _ [_, _, _, conv g1 (L3.strB fd), conv w4.heap.size (L3.strB st)] from push_conv S5.out st)
     clear S5
     clear hcv
     obtain ⟨g2, hg⟩ : ∃ g', g' = w4.heap.size := ⟨_, rfl⟩
     rw [← hg] at S6 ⊢
     clear hg
     generalize Lib.bytesWorld w4 5 st = w5 at S6 ⊢
     refine hK.out _ _ (Bag.cs7 S6.out 0 rfl) (fun hS => ?_)
     clear hK K
     try simp only [zp0, zp1, zp2, zp3, zp4]
     refine Reg.one_op (i := 8) rfl (by kernel_rfl) (fun K hK => ?_)
     go_simp
     go_at_call 113
     refine (HER.out _ S6.out.old).mono ?_
     rintro e w6 ⟨rea, rec_, rfl, ho, hb⟩
     have S7 := Lib.hid (show Sl.Sep w _ [_, _, _, _, conv g2 (L3.strB st), Sl.own 5 .u8 rea rec_ RB] from Sl.Sep.pushOwn S6.out hb ho)
     clear S6
     clear hb ho
     go_wp2_with fail
     refine hK.out _ _ (Bag.cs7 S7.out 0 rfl) (fun hS => ?_)
     clear hK K
     try simp only [zp0, zp1, zp2, zp3, zp4]
     refine tk 12 rfl ?_
     try simp only [zp0, zp1, zp2, zp3, zp4]
     refine wpAnyH_done (by kernel_rfl) ?_ _
     obtain ⟨f0, f1, f2, f3, f4, f5, f6⟩ := Bag.cs7 S7.out 0 rfl
     clear f0 f1 f2 f3 f4 f5 f6
     have S8 := Lib.hid (show Sl.Sep w _ [_, _, _, _, _] from Bag.take S7.out [1, 4, 2, 5, 3] (by rfl) (by decide))
     clear S7
     go_wp2_with fail
     go_meet
     case rel => exact ⟨g2, ka, kc, rea, rec_, g1, _, _, rfl, rfl, S8.out⟩
    refine Reg.cons_op (i := 8) rfl (fun K hK => ?_) ?_
    ·
     skip
     go_simp
     go_at_call 113
     refine (HER.out _ S5.out.old).mono ?_
     rintro e w5 ⟨rea, rec_, rfl, ho, hb⟩
     have S6 := Lib.hid (show Sl.Sep w _ [_, _, _, conv g1 (L3.strB fd), Sl.own 5 .u8 rea rec_ RB] from Sl.Sep.pushOwn S5.out hb ho)
     clear S5
     clear hb ho
     go_wp2_with fail
     refine hK.out _ _ (Bag.cs7 S6.out 0 rfl) (fun hS => ?_)
     clear hK K
     try simp only [zp0, zp1, zp2, zp3, zp4]
     refine Reg.one_op (i := 2) rfl (by kernel_rfl) (fun K hK => ?_)
     have hcv := Lib.run_convert_string_bytes (P := Try.prog) w5 9 22 5 st Try.underlying9 Try.underlying22 Try.underlying5
     go_simp
     have S7 := Lib.hid (show Sl.Sep w _ [_, _, _, _, _, conv w5.heap.size (L3.strB st)] from push_conv S6.out st)
     clear S6
     clear hcv
     obtain ⟨g2, hg⟩ : ∃ g', g' = w5.heap.size := ⟨_, rfl⟩
     rw [← hg] at S7 ⊢
     clear hg
     generalize Lib.bytesWorld w5 5 st = w6 at S7 ⊢
     refine hK.out _ _ (Bag.cs7 S7.out 0 rfl) (fun hS => ?_)
     clear hK K
     try simp only [zp0, zp1, zp2, zp3, zp4]
     refine tk 12 rfl ?_
     try simp only [zp0, zp1, zp2, zp3, zp4]
     refine wpAnyH_done (by kernel_rfl) ?_ _
     obtain ⟨f0, f1, f2, f3, f4, f5, f6⟩ := Bag.cs7 S7.out 0 rfl
     clear f0 f1 f2 f3 f4 f5 f6
     have S8 := Lib.hid (show Sl.Sep w _ [_, conv g2 (L3.strB st), _, _, _] from Bag.take S7.out [1, 5, 2, 4, 3] (by rfl) (by decide))
     clear S7
     go_wp2_with fail
     go_meet
     case rel => exact ⟨g2, ka, kc, rea, rec_, g1, _, _, rfl, rfl, S8.out⟩
    exact AllReadyH.nil
   exact AllReadyH.nil
  refine Reg.cons_op (i := 11) rfl (fun K hK => ?_) ?_
  ·
   skip
   have hcv := Lib.run_convert_string_bytes (P := Try.prog) w2 9 22 5 fd Try.underlying9 Try.underlying22 Try.underlying5
   go_simp
   have S4 := Lib.hid (show Sl.Sep w _ [_, _, conv w2.heap.size (L3.strB fd)] from push_conv S3.out fd)
   clear S3
   clear hcv
   obtain ⟨g1, hg⟩ : ∃ g', g' = w2.heap.size := ⟨_, rfl⟩
   rw [← hg] at S4 ⊢
   clear hg
   generalize Lib.bytesWorld w2 5 fd = w3 at S4 ⊢
   refine hK.out _ _ (Bag.cs7 S4.out 0 rfl) (fun hS => ?_)
   clear hK K
   try simp only [zp0, zp1, zp2, zp3, zp4]
   refine wpAnyH_ready (rs := [2, 5]) (by kernel_rfl) (by simp) ?_
   refine Reg.cons_op (i := 2) rfl (fun K hK => ?_) ?_
   ·
    skip
    have hcv := Lib.run_convert_string_bytes (P := Try.prog) w3 9 22 5 st Try.underlying9 Try.underlying22 Try.underlying5
    go_simp
    have S5 := Lib.hid (show Sl.Sep w _ [_, _, conv g1 (L3.strB fd), conv w3.heap.size (L3.strB st)] from push_conv S4.out st)
    clear S4
    clear hcv
    obtain ⟨g2, hg⟩ : ∃ g', g' = w3.heap.size := ⟨_, rfl⟩
    rw [← hg] at S5 ⊢
    clear hg
    generalize Lib.bytesWorld w3 5 st = w4 at S5 ⊢
    refine hK.out _ _ (Bag.cs7 S5.out 0 rfl) (fun hS => ?_)
    clear hK K
    try simp only [zp0, zp1, zp2, zp3, zp4]
    refine Reg.one_op (i := 5) rfl (by kernel_rfl) (fun K hK => ?_)
    go_simp
    go_at_call 112
    refine (HEK.out _).mono ?_
    rintro e w5 ⟨ka, kc, rfl, ho, hb⟩
    have S6 := Lib.hid (show Sl.Sep w _ [_, _, _, conv g2 (L3.strB st), Sl.own 5 .u8 ka kc KB] from Sl.Sep.pushOwn S5.out hb ho)
    clear S5
    clear hb ho
    go_wp2_with fail
    refine hK.out _ _ (Bag.cs7 S6.out 0 rfl) (fun hS => ?_)
    clear hK K
    try simp only [zp0, zp1, zp2, zp3, zp4]
    refine Reg.one_op (i := 8) rfl (by kernel_rfl) (fun K hK => ?_)
    go_simp
    go_at_call 113
    refine (HER.out _ S6.out.old).mono ?_
    rintro e w6 ⟨rea, rec_, rfl, ho, hb⟩
    have S7 := Lib.hid (show Sl.Sep w _ [_, _, _, _, _, Sl.own 5 .u8 rea rec_ RB] from Sl.Sep.pushOwn S6.out hb ho)
    clear S6
    clear hb ho
    go_wp2_with fail
    refine hK.out _ _ (Bag.cs7 S7.out 0 rfl) (fun hS => ?_)
    clear hK K
    try simp only [zp0, zp1, zp2, zp3, zp4]
    refine tk 12 rfl ?_
    try simp only [zp0, zp1, zp2, zp3, zp4]
    refine wpAnyH_done (by kernel_rfl) ?_ _
    obtain ⟨f0, f1, f2, f3, f4, f5, f6⟩ := Bag.cs7 S7.out 0 rfl
    clear f0 f1 f2 f3 f4 f5 f6
    have S8 := Lib.hid (show Sl.Sep w _ [_, _, _, _, _] from Bag.take S7.out [1, 3, 4, 5, 2] (by rfl) (by decide))
    clear S7
    go_wp2_with fail
    go_meet
    case rel => exact ⟨g2, ka, kc, rea, rec_, g1, _, _, rfl, rfl, S8.out⟩
   refine Reg.cons_op (i := 5) rfl (fun K hK => ?_) ?_
   ·
    skip
    go_simp
    go_at_call 112
    refine (HEK.out _).mono ?_
    rintro e w4 ⟨ka, kc, rfl, ho, hb⟩
    have S5 := Lib.hid (show Sl.Sep w _ [_, _, conv g1 (L3.strB fd), Sl.own 5 .u8 ka kc KB] from Sl.Sep.pushOwn S4.out hb ho)
    clear S4
    clear hb ho
    go_wp2_with fail
    refine hK.out _ _ (Bag.cs7 S5.out 0 rfl) (fun hS => ?_)
    clear hK K
    try simp only [zp0, zp1, zp2, zp3, zp4]
    refine wpAnyH_ready (rs := [2, 8]) (by kernel_rfl) (by simp) ?_
    refine Reg.cons_op (i := 2) rfl (fun K hK => ?_) ?_
    ·
     skip
     have hcv := Lib.run_convert_string_bytes (P := Try.prog) w4 9 22 5 st Try.underlying9 Try.underlying22 Try.underlying5
     go_simp
     have S6 := Lib.hid (show Sl.Sep w _ [_, _, _, _, conv w4.heap.size (L3.strB st)] from push_conv S5.out st)
     clear S5
     clear hcv
     obtain ⟨g2, hg⟩ : ∃ g', g' = w4.heap.size := ⟨_, rfl⟩
     rw [← hg] at S6 ⊢
     clear hg
     generalize Lib.bytesWorld w4 5 st = w5 at S6 ⊢
     refine hK.out _ _ (Bag.cs7 S6.out 0 rfl) (fun hS => ?_)
     clear hK K
     try simp only [zp0, zp1, zp2, zp3, zp4]
     refine Reg.one_op (i := 8) rfl (by kernel_rfl) (fun K hK => ?_)
     go_simp
     go_at_call 113
     refine (HER.out _ S6.out.old).mono ?_
     rintro e w6 ⟨rea, rec_, rfl, ho, hb⟩
     have S7 := Lib.hid (show Sl.Sep w _ [_, _, _, _, conv g2 (L3.strB st), Sl.own 5 .u8 rea rec_ RB] from Sl.Sep.pushOwn S6.out hb ho)
     clear S6
     clear hb ho
     go_wp2_with fail
     refine hK.out _ _ (Bag.cs7 S7.out 0 rfl) (fun hS => ?_)
     clear hK K
     try simp only [zp0, zp1, zp2, zp3, zp4]
     refine tk 12 rfl ?_
     try simp only [zp0, zp1, zp2, zp3, zp4]
     refine wpAnyH_done (by kernel_rfl) ?_ _
     obtain ⟨f0, f1, f2, f3, f4, f5, f6⟩ := Bag.cs7 S7.out 0 rfl
     clear f0 f1 f2 f3 f4 f5 f6
     have S8 := Lib.hid (show Sl.Sep w _ [_, _, _, _, _] from Bag.take S7.out [1, 4, 3, 5, 2] (by rfl) (by decide))
     clear S7
     go_wp2_with fail
     go_meet
     case rel => exact ⟨g2, ka, kc, rea, rec_, g1, _, _, rfl, rfl, S8.out⟩
    refine Reg.cons_op (i := 8) rfl (fun K hK => ?_) ?_
    ·
     skip
     go_simp
     go_at_call 113
     refine (HER.out _ S5.out.old).mono ?_
     rintro e w5 ⟨rea, rec_, rfl, ho, hb⟩
     have S6 := Lib.hid (show Sl.Sep w _ [_, _, _, _, Sl.own 5 .u8 rea rec_ RB] from Sl.Sep.pushOwn S5.out hb ho)
     clear S5
     clear hb ho
     go_wp2_with fail
     refine hK.out _ _ (Bag.cs7 S6.out 0 rfl) (fun hS => ?_)
     clear hK K
     try simp only [zp0, zp1, zp2, zp3, zp4]
     refine Reg.one_op (i := 2) rfl (by kernel_rfl) (fun K hK => ?_)
     have hcv := Lib.run_convert_string_bytes (P := Try.prog) w5 9 22 5 st Try.underlying9 Try.underlying22 Try.underlying5
     go_simp
     have S7 := Lib.hid (show Sl.Sep w _ [_, _, _, _, _, conv w5.heap.size (L3.strB st)] from push_conv S6.out st)
     clear S6
     clear hcv
     obtain ⟨g2, hg⟩ : ∃ g', g' = w5.heap.size := ⟨_, rfl⟩
     rw [← hg] at S7 ⊢
     clear hg
     generalize Lib.bytesWorld w5 5 st = w6 at S7 ⊢
     refine hK.out _ _ (Bag.cs7 S7.out 0 rfl) (fun hS => ?_)
     clear hK K
     try simp only [zp0, zp1, zp2, zp3, zp4]
     refine tk 12 rfl ?_
     try simp only [zp0, zp1, zp2, zp3, zp4]
     refine wpAnyH_done (by kernel_rfl) ?_ _
     obtain ⟨f0, f1, f2, f3, f4, f5, f6⟩ := Bag.cs7 S7.out 0 rfl
     clear f0 f1 f2 f3 f4 f5 f6
     have S8 := Lib.hid (show Sl.Sep w _ [_, conv g2 (L3.strB st), _, _, _] from Bag.take S7.out [1, 5, 3, 4, 2] (by rfl) (by decide))
     clear S7
     go_wp2_with fail
     go_meet
     case rel => exact ⟨g2, ka, kc, rea, rec_, g1, _, _, rfl, rfl, S8.out⟩
    exact AllReadyH.nil
   exact AllReadyH.nil
  exact AllReadyH.nil
 case rest =>
  obtain ⟨gs, ka1, kc1, ra1, rc1, gf, ss, sf, rfl, rfl, hq⟩ := hcut
  obtain ⟨ww, hww, hSS⟩ : ∃ u, u = _ ∧ Sl.Sep w u [Sl.own 5 .u8 b1a b1c X1, conv gs (L3.strB st), Sl.own 5 .u8 ka1 kc1 KB, Sl.own 5 .u8 ra1 rc1 RB, conv gf (L3.strB fd)] := ⟨_, rfl, hq.out⟩
  subst hww
  have S52 := Lib.hid hSS
  clear hSS hq S2
  have ix0 : ∀ w, (Instr.index 207 (.agg #[.slice (some ⟨gs, 0, none⟩) st.size ss, .slice ka1 KB.length kc1, .slice ra1 RB.length rc1, .slice (some ⟨gf, 0, none⟩) fd.size sf]) (.int .i64 0)).run Try.prog w = .ok (.slice (some ⟨gs, 0, none⟩) st.size ss) w := fun w => by
   simp [Instr.index, asIntOf, run_underlying Try.underlying207, go_sem]
  have ix1 : ∀ w, (Instr.index 207 (.agg #[.slice (some ⟨gs, 0, none⟩) st.size ss, .slice ka1 KB.length kc1, .slice ra1 RB.length rc1, .slice (some ⟨gf, 0, none⟩) fd.size sf]) (.int .i64 1)).run Try.prog w = .ok (.slice ka1 KB.length kc1) w := fun w => by
   simp [Instr.index, asIntOf, run_underlying Try.underlying207, go_sem]
  have ix2 : ∀ w, (Instr.index 207 (.agg #[.slice (some ⟨gs, 0, none⟩) st.size ss, .slice ka1 KB.length kc1, .slice ra1 RB.length rc1, .slice (some ⟨gf, 0, none⟩) fd.size sf]) (.int .i64 2)).run Try.prog w = .ok (.slice ra1 RB.length rc1) w := fun w => by
   simp [Instr.index, asIntOf, run_underlying Try.underlying207, go_sem]
  have ix3 : ∀ w, (Instr.index 207 (.agg #[.slice (some ⟨gs, 0, none⟩) st.size ss, .slice ka1 KB.length kc1, .slice ra1 RB.length rc1, .slice (some ⟨gf, 0, none⟩) fd.size sf]) (.int .i64 3)).run Try.prog w = .ok (.slice (some ⟨gf, 0, none⟩) fd.size sf) w := fun w => by
   simp [Instr.index, asIntOf, run_underlying Try.underlying207, go_sem]
  go_wp2_with fail
  refine wp_loop_rounds 5 ?_
  rw [rounds_succ]
  go_wp2_with fail
  go_at_call 178
  refine (impl_bytes S52.out 0 X2 rfl (conv_rd S52.out 1 rfl) rfl ((L3.strB_length st).symm) (by have h := HLL.out.1; omega) (by have := HPS.out; omega) HXX.out.2.1).mono ?_
  rintro e w2 ⟨b2a, b2c, rfl, ho, hb⟩
  have S53 := Lib.hid (show Sl.Sep w _ [Sl.own 5 .u8 b1a b1c X1, conv gs (L3.strB st), Sl.own 5 .u8 ka1 kc1 KB, Sl.own 5 .u8 ra1 rc1 RB, conv gf (L3.strB fd), Sl.own 5 .u8 b2a b2c X2] from Sl.Sep.pushOwn S52.out hb ho)
  clear S52
  clear hb ho
  go_wp2_with fail
  rw [rounds_succ]
  go_wp2_with fail
  go_at_call 178
  refine (impl_bytes S53.out 5 X3 rfl ((Sl.Sep.own S53.out 2 rfl).reads) rfl (rfl) (by have h := HLL.out.2.1; omega) (by have := HPK.out; omega) HXX.out.2.2.1).mono ?_
  rintro e w3 ⟨b3a, b3c, rfl, ho, hb⟩
  have S54 := Lib.hid (show Sl.Sep w _ [_, _, _, _, _, _, Sl.own 5 .u8 b3a b3c X3] from Sl.Sep.pushOwn S53.out hb ho)
  clear S53
  clear hb ho
  go_wp2_with fail
  rw [rounds_succ]
  go_wp2_with fail
  go_at_call 178
  refine (impl_bytes S54.out 6 X4 rfl ((Sl.Sep.own S54.out 3 rfl).reads) rfl (rfl) (by have h := HLL.out.2.2.1; omega) (by have := HPR.out; omega) HXX.out.2.2.2.1).mono ?_
  rintro e w4 ⟨b4a, b4c, rfl, ho, hb⟩
  have S55 := Lib.hid (show Sl.Sep w _ [_, _, _, _, _, _, _, Sl.own 5 .u8 b4a b4c X4] from Sl.Sep.pushOwn S54.out hb ho)
  clear S54
  clear hb ho
  go_wp2_with fail
  rw [rounds_succ]
  go_wp2_with fail
  go_at_call 178
  refine (impl_bytes S55.out 7 X5 rfl (conv_rd S55.out 4 rfl) rfl ((L3.strB_length fd).symm) (by have h := HLL.out.2.2.2.1; omega) (by have := HPF.out; omega) HXX.out.2.2.2.2).mono ?_
  rintro e w5 ⟨b5a, b5c, rfl, ho, hb⟩
  have S56 := Lib.hid (show Sl.Sep w _ [_, _, _, _, _, _, _, _, Sl.own 5 .u8 b5a b5c X5] from Sl.Sep.pushOwn S55.out hb ho)
  clear S55
  clear hb ho
  go_wp2_with fail
  rw [rounds_succ]
  go_wp2_with fail
  go_ret
  exact Gave.mk rfl (Sl.Sep.ownAt S56.out 8 rfl) S56.out.old
set_option maxHeartbeats 8000000 in
theorem encodeOps_any (a : Option Addr) (c : Nat) (os : List Y_Op) (hl : os.length ≤ 1048576) (hf : ∀ o ∈ coS_Op os, FitO o) (w : World) (hr : Reads w w.heap.size a (os.flatMap cl_Op)) (hx : RowsRd w w.heap.size (rws_Op os)) :
  Calls Try.prog 60 #[.slice a os.length c] w (Gave w w.heap.size 5 .u8 (encL (coS_Op os))) := by
 have HAO := areOps_any a c os hl hf w hr hx
 obtain ⟨bk, hbk⟩ : ∃ b, okL (coS_Op os) = b := ⟨_, rfl⟩
 rw [hbk] at HAO
 have HBK := Lib.hid hbk
 clear hbk
 replace HAO := Lib.hid HAO
 have HR := Lib.hid (fun w' (h : Below w.heap.size w w') => hr.below h)
 have HX := Lib.hid (fun w' (h : Below w.heap.size w w') => (hx.below h).more h.size)
 have HF := Lib.hid hf
 obtain ⟨N, hN⟩ : ∃ n, n = os.length := ⟨_, rfl⟩
 rw [← hN] at hl ⊢
 have hl' : (N : Int) ≤ 1048576 := by omega
 have HN := Lib.hid hN
 clear hN hr hx hf
 have HSL := Lib.hid (show (coS_Op os).length = N from by rw [coS_len, HN.out])
 obtain ⟨R, hR0⟩ : ∃ x, encL (coS_Op os) = x := ⟨_, rfl⟩
 rw [hR0]
 have HR0 := Lib.hid hR0
 clear hR0
 obtain ⟨X0, hX0⟩ : ∃ x, enc (N : Int) = x := ⟨_, rfl⟩
 have HX0 := Lib.hid hX0
 clear hX0
 have S1 := Lib.hid (show Sl.Sep w w [] from Sl.Sep.start w)
 have hz0 : ([] : List Int).length ≤ 1000000000 := by decide
 go_enter Try.func60, Try.ntmps60
 go_wp2_with fail
 go_at_call 131
 refine ((show Calls _ _ #[.slice a N c] w (fun e w' => e = .returned (.bool bk) ∧ Below w.heap.size w w') from by rw [HN.out]; exact HAO.out)).mono ?_
 rintro e w1 ⟨rfl, hb⟩
 have S2 := Lib.hid (S1.out.keep hb)
 clear S1
 clear hb
 cases bk with
 | false =>
  go_wp2_with fail
  go_ret
  rw [show R = [] from by rw [← HR0.out]; exact (by unfold encL; rw [HBK.out]; rfl)]
  exact Gave.mk rfl (Own.empty _ 5 .u8 S2.out.old.size) (below_alloc S2.out.old _ (Nat.le_refl _))
 | true =>
  have HOK := Lib.hid (okL_parts HBK.out)
  have h6 : ¬ (6 : Int) < (N : Int) := by have := HOK.out.1; rw [HSL.out] at this; omega
  go_wp2_with fail
  go_at_call 132
  refine (impl_num S2.out ((N : Int)) X0 (Reads.nil) (Nat.le_refl _) rfl (hz0) (by rw [List.nil_append]; exact HX0.out)).mono ?_
  rintro e w2 ⟨b0a, b0c, rfl, ho, hb⟩
  have S3 := Lib.hid (show Sl.Sep w _ [Sl.own 5 .u8 b0a b0c X0] from Sl.Sep.pushOwn S2.out hb ho)
  clear S2
  clear hb ho
  go_wp2_with fail
  go_loopw [3, 15] (fun s i wr => ∃ (k : Nat) (A : Option Addr) (C : Nat) (X : List Int), k ≤ N ∧ i = .int .i64 k ∧ s = .slice A X.length C ∧ Hid ((X = X0 ++ encOs ((coS_Op os).take k) ∧ ∀ j (hj : j < (coS_Op os).length), j < k → isO (coS_Op os)[j] = true) ∧ Sl.Sep w wr [Sl.own 5 .u8 A C X])) (fun _ i _ => N - (intOf i).toNat)
  case atStart => exact ⟨0, _, _, X0, Nat.zero_le _, rfl, rfl, And.intro ⟨by simp [encOs], fun j hj h => absurd h (by omega)⟩ S3.out⟩
  case round =>
   obtain ⟨k, A, C, X, hk, rfl, rfl, hrel⟩ := hrel
   have HI := Lib.hid hrel.out.1
   have S9 := Lib.hid hrel.out.2
   clear hrel S3
   by_cases hlt : (k : Int) < (N : Int)
   ·
    skip
    have hkl : k < os.length := by have := HN.out; omega
    obtain ⟨x, hx⟩ : ∃ x, os[k]? = some x := ⟨_, List.getElem?_eq_getElem hkl⟩
    obtain ⟨oad, e'⟩ := el_some cl_Op_len (by decide) (HR.out _ S9.out.old) hkl
    subst e'
    have hro := fun w' (h : Below w.heap.size w w') => rdOs (HX.out w' h) hx
    have hrr := fun w' (h : Below w.heap.size w w') => rdO (rdOs (HX.out w' h) hx)
    obtain ⟨kd, st, ⟨kk, kn, kt⟩, ⟨ra, rc, rl⟩, fd⟩ := x
    have HK := Lib.hid (fun w' (h : Below w.heap.size w w') => el7 cl_Op_len (HR.out _ h) hx rfl)
    dsimp only at HK hrr
    have HRO := Lib.hid hro
    have HRR := Lib.hid hrr
    have HC := Lib.hid (show (coS_Op os)[k]? = some (⟨kd, st, ⟨kk, kn, kt⟩, rl, fd⟩ : X_Op) from coS_at hx)
    have HFO := Lib.hid (HF.out _ (List.mem_of_getElem? HC.out))
    clear hx hrr hro
    have HBO := Lib.hid (HOK.out.2 _ (List.mem_of_getElem? HC.out))
    obtain ⟨f0, f1, f2, f3, f4, f5, f6⟩ := HK.out _ S9.out.old
    go_upto_region 7 with fail
    clear f0 f1 f2 f3 f4 f5 f6
    have S10 := Lib.hid (show Sl.Sep w _ [_, _] from L4.push_box S9.out 148 #[.int .i64 kd, .string st, .int .i64 kk, .int .i64 kn, .string kt, .slice ra rl.length rc, .string fd] wr.heap.size rfl)
    clear S9
    obtain ⟨g1, hg⟩ : ∃ g', g' = wr.heap.size := ⟨_, rfl⟩
    rw [← hg] at S10 ⊢
    clear hg
    generalize wr.alloc (.cells #[.int .i64 kd, .string st, .int .i64 kk, .int .i64 kn, .string kt, .slice ra rl.length rc, .string fd] 148) = w3 at S10 ⊢
    obtain ⟨f0, f1, f2, f3, f4, f5, f6⟩ := Bag.cs7 S10.out 1 rfl
    obtain ⟨f7, f8, f9, f10, f11, f12, f13⟩ := HK.out _ S10.out.old
    have HXB := Lib.hid (show X.length ≤ 300000000 from by
     rw [HI.out.1, List.length_append, ← HX0.out]
     have h1 := enc_len (N : Int)
     have h2 := encOs_len (l := (coS_Op os).take k) (fun o ho => by obtain ⟨j, hj, e⟩ := List.getElem_of_mem ho; rw [List.length_take] at hj; rw [← e, List.getElem_take]; exact HI.out.2 j (by omega) (by omega))
     have h3 : ((coS_Op os).take k).length ≤ k := by rw [List.length_take]; exact Nat.min_le_left _ _
     omega)
    obtain ⟨X5, hX5⟩ : ∃ x, X ++ encO (⟨kd, st, ⟨kk, kn, kt⟩, rl, fd⟩ : X_Op) = x := ⟨_, rfl⟩
    have HAP := fun w' (h : Below w.heap.size w w') (hr : Reads w' w'.heap.size A (ints .u8 X)) (hc : X.length ≤ C) => appendOp_any A C X ⟨kd, st, ⟨kk, kn, kt⟩, ⟨ra, rc, rl⟩, fd⟩ HFO.out HBO.out (by have := HXB.out; omega) hc w' hr (HRO.out w' h)
    replace HAP := fun w' h hr hc => show Calls _ _ _ _ (Gave _ _ _ _ X5) from hX5 ▸ HAP w' h hr hc
    unfold vv_Op at HAP
    dsimp only at HAP
    replace HAP := Lib.hid HAP
    have HNX := Lib.hid hX5
    clear hX5
    go_wp2_with fail
    go_at_call 133
    refine (HAP.out _ S10.out.old (Sl.Sep.own S10.out 0 rfl).reads (Sl.Sep.own S10.out 0 rfl).cap).mono ?_
    rintro e w4 ⟨b5a, b5c, rfl, ho, hb⟩
    clear f0 f1 f2 f3 f4 f5 f6 f7 f8 f9 f10 f11 f12 f13
    have S11 := Lib.hid (show Sl.Sep w _ [_, L4.boxR g1 148 #[.int .i64 kd, .string st, .int .i64 kk, .int .i64 kn, .string kt, .slice ra rl.length rc, .string fd], Sl.own 5 .u8 b5a b5c X5] from Sl.Sep.pushOwn S10.out hb ho)
    clear S10
    clear hb ho
    have S12 := Lib.hid (show Sl.Sep w _ [_] from Bag.take S11.out [2] (by rfl) (by decide))
    clear S11
    go_wp2_with fail
    go_roundw
    case rel => exact ⟨k + 1, b5a, b5c, X5, by omega, by go_num, rfl, And.intro ⟨by rw [encOs_take HC.out, ← List.append_assoc, ← HI.out.1]; exact HNX.out.symm, fun j hj h => by
     by_cases e : j < k
     ·
      exact HI.out.2 j hj e
     ·
      obtain rfl : j = k := by omega
      rw [val_of HC.out]; exact HBO.out⟩ S12.out⟩
    case measure => simp [intOf]; omega
   ·
    skip
    obtain rfl : k = N := by omega
    have HE := Lib.hid (show (coS_Op os).take k = coS_Op os from List.take_of_length_le (by rw [HSL.out]; exact Nat.le_refl _))
    have HRX := Lib.hid (show R = X from by rw [← HR0.out, HI.out.1, HE.out, ← HX0.out, okL_yes (by rw [HSL.out]; omega) (fun j hj => HI.out.2 j hj (by rw [HSL.out] at hj; omega)), HSL.out])
    go_wp2_with fail
    go_ret
    rw [HRX.out]
    exact Gave.mk rfl (Sl.Sep.ownAt S9.out 0 rfl) S9.out.old
end Go.Proofs.Ytojcdmgcbgpdmaa.L9

namespace Go.Proofs.Ytojcdmgcbgpdmaa.V
open Go.ChangeShapes Go.WideShapes Go.ChangeAt Go.RowKit Mem Sl Sv Bag Ex

section
variable {H : Type} {enc : TypeId × Value → H} {P : Program}
end
structure Y_ByteZ where
 a : Option Addr
 c : Nat
 xs : List Int
def co_ByteZ (z : Y_ByteZ) : List Int := z.xs
def wt_ByteZ (c : List Int) : Nat := c.length
def vv_ByteZ (z : Y_ByteZ) : Value := .slice z.a z.xs.length z.c
def rw_ByteZ (z : Y_ByteZ) : List RowS := [⟨5, 1, z.a, z.c, z.xs.length, ints .u8 z.xs⟩]
def md_ByteZ (k : Int) (z : Y_ByteZ) : Y_ByteZ := ⟨z.a, z.c, marks .u8 k z.xs.length⟩
def ct_ByteZ (z : Y_ByteZ) : Nat := z.xs.length
theorem ctS_ByteZ (z : Y_ByteZ) : ct_ByteZ z ≤ 64 * (wt_ByteZ (co_ByteZ z) + 1) := by unfold ct_ByteZ wt_ByteZ co_ByteZ; omega
theorem rd_ByteZ {w : World} {B : Nat} {z : Y_ByteZ} (h : RowsRd w B (rw_ByteZ z)) : Reads w B z.a (ints .u8 z.xs) := (rd_head h).reads
theorem eq_ByteZ (y z : Y_ByteZ) (hc : co_ByteZ y = co_ByteZ z) (hf : wt_ByteZ (co_ByteZ y) ≤ 1099511627776) (w : World) (hr : RowsRd w w.heap.size (rw_ByteZ y)) (hr2 : RowsRd w w.heap.size (rw_ByteZ z)) : Calls Try.prog 61 #[vv_ByteZ y, vv_ByteZ z] w fun e w' => e = .returned (.bool true) ∧ Below w.heap.size w w' := by
 obtain ⟨a, c, l⟩ := y
 obtain ⟨a2, c2, l2⟩ := z
 obtain rfl : l = l2 := hc
 have hl : l.length ≤ 1099511627776 := hf
 exact (eqByteS_any a a2 c c2 l l w _ (rd_ByteZ hr) (rd_ByteZ hr2) (by omega) (by omega)).mono fun _ _ ⟨he, hd⟩ => ⟨by rw [he, eqB_true rfl], hd.below _⟩
theorem mark_ByteZ {W w : World} {rs : List Res} (h : Sl.Sep W w rs) (i : Nat) {z : Y_ByteZ} (hi : rs[i]? = some (bag (rw_ByteZ z))) (k : Int) (hf : wt_ByteZ (co_ByteZ z) ≤ 1099511627776) (hk0 : 0 < k) (hk1 : k + (ct_ByteZ z : Int) ≤ 2305843009213693952) :
  Calls Try.prog 62 #[vv_ByteZ z, .int .i64 k] w fun e w' => e = .returned (.int .i64 (k + (ct_ByteZ z : Int))) ∧ Sl.Sep W w' (rs.set i (bag (rw_ByteZ (md_ByteZ k z)))) := by
 have hil : i < rs.length := (List.getElem?_eq_some_iff.1 hi).1
 have h1 := one_of_bag h i hi
 refine (Law.markByteS h1 i (a := z.a) (c := z.c) (l := z.xs) (List.getElem?_set_self hil) k hf (by omega) (by unfold ct_ByteZ at hk1; omega)).mono ?_
 rintro e w' ⟨he, hs⟩
 refine ⟨he, ?_⟩
 have h2 := bag_of_one (r := ⟨5, 1, z.a, z.c, (marks .u8 k z.xs.length).length, ints .u8 (marks .u8 k z.xs.length)⟩) hs i (List.getElem?_set_self (by rw [List.length_set]; exact hil))
 rw [List.set_set, List.set_set] at h2
 exact h2
theorem held_ByteZ (z : Y_ByteZ) (k : Int) (hf : wt_ByteZ (co_ByteZ z) ≤ 1099511627776) (hk0 : 0 < k) (hk1 : k + (ct_ByteZ z : Int) ≤ 2305843009213693952) (w : World) (hr : RowsRd w w.heap.size (rw_ByteZ (md_ByteZ k z))) :
  Calls Try.prog 63 #[vv_ByteZ z, .int .i64 k] w fun e w' => e = .returned (.int .i64 (k + (ct_ByteZ z : Int))) ∧ Below w.heap.size w w' :=
 (heldByteS_any z.a z.c z.xs.length k w _ (rd_ByteZ hr) hf (by omega) (by unfold ct_ByteZ at hk1; omega)).mono fun _ _ ⟨he, hd⟩ => ⟨he, hd.below _⟩
structure Y_IntZ where
 a : Option Addr
 c : Nat
 xs : List Int
end Go.Proofs.Ytojcdmgcbgpdmaa.V

