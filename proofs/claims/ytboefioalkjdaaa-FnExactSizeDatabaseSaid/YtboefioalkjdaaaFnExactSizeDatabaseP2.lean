/-
  What the law FnExactSizeDatabase needs, laid by my program lawpack.py, part 2: the texts VItem, VStore, VIndexDef, VDatabase, L8Num, L8Fw, L6Sa, L6Sb, L7Sc, L7Sd, L6Sc, L8Se, L4Im0, L4Im1, L4Im3, L5Ia, L5Ib, L5If, L6Ig, L8Ie, one behind the other; each begins with its own words.
-/
import Derived.Test.YtboefioalkjdaaaFnExactSizeDatabaseP1
set_option linter.unusedSimpArgs false
/-
  The exact laws' helpers for Item, and for slices of it: how such a value opens, its copy, its room, comparison, marks. Condition: a weight of at most 2^20 (2^50 for comparison and marks). (Written by my program gen_v.py.)
-/
namespace Go.Proofs.Ytboefioalkjdaaa.V
set_option maxRecDepth 100000
open Go.ChangeShapes Go.WideShapes Go.ChangeAt Go.RowKit Mem Sl Sv Bag
open L5 (markT)
set_option linter.unusedVariables false
set_option linter.unusedSimpArgs false
def co_Item : L6.LI → L6.It := L6.LI.con
def coS_Item : List L6.LI → List L6.It := L6.conI
theorem coS_Item_eq (xs : List L6.LI) : coS_Item xs = xs.map co_Item := rfl
def cl_Item (z : L6.LI) : List Value := [.int .i64 z.k.kind, .int .i64 z.k.n, .string z.k.text, .slice z.a z.l.length z.c]
def vv_Item (z : L6.LI) : Value := .agg #[.int .i64 z.k.kind, .int .i64 z.k.n, .string z.k.text, .slice z.a z.l.length z.c]
def rw_Item (z : L6.LI) : List RowS := rw_Record (⟨z.a, z.c, z.l⟩ : LRecord)
def wt_Item (c : L6.It) : Nat := wt_Key c.k + (wt_Record c.l)
theorem wt_Item_parts (z : L6.LI) : wt_Item (co_Item z) = wt_Key (co_Key z.k) + (wt_Record (co_Record (⟨z.a, z.c, z.l⟩ : LRecord))) := rfl
theorem cl_Item_len (z : L6.LI) : (cl_Item z).length = 4 := rfl
def row_Item (a : Option Addr) (c : Nat) (xs : List L6.LI) : RowS := ⟨72, 4, a, c, xs.length, xs.flatMap cl_Item⟩
def rws_Item : List L6.LI → List RowS := L6.rowsI
theorem rws_Item_eq (xs : List L6.LI) : rws_Item xs = xs.flatMap rw_Item := by
  show xs.map L6.LI.row = _
  induction xs with
  | nil => rfl
  | cons x xs ih => rw [List.map_cons, ih]; rfl
def rs_Item (a : Option Addr) (c : Nat) (xs : List L6.LI) : List RowS := row_Item a c xs :: rws_Item xs
theorem rws_Item_app (xs ys : List L6.LI) : rws_Item (xs ++ ys) = rws_Item xs ++ rws_Item ys := by rw [rws_Item_eq, rws_Item_eq, rws_Item_eq, List.flatMap_append]
def Wide_Item (z : L6.LI) : Prop := Wide_Key z.k ∧ Wide_Record (⟨z.a, z.c, z.l⟩ : LRecord)
section
variable {H : Type} {enc : TypeId × Value → H} {W : World} {b : Nat} {sp : Nat → Bool} {hd : Bool}
theorem trod_Item {fuel : Nat} {cs : List Value} {x : DataW H × List MemPlace} (h : DataW.trod enc Try.prog W b sp hd fuel 109 cs = some x) (hlt : ∀ p ∈ x.2, p.block < W.heap.size) : ∃ z : L6.LI, cs = cl_Item z ∧ RowsRd W W.heap.size (rw_Item z) ∧ Wide_Item z := by
  obtain ⟨xs, n, _, hx, hl, hlen, hf⟩ := DataW.trod_struct Try.underlying109 h
  have hlN : cs.length = 4 := hl.trans (by kernel_rfl)
  match cs, hlN with
  | [c0, c1, c2, c3], _ =>
    have h0 : DataW.trod enc Try.prog W b sp hd n 104 (List.take (Try.prog.cellsOf 104) (List.drop 0 [c0, c1, c2, c3])) = xs[0]? := hf 0 _ rfl
    rw [show Try.prog.cellsOf 104 = 3 by kernel_rfl, List.getElem?_eq_getElem (by rw [hlen]; decide)] at h0
    obtain ⟨x0, e0, r0, w0⟩ := trod_Key h0 (fun p hp => hlt p (by rw [hx]; exact List.mem_flatMap.2 ⟨_, List.getElem_mem (show 0 < xs.length by rw [hlen]; decide), hp⟩))
    have h1 : DataW.trod enc Try.prog W b sp hd n 107 (List.take (Try.prog.cellsOf 107) (List.drop 3 [c0, c1, c2, c3])) = xs[1]? := hf 1 _ rfl
    rw [show Try.prog.cellsOf 107 = 1 by kernel_rfl, List.getElem?_eq_getElem (by rw [hlen]; decide)] at h1
    obtain ⟨x1, e1, r1, w1⟩ := trod_Record h1 (fun p hp => hlt p (by rw [hx]; exact List.mem_flatMap.2 ⟨_, List.getElem_mem (show 1 < xs.length by rw [hlen]; decide), hp⟩))
    simp only [List.drop_succ_cons, List.drop_zero, List.take_succ_cons, List.take_zero, cl_Key, List.cons.injEq, and_true] at e0
    obtain ⟨rfl, rfl, rfl⟩ := e0
    simp only [List.drop_succ_cons, List.drop_zero, List.take_succ_cons, List.take_zero, cl_Record, List.cons.injEq, and_true] at e1
    subst e1
    exact ⟨⟨x0, x1.a, x1.c, x1.l⟩, rfl, r1, ⟨w0, w1⟩⟩
theorem trods_Item {fuel : Nat} {cs : List Value} {x : DataW H × List MemPlace} (h : DataW.trod enc Try.prog W b sp hd fuel 62 cs = some x) (hlt : ∀ p ∈ x.2, p.block < W.heap.size) :
    ∃ (a : Option Addr) (xs : List L6.LI) (c : Nat), cs = [.slice a xs.length c] ∧ (Reads W W.heap.size a (xs.flatMap cl_Item) ∧ xs.length ≤ c ∧ (a = none → c = 0)) ∧ RowsRd W W.heap.size (xs.flatMap rw_Item) ∧ xs.length ≤ maxLen ∧ ∀ z ∈ xs, Wide_Item z :=
  trods cl_Item 4 cl_Item_len (by decide) rw_Item Wide_Item 62 109 Try.underlying62 (by kernel_rfl) (fun h hl => trod_Item h hl) h hlt
end
set_option maxHeartbeats 4000000 in
theorem to_Item (z : L6.LI) (hf : wt_Item (co_Item z) ≤ 1048576) (w : World) (hr : RowsRd w w.heap.size (rw_Item z)) : Calls Try.prog 82 #[vv_Item z] w fun e w' => ∃ y : L6.LI, e = .returned (vv_Item y) ∧ co_Item y = co_Item z ∧ BagOwn w' w.heap.size (rw_Item y) ∧ Below w.heap.size w w' := by
  have hfp := hf
  rw [wt_Item_parts] at hfp
  have HC0 := Lib.hid (fun w' => to_Key z.k w')
  dsimp only [vv_Key] at HC0
  have HC1 := Lib.hid (fun w' (h : Below w.heap.size w w') => to_Record (⟨z.a, z.c, z.l⟩ : LRecord) (by omega) w' (((hr).below h).more h.size))
  try dsimp only [vv_Record] at HC1
  clear hfp hf hr
  unfold vv_Item
  have S1 := Lib.hid (show Sl.Sep w ((w.alloc (.cells #[.int .i64 z.k.kind, .int .i64 z.k.n, .string z.k.text, .slice z.a z.l.length z.c] 109)).alloc (.cells #[.int .i64 0, .int .i64 0, .string ⟨#[]⟩, .slice none 0 0] 72)) [L4.boxR w.heap.size 109 #[.int .i64 z.k.kind, .int .i64 z.k.n, .string z.k.text, .slice z.a z.l.length z.c], L4.boxR (w.heap.size + 1) 72 #[.int .i64 0, .int .i64 0, .string ⟨#[]⟩, .slice none 0 0]] from L4.push_box (L4.push_box (Sl.Sep.start w) 109 #[.int .i64 z.k.kind, .int .i64 z.k.n, .string z.k.text, .slice z.a z.l.length z.c] (w.heap.size) (by simp)) 72 #[.int .i64 0, .int .i64 0, .string ⟨#[]⟩, .slice none 0 0] (w.heap.size + 1) (by simp))
  obtain ⟨wa, hwa⟩ : ∃ u, u = ((w.alloc (.cells #[.int .i64 z.k.kind, .int .i64 z.k.n, .string z.k.text, .slice z.a z.l.length z.c] 109)).alloc (.cells #[.int .i64 0, .int .i64 0, .string ⟨#[]⟩, .slice none 0 0] 72)) := ⟨_, rfl⟩
  rw [← hwa] at S1
  go_enter Try.func82, Try.ntmps82
  go_upto_region 1 with fail
  rw [← hwa]
  clear hwa
  go_upto_region 2 with fail
  have S2 := Lib.hid (show Sl.Sep w _ [L4.boxR w.heap.size 109 #[.int .i64 z.k.kind, .int .i64 z.k.n, .string z.k.text, .slice z.a z.l.length z.c], L4.boxR (w.heap.size + 1) 72 #[.int .i64 0, .int .i64 0, .string ⟨#[]⟩, .slice none 0 0], L4.boxR wa.heap.size 72 #[.int .i64 0, .int .i64 0, .string ⟨#[]⟩, .slice none 0 0]] from L4.push_box S1.out 72 #[.int .i64 0, .int .i64 0, .string ⟨#[]⟩, .slice none 0 0] wa.heap.size rfl)
  clear S1
  obtain ⟨g1, hg⟩ : ∃ g', g' = wa.heap.size := ⟨_, rfl⟩
  rw [← hg] at S2 ⊢
  clear hg
  generalize wa.alloc (.cells #[.int .i64 0, .int .i64 0, .string ⟨#[]⟩, .slice none 0 0] 72) = w1 at S2 ⊢
  have hh := Bag.cs4 S2.out 0 rfl
  have f0 := hh.1; have f1 := hh.2.1; have f2 := hh.2.2.1; have f3 := hh.2.2.2; clear hh
  go_wp2_with fail
  go_at_call 96
  refine (HC0.out _).mono ?_
  rintro e w2 ⟨rfl, hb⟩
  clear f0 f1 f2 f3
  have S3 := Lib.hid (S2.out.keep hb)
  clear S2
  clear hb
  have hh := Bag.cs4 S3.out 0 rfl
  have f0 := hh.1; have f1 := hh.2.1; have f2 := hh.2.2.1; have f3 := hh.2.2.2; clear hh
  have hh := Bag.cs4 S3.out 2 rfl
  have f4 := hh.1; have f5 := hh.2.1; have f6 := hh.2.2.1; have f7 := hh.2.2.2; clear hh
  have z0 := Bag.free_at S3.out 2 rfl 0
  have z1 := Bag.free_at S3.out 2 rfl 1
  have z2 := Bag.free_at S3.out 2 rfl 2
  go_upto_region 3 with fail
  clear f0 f1 f2 f3 f4 f5 f6 f7 z0 z1 z2
  have S4 := Lib.hid (show Sl.Sep w _ [L4.boxR w.heap.size 109 #[.int .i64 z.k.kind, .int .i64 z.k.n, .string z.k.text, .slice z.a z.l.length z.c], L4.boxR (w.heap.size + 1) 72 #[.int .i64 0, .int .i64 0, .string ⟨#[]⟩, .slice none 0 0], L4.boxR g1 72 #[.int .i64 z.k.kind, .int .i64 z.k.n, .string z.k.text, .slice none 0 0]] from L5.put_box5 (L5.put_box5 (L5.put_box5 (S3.out) 2 rfl 0 (.int .i64 z.k.kind)) 2 rfl 1 (.int .i64 z.k.n)) 2 rfl 2 (.string z.k.text))
  clear S3
  have hh := Bag.cs4 S4.out 0 rfl
  have f0 := hh.1; have f1 := hh.2.1; have f2 := hh.2.2.1; have f3 := hh.2.2.2; clear hh
  go_wp2_with fail
  go_at_call 97
  refine (HC1.out _ S4.out.old).mono ?_
  rintro e w3 ⟨y1, rfl, hc1, ho, hb⟩
  clear f0 f1 f2 f3
  have S5 := Lib.hid (show Sl.Sep w _ [L4.boxR w.heap.size 109 #[.int .i64 z.k.kind, .int .i64 z.k.n, .string z.k.text, .slice z.a z.l.length z.c], L4.boxR (w.heap.size + 1) 72 #[.int .i64 0, .int .i64 0, .string ⟨#[]⟩, .slice none 0 0], L4.boxR g1 72 #[.int .i64 z.k.kind, .int .i64 z.k.n, .string z.k.text, .slice none 0 0], Bag.bag (rw_Record y1)] from Bag.push_bag S4.out hb ho)
  clear S4
  clear hb ho
  have HQ1 := Lib.hid hc1
  clear hc1
  try dsimp only [vv_Record]
  have hh := Bag.cs4 S5.out 0 rfl
  have f0 := hh.1; have f1 := hh.2.1; have f2 := hh.2.2.1; have f3 := hh.2.2.2; clear hh
  have hh := Bag.cs4 S5.out 2 rfl
  have f4 := hh.1; have f5 := hh.2.1; have f6 := hh.2.2.1; have f7 := hh.2.2.2; clear hh
  have z3 := Bag.free_at S5.out 2 rfl 3
  go_upto_region 4 with fail
  clear f0 f1 f2 f3 f4 f5 f6 f7 z3
  have S6 := Lib.hid (show Sl.Sep w _ [L4.boxR w.heap.size 109 #[.int .i64 z.k.kind, .int .i64 z.k.n, .string z.k.text, .slice z.a z.l.length z.c], L4.boxR (w.heap.size + 1) 72 #[.int .i64 0, .int .i64 0, .string ⟨#[]⟩, .slice none 0 0], L4.boxR g1 72 #[.int .i64 z.k.kind, .int .i64 z.k.n, .string z.k.text, .slice y1.a y1.l.length y1.c], Bag.bag (rw_Record y1)] from L5.put_box5 (S5.out) 2 rfl 3 (.slice y1.a y1.l.length y1.c))
  clear S5
  have hh := Bag.cs4 S6.out 1 rfl
  have f0 := hh.1; have f1 := hh.2.1; have f2 := hh.2.2.1; have f3 := hh.2.2.2; clear hh
  have hh := Bag.cs4 S6.out 2 rfl
  have f4 := hh.1; have f5 := hh.2.1; have f6 := hh.2.2.1; have f7 := hh.2.2.2; clear hh
  have hh := Bag.fs4 S6.out 1 rfl
  have z0 := hh.1; have z1 := hh.2.1; have z2 := hh.2.2.1; have z3 := hh.2.2.2; clear hh
  go_wp2_with fail
  clear f0 f1 f2 f3 f4 f5 f6 f7 z0 z1 z2 z3
  have S7 := Lib.hid (show Sl.Sep w _ [L4.boxR w.heap.size 109 #[.int .i64 z.k.kind, .int .i64 z.k.n, .string z.k.text, .slice z.a z.l.length z.c], L4.boxR (w.heap.size + 1) 72 #[.int .i64 z.k.kind, .int .i64 z.k.n, .string z.k.text, .slice y1.a y1.l.length y1.c], L4.boxR g1 72 #[.int .i64 z.k.kind, .int .i64 z.k.n, .string z.k.text, .slice y1.a y1.l.length y1.c], Bag.bag (rw_Record y1)] from L5.put_box5 (L5.put_box5 (L5.put_box5 (L5.put_box5 (S6.out) 1 rfl 0 (.int .i64 z.k.kind)) 1 rfl 1 (.int .i64 z.k.n)) 1 rfl 2 (.string z.k.text)) 1 rfl 3 (.slice y1.a y1.l.length y1.c))
  clear S6
  have hh := Bag.cs4 S7.out 1 rfl
  have f0 := hh.1; have f1 := hh.2.1; have f2 := hh.2.2.1; have f3 := hh.2.2.2; clear hh
  refine bodyPost_ret (v := .agg #[.int .i64 z.k.kind, .int .i64 z.k.n, .string z.k.text, .slice y1.a y1.l.length y1.c]) (by simp [results, Try.results82, go_sem, *]) rfl ?_
  clear f0 f1 f2 f3
  refine ⟨⟨z.k, y1.a, y1.c, y1.l⟩, rfl, ?_, Bag.bag_from S7.out 3 rfl, S7.out.old⟩
  show (⟨z.k, y1.l⟩ : L6.It) = ⟨z.k, z.l⟩
  rw [show y1.l = z.l from HQ1.out]
theorem info_Item : ∃ i, Try.prog.info? 72 = some i ∧ i.zero = some (.agg #[.int .i64 0, .int .i64 0, .string ⟨#[]⟩, .slice none 0 0]) ∧ i.size = 4 ∧ i.bytes = 56 := Ex.infoOf _ _ _ _ (by kernel_rfl)
set_option maxHeartbeats 4000000 in
theorem to_ItemS (a : Option Addr) (c : Nat) (xs : List L6.LI) (hf : wsum wt_Item (coS_Item xs) ≤ 1048576) (w : World) (hr : Reads w w.heap.size a (xs.flatMap cl_Item)) (hx : RowsRd w w.heap.size (rws_Item xs)) :
    Calls Try.prog 67 #[.slice a xs.length c] w fun e w' => ∃ a' c' ys, e = .returned (.slice a' ys.length c') ∧ coS_Item ys = coS_Item xs ∧ BagOwn w' w.heap.size (rs_Item a' c' ys) ∧ Below w.heap.size w w' := by
  obtain ⟨i0, hi1, hi2, hi3, hi4⟩ := info_Item
  have HI := Lib.hid (And.intro hi1 (And.intro hi2 (And.intro hi3 hi4)))
  clear hi1 hi2 hi3 hi4
  rw [coS_Item_eq] at hf
  have HR := Lib.hid (fun w' (h : Below w.heap.size w w') => hr.below h)
  have HX := Lib.hid (fun w' (h : Below w.heap.size w w') => (hx.below h).more h.size)
  have HF := Lib.hid hf
  have hl : xs.length ≤ 1048576 := by have := wsum_len wt_Item (xs.map co_Item); rw [List.length_map] at this; omega
  obtain ⟨N, hN⟩ : ∃ n, n = xs.length := ⟨_, rfl⟩
  rw [← hN] at hl ⊢
  have hl' : (N : Int) ≤ 1048576 := by omega
  have HN := Lib.hid hN
  clear hN hr hx hf
  obtain ⟨Z, hZ⟩ : ∃ Z, Z = (madeCells (Value.agg #[.int .i64 0, .int .i64 0, .string ⟨#[]⟩, .slice none 0 0]).cells (N * 4)).toList := ⟨_, rfl⟩
  have HZ := Lib.hid (show Z.length = N * 4 by rw [hZ]; simp [madeCells])
  have HZD := Lib.hid hZ
  clear hZ
  have S1 := Lib.hid (show Sl.Sep w w [] from Sl.Sep.start w)
  go_enter Try.func67, Try.ntmps67
  go_upto_region 2 with (at_make; refine Run.wpList_make_s S1.out rfl _ _ 42 rfl 72 i0 (.agg #[.int .i64 0, .int .i64 0, .string ⟨#[]⟩, .slice none 0 0]) 4 Try.underlying42 HI.out.1 HI.out.2.1 HI.out.2.2.1 _ _ N rfl rfl (by rw [HI.out.2.2.2]; omega) (by unfold maxLen; omega) ?_; intro w1 S')
  obtain ⟨g1, hg⟩ : ∃ g', g' = w.heap.size := ⟨_, rfl⟩
  rw [← hg] at S' ⊢
  clear hg
  have S2 := Lib.hid (show Sl.Sep w _ [Sv.ownV 72 4 (some ⟨g1, 0, none⟩) N N (([] : List L6.LI).flatMap cl_Item ++ Z)] from (by have h := S'; rw [← HZD.out] at h; exact h))
  clear S1
  clear S'
  have S3 := Lib.hid (show Sl.Sep w _ [Sv.ownV 72 4 (some ⟨g1, 0, none⟩) N N (([] : List L6.LI).flatMap cl_Item ++ Z), Bag.bag (rws_Item [])] from Bag.push_bag S2.out (Below.refl _ _) (by rw [rws_Item_eq]; exact Bag.BagOwn.nil _ _))
  clear S2
  go_wp2_with fail
  go_loopw [4] (fun i wr => ∃ (k : Nat) (ys : List L6.LI) (Zs : List Value), k ≤ N ∧ i = .int .i64 k ∧ Hid ((ys.map co_Item = (xs.take k).map co_Item ∧ ys.length = k ∧ Zs.length = (N - k) * 4) ∧ Sl.Sep w wr [Sv.ownV 72 4 (some ⟨g1, 0, none⟩) N N (ys.flatMap cl_Item ++ Zs), Bag.bag (rws_Item ys)])) (fun i _ => N - (intOf i).toNat)
  case atStart => exact ⟨0, [], Z, Nat.zero_le _, rfl, And.intro ⟨rfl, rfl, HZ.out⟩ S3.out⟩
  case round =>
    obtain ⟨k, ys, Zs, hk, rfl, hrel⟩ := hrel
    have HC := Lib.hid hrel.out.1
    have S4 := Lib.hid hrel.out.2
    clear hrel S3
    by_cases hlt : (k : Int) < (N : Int)
    · skip
      have hkl : k < xs.length := by have := HN.out; omega
      obtain ⟨x, hx⟩ : ∃ x, xs[k]? = some x := ⟨_, List.getElem?_eq_getElem hkl⟩
      obtain ⟨ad, e'⟩ := el_some cl_Item_len (by decide) (HR.out _ S4.out.old) hkl
      subst e'
      have HK := Lib.hid (fun w' (h : Below w.heap.size w w') => el4 cl_Item_len (HR.out _ h) hx rfl)
      have HTX := Lib.hid (take_next hx)
      have HL := Lib.hid (show (ys.flatMap cl_Item).length = k * 4 ∧ k * 4 + 4 ≤ (ys.flatMap cl_Item ++ Zs).length ∧ 4 ≤ Zs.length from by have h1 := HC.out.2.1; have h2 := HC.out.2.2; rw [List.length_append, flat_len cl_Item_len, h1, h2]; omega)
      have HCI := Lib.hid (fun w' (h : Below w.heap.size w w') => to_Item x (by have h1 := wsum_mem (f := wt_Item) (List.mem_map.2 ⟨x, List.mem_of_getElem? hx, rfl⟩ : co_Item x ∈ xs.map co_Item); have h2 := HF.out; omega) w' (rd_el (rw_ := rw_Item) (by rw [← rws_Item_eq]; exact HX.out w' h) hx))
      dsimp only [vv_Item] at HCI
      clear hx
      have hh := HK.out _ S4.out.old
      have f0 := hh.1; have f1 := hh.2.1; have f2 := hh.2.2.1; have f3 := hh.2.2.2; clear hh
      go_wp2_with fail
      go_at_call 82
      refine (HCI.out _ S4.out.old).mono ?_
      rintro e w2 ⟨y, rfl, hcy, ho, hb⟩
      clear f0 f1 f2 f3
      have S5 := Lib.hid (show Sl.Sep w _ [Sv.ownV 72 4 (some ⟨g1, 0, none⟩) N N (ys.flatMap cl_Item ++ Zs), Bag.bag (rws_Item ys), Bag.bag (rw_Item y)] from Bag.push_bag S4.out hb ho)
      clear S4
      clear hb ho
      have HCY := Lib.hid hcy
      clear hcy
      try dsimp only [vv_Item]
      have q0 := (Sv.own_at S5.out 0 rfl).cell (k * 4) (by have := HL.out.2.1; omega)
      have z0 := (Sv.own_at S5.out 0 rfl).free (k * 4)
      have q1 := (Sv.own_at S5.out 0 rfl).cell (k * 4 + 1) (by have := HL.out.2.1; omega)
      have z1 := (Sv.own_at S5.out 0 rfl).free (k * 4 + 1)
      have q2 := (Sv.own_at S5.out 0 rfl).cell (k * 4 + 2) (by have := HL.out.2.1; omega)
      have z2 := (Sv.own_at S5.out 0 rfl).free (k * 4 + 2)
      have q3 := (Sv.own_at S5.out 0 rfl).cell (k * 4 + 3) (by have := HL.out.2.1; omega)
      have z3 := (Sv.own_at S5.out 0 rfl).free (k * 4 + 3)
      go_wp2_with fail
      clear q0 z0 q1 z1 q2 z2 q3 z3
      have S6 := Lib.hid (show Sl.Sep w (World.setCells w2 g1 (k * 4) [.int .i64 y.k.kind, .int .i64 y.k.n, .string y.k.text, .slice y.a y.l.length y.c]) [Sv.ownV 72 4 (some ⟨g1, 0, none⟩) N N ((ys ++ [y]).flatMap cl_Item ++ Zs.drop 4), Bag.bag (rws_Item ys), Bag.bag (rw_Item y)] from (by have h := Run.put_run S5.out 0 rfl (k * 4) [.int .i64 y.k.kind, .int .i64 y.k.n, .string y.k.text, .slice y.a y.l.length y.c] (by have := HL.out.2.1; simpa using this); rw [Run.over_at _ _ _ _ HL.out.1 (by have := HL.out.2.2; simpa using this)] at h; rw [List.flatMap_append, List.append_assoc]; exact h))
      clear S5
      have S7 := Lib.hid (show Sl.Sep w _ [Sv.ownV 72 4 (some ⟨g1, 0, none⟩) N N ((ys ++ [y]).flatMap cl_Item ++ Zs.drop 4), Bag.bag (rws_Item ys ++ (rw_Item y)), Bag.bag ([])] from Bag.bag_join S6.out 1 2 (by decide) rfl rfl)
      clear S6
      have S8 := Lib.hid (show Sl.Sep w _ [Sv.ownV 72 4 (some ⟨g1, 0, none⟩) N N ((ys ++ [y]).flatMap cl_Item ++ Zs.drop 4), Bag.bag (rws_Item ys ++ (rw_Item y))] from Bag.take S7.out [0, 1] (by rfl) (by decide))
      clear S7
      go_roundw
      case rel =>
        refine ⟨k + 1, ys ++ [y], Zs.drop 4, by omega, by go_num, And.intro ⟨?_, ?_, ?_⟩ ?_⟩
        · rw [HTX.out, List.map_append, List.map_append, HC.out.1]; rw [show [y].map co_Item = [x].map co_Item from congrArg (fun u => [u]) HCY.out]
        · rw [List.length_append, HC.out.2.1]; rfl
        · rw [List.length_drop, HC.out.2.2]; omega
        · rw [rws_Item_app]; rw [show rws_Item [y] = rw_Item y from by rw [rws_Item_eq]; simp]; exact S8.out
      case measure => simp [intOf]; omega
    · skip
      obtain rfl : k = N := by omega
      go_wp2_with fail
      go_ret
      obtain ⟨hc1, hc2, hc3⟩ := HC.out
      have hZs : Zs = [] := List.eq_nil_of_length_eq_zero (by rw [hc3]; omega)
      have hcon : ys.map co_Item = xs.map co_Item := by rw [hc1, List.take_of_length_le (by have := HN.out; omega)]
      have S90 := Lib.hid (Bag.bag_of_one S4.out 0 (r := row_Item (some ⟨g1, 0, none⟩) k ys) (by unfold RowS.res row_Item; dsimp only; rw [hZs, List.append_nil, hc2]; rfl))
      have S91 := Lib.hid (Bag.bag_join S90.out 0 1 (by decide) rfl rfl)
      have hb := Bag.bag_from S91.out 0 rfl
      subst hc2
      exact ⟨_, _, ys, rfl, by rw [coS_Item_eq, coS_Item_eq]; exact hcon, hb, S91.out.old⟩
set_option maxHeartbeats 4000000 in
theorem sz_Item (z : L6.LI) (q : Int) (hw : Wide_Item z) (hq0 : -1 ≤ q) (hq1 : q ≤ 1048576) (w : World) (hr : RowsRd w w.heap.size (rw_Item z)) : Calls Try.prog 80 #[vv_Item z, .int .i64 q] w fun e w' => e = .returned (.int .i64 (lft q (wt_Item (co_Item z)))) ∧ Below w.heap.size w w' := by
  have HS0 := Lib.hid (fun (m : Int) (h0 : -1 ≤ m) (h1 : m ≤ 1048576) w' => sz_Key z.k m (hw.1) h0 h1 w')
  dsimp only [vv_Key] at HS0
  have HS1 := Lib.hid (fun (m : Int) (h0 : -1 ≤ m) (h1 : m ≤ 1048576) w' (h : Below w.heap.size w w') => sz_Record (⟨z.a, z.c, z.l⟩ : LRecord) m (hw.2) h0 h1 w' (((hr).below h).more h.size))
  try dsimp only [vv_Record] at HS1
  have HW := Lib.hid (wt_Item_parts z)
  clear hw hr
  unfold vv_Item
  have S1 := Lib.hid (show Sl.Sep w (w.alloc (.cells #[.int .i64 z.k.kind, .int .i64 z.k.n, .string z.k.text, .slice z.a z.l.length z.c] 109)) [L4.boxR w.heap.size 109 #[.int .i64 z.k.kind, .int .i64 z.k.n, .string z.k.text, .slice z.a z.l.length z.c]] from L4.push_box (Sl.Sep.start w) 109 #[.int .i64 z.k.kind, .int .i64 z.k.n, .string z.k.text, .slice z.a z.l.length z.c] (w.heap.size) (by simp))
  obtain ⟨wa, hwa⟩ : ∃ u, u = (w.alloc (.cells #[.int .i64 z.k.kind, .int .i64 z.k.n, .string z.k.text, .slice z.a z.l.length z.c] 109)) := ⟨_, rfl⟩
  rw [← hwa] at S1
  go_enter Try.func80, Try.ntmps80
  go_upto_region 1 with fail
  rw [← hwa]
  clear hwa
  have hh := Bag.cs4 S1.out 0 rfl
  have f0 := hh.1; have f1 := hh.2.1; have f2 := hh.2.2.1; have f3 := hh.2.2.2; clear hh
  obtain ⟨u0, hu⟩ : ∃ u, lft q (wt_Key (co_Key z.k)) = u := ⟨_, rfl⟩
  have hc0 := lft_cases hu
  have hr0 := lft_range (q := q) (wt_Key (co_Key z.k)) (by omega)
  rw [hu] at hr0
  have HCU := HS0.out q (by omega) (by omega)
  simp only [hu] at HCU
  replace HCU := Lib.hid HCU
  clear hu
  go_wp2_with fail
  go_at_call 94
  refine (HCU.out _).mono ?_
  rintro e w1 ⟨rfl, hb⟩
  clear f0 f1 f2 f3
  have S2 := Lib.hid (S1.out.keep hb)
  clear S1
  clear hb
  have hh := Bag.cs4 S2.out 0 rfl
  have f0 := hh.1; have f1 := hh.2.1; have f2 := hh.2.2.1; have f3 := hh.2.2.2; clear hh
  clear HCU
  by_cases hn0 : u0 < 0
  · have hm1 : u0 = -1 := by omega
    subst hm1
    go_wp2_with fail
    go_ret
    exact ⟨by rw [HW.out, lft_neg (by omega)] <;> rfl, S2.out.old⟩
  · skip
    obtain ⟨u1, hu⟩ : ∃ u, lft u0 (wt_Record (co_Record (⟨z.a, z.c, z.l⟩ : LRecord))) = u := ⟨_, rfl⟩
    have hc1 := lft_cases hu
    have hr1 := lft_range (q := u0) (wt_Record (co_Record (⟨z.a, z.c, z.l⟩ : LRecord))) (by omega)
    rw [hu] at hr1
    have HCU := HS1.out u0 (by omega) (by omega)
    simp only [hu] at HCU
    replace HCU := Lib.hid HCU
    clear hu
    go_wp2_with fail
    go_at_call 95
    refine (HCU.out _ S2.out.old).mono ?_
    rintro e w2 ⟨rfl, hb⟩
    clear f0 f1 f2 f3
    have S3 := Lib.hid (S2.out.keep hb)
    clear S2
    clear hb
    have hh := Bag.cs4 S3.out 0 rfl
    have f0 := hh.1; have f1 := hh.2.1; have f2 := hh.2.2.1; have f3 := hh.2.2.2; clear hh
    clear HCU
    by_cases hn1 : u1 < 0
    · have hm1 : u1 = -1 := by omega
      subst hm1
      go_wp2_with fail
      go_ret
      exact ⟨by rw [HW.out, lft_neg (by omega)] <;> rfl, S3.out.old⟩
    · skip
      go_wp2_with fail
      go_ret
      exact ⟨by rw [HW.out, lft_pos (by omega)] <;> first | rfl | (refine congrArg (fun i => Ending.returned (.int .i64 i)) ?_; omega), S3.out.old⟩
set_option maxHeartbeats 4000000 in
theorem sz_ItemS (a : Option Addr) (c : Nat) (xs : List L6.LI) (q : Int) (hw : ∀ x ∈ xs, Wide_Item x) (hm : xs.length ≤ maxLen) (hq0 : -1 ≤ q) (hq1 : q ≤ 1048576) (w : World) (hr : Reads w w.heap.size a (xs.flatMap cl_Item)) (hx : RowsRd w w.heap.size (rws_Item xs)) :
    Calls Try.prog 62 #[.slice a xs.length c, .int .i64 q] w fun e w' => e = .returned (.int .i64 (lft q (wsum wt_Item (coS_Item xs)))) ∧ Below w.heap.size w w' := by
  have HR := Lib.hid (fun w' (h : Below w.heap.size w w') => hr.below h)
  have HX := Lib.hid (fun w' (h : Below w.heap.size w w') => (hx.below h).more h.size)
  have HWD := Lib.hid hw
  have HW := Lib.hid (show wsum wt_Item (coS_Item xs) = xs.length + fsum (fun x => wt_Item (co_Item x)) xs from by rw [coS_Item_eq, wsum_map])
  obtain ⟨N, hN⟩ : ∃ n, n = xs.length := ⟨_, rfl⟩
  rw [← hN] at hm HW ⊢
  have HN := Lib.hid hN
  have hm' : (N : Int) ≤ 9223372036854775807 := by unfold maxLen at hm; omega
  clear hN hr hx hw hm
  have S1 := Lib.hid (show Sl.Sep w w [] from Sl.Sep.start w)
  by_cases hneg : q - (N : Int) < 0
  · skip
    go_enter Try.func62, Try.ntmps62
    go_wp2_with fail
    go_ret
    exact ⟨by rw [HW.out, lft_neg (by omega)] <;> rfl, Below.refl _ _⟩
  · skip
    go_enter Try.func62, Try.ntmps62
    go_wp2_with fail
    go_loopw [1, 5] (fun lv i wr => ∃ (k : Nat) (m : Int), k ≤ N ∧ i = .int .i64 k ∧ lv = .int .i64 m ∧ 0 ≤ m ∧ m ≤ 1048576 ∧ Hid (m = q - N - (fsum (fun x => wt_Item (co_Item x)) (xs.take k) : Int) ∧ Sl.Sep w wr [])) (fun _ i _ => N - (intOf i).toNat)
    case atStart => exact ⟨0, q - N, Nat.zero_le _, rfl, rfl, by omega, by omega, And.intro (by rw [List.take_zero, fsum_nil]; omega) S1.out⟩
    case round =>
      obtain ⟨k, m, hk, rfl, rfl, hm0, hm1, hrel⟩ := hrel
      have HA := Lib.hid hrel.out.1
      have S2 := Lib.hid hrel.out.2
      clear hrel S1
      by_cases hlt : (k : Int) < (N : Int)
      · skip
        have hkl : k < xs.length := by have := HN.out; omega
        obtain ⟨x, hx⟩ : ∃ x, xs[k]? = some x := ⟨_, List.getElem?_eq_getElem hkl⟩
        obtain ⟨ad, e'⟩ := el_some cl_Item_len (by decide) (HR.out _ S2.out.old) (List.getElem?_eq_some_iff.1 hx).1
        subst e'
        have HK := Lib.hid (fun w' (h : Below w.heap.size w w') => el4 cl_Item_len (HR.out _ h) hx rfl)
        have HAT := Lib.hid (fsum_at (f := (fun x => wt_Item (co_Item x))) hx)
        have HTK := Lib.hid (fsum_take (f := (fun x => wt_Item (co_Item x))) hx)
        try dsimp only at HAT HTK
        obtain ⟨fx, hfx⟩ : ∃ u, wt_Item (co_Item x) = u := ⟨_, rfl⟩
        rw [hfx] at HAT HTK
        obtain ⟨u, hu⟩ : ∃ u, lft m fx = u := ⟨_, rfl⟩
        have hcu := lft_cases hu
        have hru := lft_range (q := m) fx (by omega)
        rw [hu] at hru
        have HSI := fun w' (h : Below w.heap.size w w') => sz_Item x m (HWD.out x (List.mem_of_getElem? hx)) (by omega) hm1 w' (rd_el (rw_ := rw_Item) (by rw [← rws_Item_eq]; exact HX.out w' h) hx)
        rw [hfx, hu] at HSI
        dsimp only [vv_Item] at HSI
        replace HSI := Lib.hid HSI
        clear hfx hu hx
        have hh := HK.out _ S2.out.old
        have f0 := hh.1; have f1 := hh.2.1; have f2 := hh.2.2.1; have f3 := hh.2.2.2; clear hh
        go_wp2_with fail
        go_at_call 80
        refine (HSI.out _ S2.out.old).mono ?_
        rintro e w1 ⟨rfl, hb⟩
        clear f0 f1 f2 f3
        have S3 := Lib.hid (S2.out.keep hb)
        clear S2
        clear hb
        by_cases h0 : u < 0
        · have hm1' : u = -1 := by omega
          subst hm1'
          go_wp2_with fail
          go_ret
          exact ⟨by rw [HW.out, lft_neg (by have := HA.out; have := HAT.out; omega)] <;> rfl, S3.out.old⟩
        · skip
          go_wp2_with fail
          go_roundw
          case rel => exact ⟨k + 1, u, by omega, by go_num, rfl, by omega, by omega, And.intro (by rw [HTK.out]; have := HA.out; omega) S3.out⟩
          case measure => simp [intOf]; omega
      · skip
        obtain rfl : k = N := by omega
        have HT := HA.out
        rw [List.take_of_length_le (Nat.le_of_eq HN.out.symm)] at HT
        go_wp2_with fail
        go_ret
        exact ⟨by rw [HW.out, lft_pos (by omega)] <;> first | rfl | (refine congrArg (fun i => Ending.returned (.int .i64 i)) ?_; omega), S2.out.old⟩
set_option maxHeartbeats 4000000 in
theorem eq_Item (y z : L6.LI) (hc : co_Item y = co_Item z) (hf : wt_Item (co_Item y) ≤ 1125899906842624) (w : World) (hr : RowsRd w w.heap.size (rw_Item y)) (hr2 : RowsRd w w.heap.size (rw_Item z)) : Calls Try.prog 90 #[vv_Item y, vv_Item z] w fun e w' => e = .returned (.bool true) ∧ Below w.heap.size w w' := by
  have hfp := hf
  rw [wt_Item_parts] at hfp
  have ee0 : z.k = y.k := (show y.k = z.k from congrArg L6.It.k (hc)).symm
  have ee1 : z.l.length = y.l.length := (congrArg List.length (show y.l = z.l from congrArg L6.It.l (hc))).symm
  have HE0 := Lib.hid (fun w' => eq_Key y.k w')
  dsimp only [vv_Key] at HE0
  have HE1 := Lib.hid (fun w' (h : Below w.heap.size w w') => eq_Record (⟨y.a, y.c, y.l⟩ : LRecord) (⟨z.a, z.c, z.l⟩ : LRecord) (by have h := congrArg L6.It.l hc; exact h) (by omega) w' (((hr).below h).more h.size) (((hr2).below h).more h.size))
  try dsimp only [vv_Record] at HE1
  simp only [ee0, ee1] at HE1
  have hv : vv_Item z = .agg #[.int .i64 y.k.kind, .int .i64 y.k.n, .string y.k.text, .slice z.a y.l.length z.c] := by unfold vv_Item; simp only [ee0, ee1]
  rw [hv]
  clear hv hfp hf hc hr hr2 ee0 ee1
  unfold vv_Item
  have S1 := Lib.hid (show Sl.Sep w ((w.alloc (.cells #[.int .i64 y.k.kind, .int .i64 y.k.n, .string y.k.text, .slice y.a y.l.length y.c] 72)).alloc (.cells #[.int .i64 y.k.kind, .int .i64 y.k.n, .string y.k.text, .slice z.a y.l.length z.c] 72)) [L4.boxR w.heap.size 72 #[.int .i64 y.k.kind, .int .i64 y.k.n, .string y.k.text, .slice y.a y.l.length y.c], L4.boxR (w.heap.size + 1) 72 #[.int .i64 y.k.kind, .int .i64 y.k.n, .string y.k.text, .slice z.a y.l.length z.c]] from L4.push_box (L4.push_box (Sl.Sep.start w) 72 #[.int .i64 y.k.kind, .int .i64 y.k.n, .string y.k.text, .slice y.a y.l.length y.c] (w.heap.size) (by simp)) 72 #[.int .i64 y.k.kind, .int .i64 y.k.n, .string y.k.text, .slice z.a y.l.length z.c] (w.heap.size + 1) (by simp))
  obtain ⟨wa, hwa⟩ : ∃ u, u = ((w.alloc (.cells #[.int .i64 y.k.kind, .int .i64 y.k.n, .string y.k.text, .slice y.a y.l.length y.c] 72)).alloc (.cells #[.int .i64 y.k.kind, .int .i64 y.k.n, .string y.k.text, .slice z.a y.l.length z.c] 72)) := ⟨_, rfl⟩
  rw [← hwa] at S1
  go_enter Try.func90, Try.ntmps90
  go_upto_region 1 with fail
  rw [← hwa]
  clear hwa
  have hh := Bag.cs4 S1.out 0 rfl
  have f0 := hh.1; have f1 := hh.2.1; have f2 := hh.2.2.1; have f3 := hh.2.2.2; clear hh
  have hh := Bag.cs4 S1.out 1 rfl
  have f4 := hh.1; have f5 := hh.2.1; have f6 := hh.2.2.1; have f7 := hh.2.2.2; clear hh
  go_wp2_with fail
  go_at_call 108
  refine (HE0.out _).mono ?_
  rintro e w1 ⟨rfl, hb⟩
  clear f0 f1 f2 f3 f4 f5 f6 f7
  have S2 := Lib.hid (S1.out.keep hb)
  clear S1
  clear hb
  have hh := Bag.cs4 S2.out 0 rfl
  have f0 := hh.1; have f1 := hh.2.1; have f2 := hh.2.2.1; have f3 := hh.2.2.2; clear hh
  have hh := Bag.cs4 S2.out 1 rfl
  have f4 := hh.1; have f5 := hh.2.1; have f6 := hh.2.2.1; have f7 := hh.2.2.2; clear hh
  go_wp2_with fail
  go_at_call 109
  refine (HE1.out _ S2.out.old).mono ?_
  rintro e w2 ⟨rfl, hb⟩
  clear f0 f1 f2 f3 f4 f5 f6 f7
  have S3 := Lib.hid (S2.out.keep hb)
  clear S2
  clear hb
  have hh := Bag.cs4 S3.out 0 rfl
  have f0 := hh.1; have f1 := hh.2.1; have f2 := hh.2.2.1; have f3 := hh.2.2.2; clear hh
  have hh := Bag.cs4 S3.out 1 rfl
  have f4 := hh.1; have f5 := hh.2.1; have f6 := hh.2.2.1; have f7 := hh.2.2.2; clear hh
  go_wp2_with fail
  go_ret
  exact ⟨rfl, S3.out.old⟩
set_option maxHeartbeats 4000000 in
theorem eq_ItemS (a a2 : Option Addr) (c c2 : Nat) (xs xs2 : List L6.LI) (hc : coS_Item xs = coS_Item xs2) (hf : wsum wt_Item (coS_Item xs) ≤ 1125899906842624) (w : World) (hr : Reads w w.heap.size a (xs.flatMap cl_Item)) (hx : RowsRd w w.heap.size (rws_Item xs)) (hr2 : Reads w w.heap.size a2 (xs2.flatMap cl_Item)) (hx2 : RowsRd w w.heap.size (rws_Item xs2)) :
    Calls Try.prog 73 #[.slice a xs.length c, .slice a2 xs2.length c2] w fun e w' => e = .returned (.bool true) ∧ Below w.heap.size w w' := by
  have hlen : xs2.length = xs.length := by have h := congrArg List.length hc; rw [coS_Item_eq, coS_Item_eq, List.length_map, List.length_map] at h; exact h.symm
  have hl : xs.length ≤ 1125899906842624 := by have := wsum_len wt_Item (coS_Item xs); rw [coS_Item_eq, List.length_map] at this; rw [coS_Item_eq] at hf; omega
  have HR := Lib.hid (fun w' (h : Below w.heap.size w w') => hr.below h)
  have HR2 := Lib.hid (fun w' (h : Below w.heap.size w w') => hr2.below h)
  have HX := Lib.hid (fun w' (h : Below w.heap.size w w') => (hx.below h).more h.size)
  have HX2 := Lib.hid (fun w' (h : Below w.heap.size w w') => (hx2.below h).more h.size)
  rw [coS_Item_eq] at hf
  have HF := Lib.hid hf
  have HS := Lib.hid (show xs.map co_Item = xs2.map co_Item from by rw [← coS_Item_eq, ← coS_Item_eq]; exact hc)
  obtain ⟨N, hN⟩ : ∃ n, n = xs.length := ⟨_, rfl⟩
  rw [hlen, ← hN]
  rw [← hN] at hl
  have hl' : (N : Int) ≤ 1125899906842624 := by omega
  have HN := Lib.hid hN
  clear hN hr hr2 hx hx2 hf hc hlen
  have S1 := Lib.hid (show Sl.Sep w w [] from Sl.Sep.start w)
  go_enter Try.func73, Try.ntmps73
  go_wp2_with fail
  go_loopw [5] (fun i wr => ∃ k : Nat, k ≤ N ∧ i = .int .i64 k ∧ Hid (Sl.Sep w wr [])) (fun i _ => N - (intOf i).toNat)
  case atStart => exact ⟨0, Nat.zero_le _, rfl, S1.out⟩
  case round =>
    obtain ⟨k, hk, rfl, hrel⟩ := hrel
    have S2 := Lib.hid hrel.out
    clear hrel S1
    by_cases hlt : (k : Int) < (N : Int)
    · skip
      have hkl : k < xs.length := by have := HN.out; omega
      obtain ⟨x, hx⟩ : ∃ x, xs[k]? = some x := ⟨_, List.getElem?_eq_getElem hkl⟩
      obtain ⟨ad, e'⟩ := el_some cl_Item_len (by decide) (HR.out _ S2.out.old) (List.getElem?_eq_some_iff.1 hx).1
      subst e'
      have HK := Lib.hid (fun w' (h : Below w.heap.size w w') => el4 cl_Item_len (HR.out _ h) hx rfl)
      obtain ⟨x2, hx2, hcx⟩ := map_same HS.out hx
      obtain ⟨ad2, e'⟩ := el_some cl_Item_len (by decide) (HR2.out _ S2.out.old) (List.getElem?_eq_some_iff.1 hx2).1
      subst e'
      have HK2 := Lib.hid (fun w' (h : Below w.heap.size w w') => el4 cl_Item_len (HR2.out _ h) hx2 rfl)
      have ee0 : x2.k = x.k := (show x.k = x2.k from congrArg L6.It.k (hcx.symm)).symm
      have ee1 : x2.l.length = x.l.length := (congrArg List.length (show x.l = x2.l from congrArg L6.It.l (hcx.symm))).symm
      have HEQ := fun w' (h : Below w.heap.size w w') => eq_Item x x2 hcx.symm (by have h1 := wsum_mem (f := wt_Item) (List.mem_map.2 ⟨x, List.mem_of_getElem? hx, rfl⟩ : co_Item x ∈ xs.map co_Item); have h2 := HF.out; omega) w' (rd_el (rw_ := rw_Item) (by rw [← rws_Item_eq]; exact HX.out w' h) hx) (rd_el (rw_ := rw_Item) (by rw [← rws_Item_eq]; exact HX2.out w' h) hx2)
      dsimp only [vv_Item] at HEQ
      try dsimp only [cl_Item] at HK2
      simp only [ee0, ee1] at HEQ HK2
      replace HEQ := Lib.hid HEQ
      clear hcx ee0 ee1
      try dsimp only [vv_Item] at HEQ
      clear hx hx2
      go_upto_region 6 with fail
      refine wp_region_held_drew (S := (fun w' => (World.cell? w' (ad.add (k * 4)) = some (.int .i64 x.k.kind) ∧ World.cell? w' (⟨(ad.add (k * 4)).block, (ad.add (k * 4)).off + 1, none⟩) = some (.int .i64 x.k.n) ∧ World.cell? w' (⟨(ad.add (k * 4)).block, (ad.add (k * 4)).off + 2, none⟩) = some (.string x.k.text) ∧ World.cell? w' (⟨(ad.add (k * 4)).block, (ad.add (k * 4)).off + 3, none⟩) = some (.slice x.a x.l.length x.c)) ∧ (World.cell? w' (ad2.add (k * 4)) = some (.int .i64 x.k.kind) ∧ World.cell? w' (⟨(ad2.add (k * 4)).block, (ad2.add (k * 4)).off + 1, none⟩) = some (.int .i64 x.k.n) ∧ World.cell? w' (⟨(ad2.add (k * 4)).block, (ad2.add (k * 4)).off + 2, none⟩) = some (.string x.k.text) ∧ World.cell? w' (⟨(ad2.add (k * 4)).block, (ad2.add (k * 4)).off + 3, none⟩) = some (.slice x2.a x.l.length x2.c)))) (by kernel_rfl) ⟨HK.out _ (Bag.drew1 S2.out).old, HK2.out _ (Bag.drew1 S2.out).old⟩ (fun hS => ?_)
      have S3 := Lib.hid (show Sl.Sep w _ [] from Bag.drew1 S2.out)
      clear S2
      generalize World.drew _ = w1 at hS S3 ⊢
      refine tk 0 rfl ?_
      try simp only [zp0, zp1, zp2, zp3, zp4]
      refine tk 1 rfl ?_
      try simp only [zp0, zp1, zp2, zp3, zp4]
      refine tk 2 rfl ?_
      try simp only [zp0, zp1, zp2, zp3, zp4]
      refine tk 3 rfl ?_
      try simp only [zp0, zp1, zp2, zp3, zp4]
      refine tk 4 rfl ?_
      try simp only [zp0, zp1, zp2, zp3, zp4]
      refine tk 5 rfl ?_
      try simp only [zp0, zp1, zp2, zp3, zp4]
      refine tk 6 rfl ?_
      try simp only [zp0, zp1, zp2, zp3, zp4]
      refine tk 7 rfl ?_
      try simp only [zp0, zp1, zp2, zp3, zp4]
      refine Reg.one_op (i := 8) rfl (by kernel_rfl) (fun K hK => ?_)
      go_simp
      go_at_call 90
      refine (HEQ.out _ S3.out.old).mono ?_
      rintro e w2 ⟨rfl, hb⟩
      have S4 := Lib.hid (S3.out.keep hb)
      clear S3
      clear hb
      go_wp2_with fail
      refine hK.out _ _ ⟨HK.out _ S4.out.old, HK2.out _ S4.out.old⟩ (fun hS => ?_)
      clear hK K
      try simp only [zp0, zp1, zp2, zp3, zp4]
      refine tk 9 rfl ?_
      try simp only [zp0, zp1, zp2, zp3, zp4]
      refine wpAnyH_done (by kernel_rfl) ?_ _
      have hh := HK.out _ S4.out.old
      have f0 := hh.1; have f1 := hh.2.1; have f2 := hh.2.2.1; have f3 := hh.2.2.2; clear hh
      have hh := HK2.out _ S4.out.old
      have f4 := hh.1; have f5 := hh.2.1; have f6 := hh.2.2.1; have f7 := hh.2.2.2; clear hh
      go_wp2_with fail
      go_roundw
      case rel => exact ⟨k + 1, by omega, by go_num, S4.out⟩
      case measure => simp [intOf]; omega
    · skip
      go_wp2_with fail
      go_ret
      exact ⟨rfl, S2.out.old⟩
end Go.Proofs.Ytboefioalkjdaaa.V

/-
  The exact laws' helpers for Store, and for slices of it: how such a value opens, its copy, its room, comparison, marks. Condition: a weight of at most 2^20 (2^50 for comparison and marks). (Written by my program gen_v.py.)
-/
namespace Go.Proofs.Ytboefioalkjdaaa.V
set_option maxRecDepth 100000
open Go.ChangeShapes Go.WideShapes Go.ChangeAt Go.RowKit Mem Sl Sv Bag
open L5 (markT)
set_option linter.unusedVariables false
set_option linter.unusedSimpArgs false
def co_Store : L6.LS → L6.S6 := L6.LS.con
def coS_Store (xs : List L6.LS) : List L6.S6 := xs.map co_Store
theorem coS_Store_eq (xs : List L6.LS) : coS_Store xs = xs.map co_Store := rfl
def cl_Store (z : L6.LS) : List Value := [.string z.name, .slice z.a z.xs.length z.c, .int .i64 z.auto]
def vv_Store (z : L6.LS) : Value := .agg #[.string z.name, .slice z.a z.xs.length z.c, .int .i64 z.auto]
def rw_Store (z : L6.LS) : List RowS := rs_Item z.a z.c z.xs
def wt_Store (c : L6.S6) : Nat := c.name.size + (wsum wt_Item c.items)
theorem wt_Store_parts (z : L6.LS) : wt_Store (co_Store z) = z.name.size + (wsum wt_Item (coS_Item z.xs)) := rfl
theorem cl_Store_len (z : L6.LS) : (cl_Store z).length = 3 := rfl
def row_Store (a : Option Addr) (c : Nat) (xs : List L6.LS) : RowS := ⟨44, 3, a, c, xs.length, xs.flatMap cl_Store⟩
def rws_Store (xs : List L6.LS) : List RowS := xs.flatMap rw_Store
theorem rws_Store_eq (xs : List L6.LS) : rws_Store xs = xs.flatMap rw_Store := rfl
def rs_Store (a : Option Addr) (c : Nat) (xs : List L6.LS) : List RowS := row_Store a c xs :: rws_Store xs
theorem rws_Store_app (xs ys : List L6.LS) : rws_Store (xs ++ ys) = rws_Store xs ++ rws_Store ys := by rw [rws_Store_eq, rws_Store_eq, rws_Store_eq, List.flatMap_append]
def Wide_Store (z : L6.LS) : Prop := z.name.size ≤ maxLen ∧ (z.xs.length ≤ maxLen ∧ ∀ x ∈ z.xs, Wide_Item x) ∧ (-9223372036854775808 ≤ z.auto ∧ z.auto ≤ 9223372036854775807)
section
variable {H : Type} {enc : TypeId × Value → H} {W : World} {b : Nat} {sp : Nat → Bool} {hd : Bool}
theorem trod_Store {fuel : Nat} {cs : List Value} {x : DataW H × List MemPlace} (h : DataW.trod enc Try.prog W b sp hd fuel 64 cs = some x) (hlt : ∀ p ∈ x.2, p.block < W.heap.size) : ∃ z : L6.LS, cs = cl_Store z ∧ RowsRd W W.heap.size (rw_Store z) ∧ Wide_Store z := by
  obtain ⟨xs, n, _, hx, hl, hlen, hf⟩ := DataW.trod_struct Try.underlying64 h
  have hlN : cs.length = 3 := hl.trans (by kernel_rfl)
  match cs, hlN with
  | [c0, c1, c2], _ =>
    have h0 : DataW.trod enc Try.prog W b sp hd n 9 (List.take (Try.prog.cellsOf 9) (List.drop 0 [c0, c1, c2])) = xs[0]? := hf 0 _ rfl
    rw [show Try.prog.cellsOf 9 = 1 by kernel_rfl, List.getElem?_eq_getElem (by rw [hlen]; decide)] at h0
    obtain ⟨x0, e0, _, w0⟩ := DataW.trod_string Try.underlying9 h0
    have h1 : DataW.trod enc Try.prog W b sp hd n 62 (List.take (Try.prog.cellsOf 62) (List.drop 1 [c0, c1, c2])) = xs[1]? := hf 1 _ rfl
    rw [show Try.prog.cellsOf 62 = 1 by kernel_rfl, List.getElem?_eq_getElem (by rw [hlen]; decide)] at h1
    obtain ⟨a1, x1, c1', e1, r1, v1, l1, w1⟩ := trods_Item h1 (fun p hp => hlt p (by rw [hx]; exact List.mem_flatMap.2 ⟨_, List.getElem_mem (show 1 < xs.length by rw [hlen]; decide), hp⟩))
    have h2 : DataW.trod enc Try.prog W b sp hd n 3 (List.take (Try.prog.cellsOf 3) (List.drop 2 [c0, c1, c2])) = xs[2]? := hf 2 _ rfl
    rw [show Try.prog.cellsOf 3 = 1 by kernel_rfl, List.getElem?_eq_getElem (by rw [hlen]; decide)] at h2
    obtain ⟨x2, e2, _, w2⟩ := DataW.trod_int Try.underlying3 h2
    simp only [List.drop_succ_cons, List.drop_zero, List.take_succ_cons, List.take_zero, List.cons.injEq, and_true] at e0
    subst e0
    simp only [List.drop_succ_cons, List.drop_zero, List.take_succ_cons, List.take_zero, List.cons.injEq, and_true] at e1
    subst e1
    simp only [List.drop_succ_cons, List.drop_zero, List.take_succ_cons, List.take_zero, List.cons.injEq, and_true] at e2
    subst e2
    exact ⟨⟨x0, a1, c1', x1, x2⟩, rfl, rd_cons ⟨r1.1, r1.2.1, r1.2.2⟩ (by rw [rws_Item_eq]; exact v1), ⟨w0, ⟨l1, w1⟩, Law.wf_i64 w2⟩⟩
theorem trods_Store {fuel : Nat} {cs : List Value} {x : DataW H × List MemPlace} (h : DataW.trod enc Try.prog W b sp hd fuel 22 cs = some x) (hlt : ∀ p ∈ x.2, p.block < W.heap.size) :
    ∃ (a : Option Addr) (xs : List L6.LS) (c : Nat), cs = [.slice a xs.length c] ∧ (Reads W W.heap.size a (xs.flatMap cl_Store) ∧ xs.length ≤ c ∧ (a = none → c = 0)) ∧ RowsRd W W.heap.size (xs.flatMap rw_Store) ∧ xs.length ≤ maxLen ∧ ∀ z ∈ xs, Wide_Store z :=
  trods cl_Store 3 cl_Store_len (by decide) rw_Store Wide_Store 22 64 Try.underlying22 (by kernel_rfl) (fun h hl => trod_Store h hl) h hlt
end
set_option maxHeartbeats 4000000 in
theorem to_Store (z : L6.LS) (hf : wt_Store (co_Store z) ≤ 1048576) (w : World) (hr : RowsRd w w.heap.size (rw_Store z)) : Calls Try.prog 47 #[vv_Store z] w fun e w' => ∃ y : L6.LS, e = .returned (vv_Store y) ∧ co_Store y = co_Store z ∧ BagOwn w' w.heap.size (rw_Store y) ∧ Below w.heap.size w w' := by
  have hfp := hf
  rw [wt_Store_parts] at hfp
  have HC1 := Lib.hid (fun w' (h : Below w.heap.size w w') => to_ItemS z.a z.c z.xs (by omega) w' (((rd_head hr).reads.below h).more h.size) (((rd_tail hr).below h).more h.size))
  clear hfp hf hr
  unfold vv_Store
  have S1 := Lib.hid (show Sl.Sep w ((w.alloc (.cells #[.string z.name, .slice z.a z.xs.length z.c, .int .i64 z.auto] 64)).alloc (.cells #[.string ⟨#[]⟩, .slice none 0 0, .int .i64 0] 44)) [L4.boxR w.heap.size 64 #[.string z.name, .slice z.a z.xs.length z.c, .int .i64 z.auto], L4.boxR (w.heap.size + 1) 44 #[.string ⟨#[]⟩, .slice none 0 0, .int .i64 0]] from L4.push_box (L4.push_box (Sl.Sep.start w) 64 #[.string z.name, .slice z.a z.xs.length z.c, .int .i64 z.auto] (w.heap.size) (by simp)) 44 #[.string ⟨#[]⟩, .slice none 0 0, .int .i64 0] (w.heap.size + 1) (by simp))
  obtain ⟨wa, hwa⟩ : ∃ u, u = ((w.alloc (.cells #[.string z.name, .slice z.a z.xs.length z.c, .int .i64 z.auto] 64)).alloc (.cells #[.string ⟨#[]⟩, .slice none 0 0, .int .i64 0] 44)) := ⟨_, rfl⟩
  rw [← hwa] at S1
  go_enter Try.func47, Try.ntmps47
  go_upto_region 1 with fail
  rw [← hwa]
  clear hwa
  go_upto_region 2 with fail
  have S2 := Lib.hid (show Sl.Sep w _ [L4.boxR w.heap.size 64 #[.string z.name, .slice z.a z.xs.length z.c, .int .i64 z.auto], L4.boxR (w.heap.size + 1) 44 #[.string ⟨#[]⟩, .slice none 0 0, .int .i64 0], L4.boxR wa.heap.size 44 #[.string ⟨#[]⟩, .slice none 0 0, .int .i64 0]] from L4.push_box S1.out 44 #[.string ⟨#[]⟩, .slice none 0 0, .int .i64 0] wa.heap.size rfl)
  clear S1
  obtain ⟨g1, hg⟩ : ∃ g', g' = wa.heap.size := ⟨_, rfl⟩
  rw [← hg] at S2 ⊢
  clear hg
  generalize wa.alloc (.cells #[.string ⟨#[]⟩, .slice none 0 0, .int .i64 0] 44) = w1 at S2 ⊢
  have hh := Bag.cs3 S2.out 0 rfl
  have f0 := hh.1; have f1 := hh.2.1; have f2 := hh.2.2; clear hh
  have hh := Bag.cs3 S2.out 2 rfl
  have f3 := hh.1; have f4 := hh.2.1; have f5 := hh.2.2; clear hh
  have z0 := Bag.free_at S2.out 2 rfl 0
  go_upto_region 3 with fail
  clear f0 f1 f2 f3 f4 f5 z0
  have S3 := Lib.hid (show Sl.Sep w _ [L4.boxR w.heap.size 64 #[.string z.name, .slice z.a z.xs.length z.c, .int .i64 z.auto], L4.boxR (w.heap.size + 1) 44 #[.string ⟨#[]⟩, .slice none 0 0, .int .i64 0], L4.boxR g1 44 #[.string z.name, .slice none 0 0, .int .i64 0]] from L5.put_box5 (S2.out) 2 rfl 0 (.string z.name))
  clear S2
  have hh := Bag.cs3 S3.out 0 rfl
  have f0 := hh.1; have f1 := hh.2.1; have f2 := hh.2.2; clear hh
  go_wp2_with fail
  go_at_call 67
  refine (HC1.out _ S3.out.old).mono ?_
  rintro e w2 ⟨a1', c1', y1, rfl, hc1, ho, hb⟩
  clear f0 f1 f2
  have S4 := Lib.hid (show Sl.Sep w _ [L4.boxR w.heap.size 64 #[.string z.name, .slice z.a z.xs.length z.c, .int .i64 z.auto], L4.boxR (w.heap.size + 1) 44 #[.string ⟨#[]⟩, .slice none 0 0, .int .i64 0], L4.boxR g1 44 #[.string z.name, .slice none 0 0, .int .i64 0], Bag.bag (rs_Item a1' c1' y1)] from Bag.push_bag S3.out hb ho)
  clear S3
  clear hb ho
  have HQ1 := Lib.hid hc1
  clear hc1
  have hh := Bag.cs3 S4.out 0 rfl
  have f0 := hh.1; have f1 := hh.2.1; have f2 := hh.2.2; clear hh
  have hh := Bag.cs3 S4.out 2 rfl
  have f3 := hh.1; have f4 := hh.2.1; have f5 := hh.2.2; clear hh
  have z1 := Bag.free_at S4.out 2 rfl 1
  go_upto_region 4 with fail
  clear f0 f1 f2 f3 f4 f5 z1
  have S5 := Lib.hid (show Sl.Sep w _ [L4.boxR w.heap.size 64 #[.string z.name, .slice z.a z.xs.length z.c, .int .i64 z.auto], L4.boxR (w.heap.size + 1) 44 #[.string ⟨#[]⟩, .slice none 0 0, .int .i64 0], L4.boxR g1 44 #[.string z.name, .slice a1' y1.length c1', .int .i64 0], Bag.bag (rs_Item a1' c1' y1)] from L5.put_box5 (S4.out) 2 rfl 1 (.slice a1' y1.length c1'))
  clear S4
  have hh := Bag.cs3 S5.out 0 rfl
  have f0 := hh.1; have f1 := hh.2.1; have f2 := hh.2.2; clear hh
  have hh := Bag.cs3 S5.out 2 rfl
  have f3 := hh.1; have f4 := hh.2.1; have f5 := hh.2.2; clear hh
  have z2 := Bag.free_at S5.out 2 rfl 2
  go_upto_region 5 with fail
  clear f0 f1 f2 f3 f4 f5 z2
  have S6 := Lib.hid (show Sl.Sep w _ [L4.boxR w.heap.size 64 #[.string z.name, .slice z.a z.xs.length z.c, .int .i64 z.auto], L4.boxR (w.heap.size + 1) 44 #[.string ⟨#[]⟩, .slice none 0 0, .int .i64 0], L4.boxR g1 44 #[.string z.name, .slice a1' y1.length c1', .int .i64 z.auto], Bag.bag (rs_Item a1' c1' y1)] from L5.put_box5 (S5.out) 2 rfl 2 (.int .i64 z.auto))
  clear S5
  have hh := Bag.cs3 S6.out 1 rfl
  have f0 := hh.1; have f1 := hh.2.1; have f2 := hh.2.2; clear hh
  have hh := Bag.cs3 S6.out 2 rfl
  have f3 := hh.1; have f4 := hh.2.1; have f5 := hh.2.2; clear hh
  have hh := Bag.fs3 S6.out 1 rfl
  have z0 := hh.1; have z1 := hh.2.1; have z2 := hh.2.2; clear hh
  go_wp2_with fail
  clear f0 f1 f2 f3 f4 f5 z0 z1 z2
  have S7 := Lib.hid (show Sl.Sep w _ [L4.boxR w.heap.size 64 #[.string z.name, .slice z.a z.xs.length z.c, .int .i64 z.auto], L4.boxR (w.heap.size + 1) 44 #[.string z.name, .slice a1' y1.length c1', .int .i64 z.auto], L4.boxR g1 44 #[.string z.name, .slice a1' y1.length c1', .int .i64 z.auto], Bag.bag (rs_Item a1' c1' y1)] from L5.put_box5 (L5.put_box5 (L5.put_box5 (S6.out) 1 rfl 0 (.string z.name)) 1 rfl 1 (.slice a1' y1.length c1')) 1 rfl 2 (.int .i64 z.auto))
  clear S6
  have hh := Bag.cs3 S7.out 1 rfl
  have f0 := hh.1; have f1 := hh.2.1; have f2 := hh.2.2; clear hh
  refine bodyPost_ret (v := .agg #[.string z.name, .slice a1' y1.length c1', .int .i64 z.auto]) (by simp [results, Try.results47, go_sem, *]) rfl ?_
  clear f0 f1 f2
  refine ⟨⟨z.name, a1', c1', y1, z.auto⟩, rfl, ?_, Bag.bag_from S7.out 3 rfl, S7.out.old⟩
  show (⟨z.name, coS_Item y1, z.auto⟩ : L6.S6) = (⟨z.name, coS_Item z.xs, z.auto⟩ : L6.S6)
  rw [HQ1.out]
theorem info_Store : ∃ i, Try.prog.info? 44 = some i ∧ i.zero = some (.agg #[.string ⟨#[]⟩, .slice none 0 0, .int .i64 0]) ∧ i.size = 3 ∧ i.bytes = 48 := Ex.infoOf _ _ _ _ (by kernel_rfl)
set_option maxHeartbeats 4000000 in
theorem to_StoreS (a : Option Addr) (c : Nat) (xs : List L6.LS) (hf : wsum wt_Store (coS_Store xs) ≤ 1048576) (w : World) (hr : Reads w w.heap.size a (xs.flatMap cl_Store)) (hx : RowsRd w w.heap.size (rws_Store xs)) :
    Calls Try.prog 24 #[.slice a xs.length c] w fun e w' => ∃ a' c' ys, e = .returned (.slice a' ys.length c') ∧ coS_Store ys = coS_Store xs ∧ BagOwn w' w.heap.size (rs_Store a' c' ys) ∧ Below w.heap.size w w' := by
  obtain ⟨i0, hi1, hi2, hi3, hi4⟩ := info_Store
  have HI := Lib.hid (And.intro hi1 (And.intro hi2 (And.intro hi3 hi4)))
  clear hi1 hi2 hi3 hi4
  rw [coS_Store_eq] at hf
  have HR := Lib.hid (fun w' (h : Below w.heap.size w w') => hr.below h)
  have HX := Lib.hid (fun w' (h : Below w.heap.size w w') => (hx.below h).more h.size)
  have HF := Lib.hid hf
  have hl : xs.length ≤ 1048576 := by have := wsum_len wt_Store (xs.map co_Store); rw [List.length_map] at this; omega
  obtain ⟨N, hN⟩ : ∃ n, n = xs.length := ⟨_, rfl⟩
  rw [← hN] at hl ⊢
  have hl' : (N : Int) ≤ 1048576 := by omega
  have HN := Lib.hid hN
  clear hN hr hx hf
  obtain ⟨Z, hZ⟩ : ∃ Z, Z = (madeCells (Value.agg #[.string ⟨#[]⟩, .slice none 0 0, .int .i64 0]).cells (N * 3)).toList := ⟨_, rfl⟩
  have HZ := Lib.hid (show Z.length = N * 3 by rw [hZ]; simp [madeCells])
  have HZD := Lib.hid hZ
  clear hZ
  have S1 := Lib.hid (show Sl.Sep w w [] from Sl.Sep.start w)
  go_enter Try.func24, Try.ntmps24
  go_upto_region 2 with (at_make; refine Run.wpList_make_s S1.out rfl _ _ 28 rfl 44 i0 (.agg #[.string ⟨#[]⟩, .slice none 0 0, .int .i64 0]) 3 Try.underlying28 HI.out.1 HI.out.2.1 HI.out.2.2.1 _ _ N rfl rfl (by rw [HI.out.2.2.2]; omega) (by unfold maxLen; omega) ?_; intro w1 S')
  obtain ⟨g1, hg⟩ : ∃ g', g' = w.heap.size := ⟨_, rfl⟩
  rw [← hg] at S' ⊢
  clear hg
  have S2 := Lib.hid (show Sl.Sep w _ [Sv.ownV 44 3 (some ⟨g1, 0, none⟩) N N (([] : List L6.LS).flatMap cl_Store ++ Z)] from (by have h := S'; rw [← HZD.out] at h; exact h))
  clear S1
  clear S'
  have S3 := Lib.hid (show Sl.Sep w _ [Sv.ownV 44 3 (some ⟨g1, 0, none⟩) N N (([] : List L6.LS).flatMap cl_Store ++ Z), Bag.bag (rws_Store [])] from Bag.push_bag S2.out (Below.refl _ _) (by rw [rws_Store_eq]; exact Bag.BagOwn.nil _ _))
  clear S2
  go_wp2_with fail
  go_loopw [4] (fun i wr => ∃ (k : Nat) (ys : List L6.LS) (Zs : List Value), k ≤ N ∧ i = .int .i64 k ∧ Hid ((ys.map co_Store = (xs.take k).map co_Store ∧ ys.length = k ∧ Zs.length = (N - k) * 3) ∧ Sl.Sep w wr [Sv.ownV 44 3 (some ⟨g1, 0, none⟩) N N (ys.flatMap cl_Store ++ Zs), Bag.bag (rws_Store ys)])) (fun i _ => N - (intOf i).toNat)
  case atStart => exact ⟨0, [], Z, Nat.zero_le _, rfl, And.intro ⟨rfl, rfl, HZ.out⟩ S3.out⟩
  case round =>
    obtain ⟨k, ys, Zs, hk, rfl, hrel⟩ := hrel
    have HC := Lib.hid hrel.out.1
    have S4 := Lib.hid hrel.out.2
    clear hrel S3
    by_cases hlt : (k : Int) < (N : Int)
    · skip
      have hkl : k < xs.length := by have := HN.out; omega
      obtain ⟨x, hx⟩ : ∃ x, xs[k]? = some x := ⟨_, List.getElem?_eq_getElem hkl⟩
      obtain ⟨ad, e'⟩ := el_some cl_Store_len (by decide) (HR.out _ S4.out.old) hkl
      subst e'
      have HK := Lib.hid (fun w' (h : Below w.heap.size w w') => el3 cl_Store_len (HR.out _ h) hx rfl)
      have HTX := Lib.hid (take_next hx)
      have HL := Lib.hid (show (ys.flatMap cl_Store).length = k * 3 ∧ k * 3 + 3 ≤ (ys.flatMap cl_Store ++ Zs).length ∧ 3 ≤ Zs.length from by have h1 := HC.out.2.1; have h2 := HC.out.2.2; rw [List.length_append, flat_len cl_Store_len, h1, h2]; omega)
      have HCI := Lib.hid (fun w' (h : Below w.heap.size w w') => to_Store x (by have h1 := wsum_mem (f := wt_Store) (List.mem_map.2 ⟨x, List.mem_of_getElem? hx, rfl⟩ : co_Store x ∈ xs.map co_Store); have h2 := HF.out; omega) w' (rd_el (rw_ := rw_Store) (by rw [← rws_Store_eq]; exact HX.out w' h) hx))
      dsimp only [vv_Store] at HCI
      clear hx
      have hh := HK.out _ S4.out.old
      have f0 := hh.1; have f1 := hh.2.1; have f2 := hh.2.2; clear hh
      go_wp2_with fail
      go_at_call 47
      refine (HCI.out _ S4.out.old).mono ?_
      rintro e w2 ⟨y, rfl, hcy, ho, hb⟩
      clear f0 f1 f2
      have S5 := Lib.hid (show Sl.Sep w _ [Sv.ownV 44 3 (some ⟨g1, 0, none⟩) N N (ys.flatMap cl_Store ++ Zs), Bag.bag (rws_Store ys), Bag.bag (rw_Store y)] from Bag.push_bag S4.out hb ho)
      clear S4
      clear hb ho
      have HCY := Lib.hid hcy
      clear hcy
      try dsimp only [vv_Store]
      have q0 := (Sv.own_at S5.out 0 rfl).cell (k * 3) (by have := HL.out.2.1; omega)
      have z0 := (Sv.own_at S5.out 0 rfl).free (k * 3)
      have q1 := (Sv.own_at S5.out 0 rfl).cell (k * 3 + 1) (by have := HL.out.2.1; omega)
      have z1 := (Sv.own_at S5.out 0 rfl).free (k * 3 + 1)
      have q2 := (Sv.own_at S5.out 0 rfl).cell (k * 3 + 2) (by have := HL.out.2.1; omega)
      have z2 := (Sv.own_at S5.out 0 rfl).free (k * 3 + 2)
      go_wp2_with fail
      clear q0 z0 q1 z1 q2 z2
      have S6 := Lib.hid (show Sl.Sep w (World.setCells w2 g1 (k * 3) [.string y.name, .slice y.a y.xs.length y.c, .int .i64 y.auto]) [Sv.ownV 44 3 (some ⟨g1, 0, none⟩) N N ((ys ++ [y]).flatMap cl_Store ++ Zs.drop 3), Bag.bag (rws_Store ys), Bag.bag (rw_Store y)] from (by have h := Run.put_run S5.out 0 rfl (k * 3) [.string y.name, .slice y.a y.xs.length y.c, .int .i64 y.auto] (by have := HL.out.2.1; simpa using this); rw [Run.over_at _ _ _ _ HL.out.1 (by have := HL.out.2.2; simpa using this)] at h; rw [List.flatMap_append, List.append_assoc]; exact h))
      clear S5
      have S7 := Lib.hid (show Sl.Sep w _ [Sv.ownV 44 3 (some ⟨g1, 0, none⟩) N N ((ys ++ [y]).flatMap cl_Store ++ Zs.drop 3), Bag.bag (rws_Store ys ++ (rw_Store y)), Bag.bag ([])] from Bag.bag_join S6.out 1 2 (by decide) rfl rfl)
      clear S6
      have S8 := Lib.hid (show Sl.Sep w _ [Sv.ownV 44 3 (some ⟨g1, 0, none⟩) N N ((ys ++ [y]).flatMap cl_Store ++ Zs.drop 3), Bag.bag (rws_Store ys ++ (rw_Store y))] from Bag.take S7.out [0, 1] (by rfl) (by decide))
      clear S7
      go_roundw
      case rel =>
        refine ⟨k + 1, ys ++ [y], Zs.drop 3, by omega, by go_num, And.intro ⟨?_, ?_, ?_⟩ ?_⟩
        · rw [HTX.out, List.map_append, List.map_append, HC.out.1]; rw [show [y].map co_Store = [x].map co_Store from congrArg (fun u => [u]) HCY.out]
        · rw [List.length_append, HC.out.2.1]; rfl
        · rw [List.length_drop, HC.out.2.2]; omega
        · rw [rws_Store_app]; rw [show rws_Store [y] = rw_Store y from by rw [rws_Store_eq]; simp]; exact S8.out
      case measure => simp [intOf]; omega
    · skip
      obtain rfl : k = N := by omega
      go_wp2_with fail
      go_ret
      obtain ⟨hc1, hc2, hc3⟩ := HC.out
      have hZs : Zs = [] := List.eq_nil_of_length_eq_zero (by rw [hc3]; omega)
      have hcon : ys.map co_Store = xs.map co_Store := by rw [hc1, List.take_of_length_le (by have := HN.out; omega)]
      have S90 := Lib.hid (Bag.bag_of_one S4.out 0 (r := row_Store (some ⟨g1, 0, none⟩) k ys) (by unfold RowS.res row_Store; dsimp only; rw [hZs, List.append_nil, hc2]; rfl))
      have S91 := Lib.hid (Bag.bag_join S90.out 0 1 (by decide) rfl rfl)
      have hb := Bag.bag_from S91.out 0 rfl
      subst hc2
      exact ⟨_, _, ys, rfl, by rw [coS_Store_eq, coS_Store_eq]; exact hcon, hb, S91.out.old⟩
set_option maxHeartbeats 4000000 in
theorem sz_Store (z : L6.LS) (q : Int) (hw : Wide_Store z) (hq0 : -1 ≤ q) (hq1 : q ≤ 1048576) (w : World) (hr : RowsRd w w.heap.size (rw_Store z)) : Calls Try.prog 40 #[vv_Store z, .int .i64 q] w fun e w' => e = .returned (.int .i64 (lft q (wt_Store (co_Store z)))) ∧ Below w.heap.size w w' := by
  have hs0 : (z.name.size : Int) ≤ 9223372036854775807 := by have h : z.name.size ≤ maxLen := hw.1; unfold maxLen at h; omega
  have HS1 := Lib.hid (fun (m : Int) (h0 : -1 ≤ m) (h1 : m ≤ 1048576) w' (h : Below w.heap.size w w') => sz_ItemS z.a z.c z.xs m hw.2.1.2 hw.2.1.1 h0 h1 w' (((rd_head hr).reads.below h).more h.size) (((rd_tail hr).below h).more h.size))
  have HW := Lib.hid (wt_Store_parts z)
  clear hw hr
  unfold vv_Store
  have S1 := Lib.hid (show Sl.Sep w (w.alloc (.cells #[.string z.name, .slice z.a z.xs.length z.c, .int .i64 z.auto] 64)) [L4.boxR w.heap.size 64 #[.string z.name, .slice z.a z.xs.length z.c, .int .i64 z.auto]] from L4.push_box (Sl.Sep.start w) 64 #[.string z.name, .slice z.a z.xs.length z.c, .int .i64 z.auto] (w.heap.size) (by simp))
  obtain ⟨wa, hwa⟩ : ∃ u, u = (w.alloc (.cells #[.string z.name, .slice z.a z.xs.length z.c, .int .i64 z.auto] 64)) := ⟨_, rfl⟩
  rw [← hwa] at S1
  go_enter Try.func40, Try.ntmps40
  go_upto_region 1 with fail
  rw [← hwa]
  clear hwa
  have hh := Bag.cs3 S1.out 0 rfl
  have f0 := hh.1; have f1 := hh.2.1; have f2 := hh.2.2; clear hh
  by_cases hn0 : q - (z.name.size : Int) < 0
  · skip
    go_wp2_with fail
    go_ret
    exact ⟨by rw [HW.out, lft_neg (by omega)] <;> rfl, S1.out.old⟩
  · skip
    obtain ⟨u1, hu⟩ : ∃ u, lft (q - (z.name.size : Int)) (wsum wt_Item (coS_Item z.xs)) = u := ⟨_, rfl⟩
    have hc1 := lft_cases hu
    have hr1 := lft_range (q := (q - (z.name.size : Int))) (wsum wt_Item (coS_Item z.xs)) (by omega)
    rw [hu] at hr1
    have HCU := HS1.out (q - (z.name.size : Int)) (by omega) (by omega)
    simp only [hu] at HCU
    replace HCU := Lib.hid HCU
    clear hu
    go_wp2_with fail
    go_at_call 62
    refine (HCU.out _ S1.out.old).mono ?_
    rintro e w1 ⟨rfl, hb⟩
    clear f0 f1 f2
    have S2 := Lib.hid (S1.out.keep hb)
    clear S1
    clear hb
    have hh := Bag.cs3 S2.out 0 rfl
    have f0 := hh.1; have f1 := hh.2.1; have f2 := hh.2.2; clear hh
    clear HCU
    by_cases hn1 : u1 < 0
    · have hm1 : u1 = -1 := by omega
      subst hm1
      go_wp2_with fail
      go_ret
      exact ⟨by rw [HW.out, lft_neg (by omega)] <;> rfl, S2.out.old⟩
    · skip
      go_wp2_with fail
      go_ret
      exact ⟨by rw [HW.out, lft_pos (by omega)] <;> first | rfl | (refine congrArg (fun i => Ending.returned (.int .i64 i)) ?_; omega), S2.out.old⟩
set_option maxHeartbeats 4000000 in
theorem sz_StoreS (a : Option Addr) (c : Nat) (xs : List L6.LS) (q : Int) (hw : ∀ x ∈ xs, Wide_Store x) (hm : xs.length ≤ maxLen) (hq0 : -1 ≤ q) (hq1 : q ≤ 1048576) (w : World) (hr : Reads w w.heap.size a (xs.flatMap cl_Store)) (hx : RowsRd w w.heap.size (rws_Store xs)) :
    Calls Try.prog 18 #[.slice a xs.length c, .int .i64 q] w fun e w' => e = .returned (.int .i64 (lft q (wsum wt_Store (coS_Store xs)))) ∧ Below w.heap.size w w' := by
  have HR := Lib.hid (fun w' (h : Below w.heap.size w w') => hr.below h)
  have HX := Lib.hid (fun w' (h : Below w.heap.size w w') => (hx.below h).more h.size)
  have HWD := Lib.hid hw
  have HW := Lib.hid (show wsum wt_Store (coS_Store xs) = xs.length + fsum (fun x => wt_Store (co_Store x)) xs from by rw [coS_Store_eq, wsum_map])
  obtain ⟨N, hN⟩ : ∃ n, n = xs.length := ⟨_, rfl⟩
  rw [← hN] at hm HW ⊢
  have HN := Lib.hid hN
  have hm' : (N : Int) ≤ 9223372036854775807 := by unfold maxLen at hm; omega
  clear hN hr hx hw hm
  have S1 := Lib.hid (show Sl.Sep w w [] from Sl.Sep.start w)
  by_cases hneg : q - (N : Int) < 0
  · skip
    go_enter Try.func18, Try.ntmps18
    go_wp2_with fail
    go_ret
    exact ⟨by rw [HW.out, lft_neg (by omega)] <;> rfl, Below.refl _ _⟩
  · skip
    go_enter Try.func18, Try.ntmps18
    go_wp2_with fail
    go_loopw [1, 5] (fun lv i wr => ∃ (k : Nat) (m : Int), k ≤ N ∧ i = .int .i64 k ∧ lv = .int .i64 m ∧ 0 ≤ m ∧ m ≤ 1048576 ∧ Hid (m = q - N - (fsum (fun x => wt_Store (co_Store x)) (xs.take k) : Int) ∧ Sl.Sep w wr [])) (fun _ i _ => N - (intOf i).toNat)
    case atStart => exact ⟨0, q - N, Nat.zero_le _, rfl, rfl, by omega, by omega, And.intro (by rw [List.take_zero, fsum_nil]; omega) S1.out⟩
    case round =>
      obtain ⟨k, m, hk, rfl, rfl, hm0, hm1, hrel⟩ := hrel
      have HA := Lib.hid hrel.out.1
      have S2 := Lib.hid hrel.out.2
      clear hrel S1
      by_cases hlt : (k : Int) < (N : Int)
      · skip
        have hkl : k < xs.length := by have := HN.out; omega
        obtain ⟨x, hx⟩ : ∃ x, xs[k]? = some x := ⟨_, List.getElem?_eq_getElem hkl⟩
        obtain ⟨ad, e'⟩ := el_some cl_Store_len (by decide) (HR.out _ S2.out.old) (List.getElem?_eq_some_iff.1 hx).1
        subst e'
        have HK := Lib.hid (fun w' (h : Below w.heap.size w w') => el3 cl_Store_len (HR.out _ h) hx rfl)
        have HAT := Lib.hid (fsum_at (f := (fun x => wt_Store (co_Store x))) hx)
        have HTK := Lib.hid (fsum_take (f := (fun x => wt_Store (co_Store x))) hx)
        try dsimp only at HAT HTK
        obtain ⟨fx, hfx⟩ : ∃ u, wt_Store (co_Store x) = u := ⟨_, rfl⟩
        rw [hfx] at HAT HTK
        obtain ⟨u, hu⟩ : ∃ u, lft m fx = u := ⟨_, rfl⟩
        have hcu := lft_cases hu
        have hru := lft_range (q := m) fx (by omega)
        rw [hu] at hru
        have HSI := fun w' (h : Below w.heap.size w w') => sz_Store x m (HWD.out x (List.mem_of_getElem? hx)) (by omega) hm1 w' (rd_el (rw_ := rw_Store) (by rw [← rws_Store_eq]; exact HX.out w' h) hx)
        rw [hfx, hu] at HSI
        dsimp only [vv_Store] at HSI
        replace HSI := Lib.hid HSI
        clear hfx hu hx
        have hh := HK.out _ S2.out.old
        have f0 := hh.1; have f1 := hh.2.1; have f2 := hh.2.2; clear hh
        go_wp2_with fail
        go_at_call 40
        refine (HSI.out _ S2.out.old).mono ?_
        rintro e w1 ⟨rfl, hb⟩
        clear f0 f1 f2
        have S3 := Lib.hid (S2.out.keep hb)
        clear S2
        clear hb
        by_cases h0 : u < 0
        · have hm1' : u = -1 := by omega
          subst hm1'
          go_wp2_with fail
          go_ret
          exact ⟨by rw [HW.out, lft_neg (by have := HA.out; have := HAT.out; omega)] <;> rfl, S3.out.old⟩
        · skip
          go_wp2_with fail
          go_roundw
          case rel => exact ⟨k + 1, u, by omega, by go_num, rfl, by omega, by omega, And.intro (by rw [HTK.out]; have := HA.out; omega) S3.out⟩
          case measure => simp [intOf]; omega
      · skip
        obtain rfl : k = N := by omega
        have HT := HA.out
        rw [List.take_of_length_le (Nat.le_of_eq HN.out.symm)] at HT
        go_wp2_with fail
        go_ret
        exact ⟨by rw [HW.out, lft_pos (by omega)] <;> first | rfl | (refine congrArg (fun i => Ending.returned (.int .i64 i)) ?_; omega), S2.out.old⟩
set_option maxHeartbeats 4000000 in
theorem eq_Store (y z : L6.LS) (hc : co_Store y = co_Store z) (hf : wt_Store (co_Store y) ≤ 1125899906842624) (w : World) (hr : RowsRd w w.heap.size (rw_Store y)) (hr2 : RowsRd w w.heap.size (rw_Store z)) : Calls Try.prog 53 #[vv_Store y, vv_Store z] w fun e w' => e = .returned (.bool true) ∧ Below w.heap.size w w' := by
  have hfp := hf
  rw [wt_Store_parts] at hfp
  have ee0 : z.name = y.name := (show y.name = z.name from congrArg L6.S6.name (hc)).symm
  have ee1 : z.xs.length = y.xs.length := (by have h := congrArg List.length (show coS_Item y.xs = coS_Item z.xs from congrArg L6.S6.items (hc)); rw [coS_Item_eq, coS_Item_eq, List.length_map, List.length_map] at h; exact h.symm)
  have ee2 : z.auto = y.auto := (show y.auto = z.auto from congrArg L6.S6.auto (hc)).symm
  have HE1 := Lib.hid (fun w' (h : Below w.heap.size w w') => eq_ItemS y.a z.a y.c z.c y.xs z.xs (congrArg L6.S6.items hc) (by omega) w' (((rd_head hr).reads.below h).more h.size) (((rd_tail hr).below h).more h.size) (((rd_head hr2).reads.below h).more h.size) (((rd_tail hr2).below h).more h.size))
  simp only [ee0, ee1, ee2] at HE1
  have hv : vv_Store z = .agg #[.string y.name, .slice z.a y.xs.length z.c, .int .i64 y.auto] := by unfold vv_Store; simp only [ee0, ee1, ee2]
  rw [hv]
  clear hv hfp hf hc hr hr2 ee0 ee1 ee2
  unfold vv_Store
  have S1 := Lib.hid (show Sl.Sep w ((w.alloc (.cells #[.string y.name, .slice y.a y.xs.length y.c, .int .i64 y.auto] 44)).alloc (.cells #[.string y.name, .slice z.a y.xs.length z.c, .int .i64 y.auto] 44)) [L4.boxR w.heap.size 44 #[.string y.name, .slice y.a y.xs.length y.c, .int .i64 y.auto], L4.boxR (w.heap.size + 1) 44 #[.string y.name, .slice z.a y.xs.length z.c, .int .i64 y.auto]] from L4.push_box (L4.push_box (Sl.Sep.start w) 44 #[.string y.name, .slice y.a y.xs.length y.c, .int .i64 y.auto] (w.heap.size) (by simp)) 44 #[.string y.name, .slice z.a y.xs.length z.c, .int .i64 y.auto] (w.heap.size + 1) (by simp))
  obtain ⟨wa, hwa⟩ : ∃ u, u = ((w.alloc (.cells #[.string y.name, .slice y.a y.xs.length y.c, .int .i64 y.auto] 44)).alloc (.cells #[.string y.name, .slice z.a y.xs.length z.c, .int .i64 y.auto] 44)) := ⟨_, rfl⟩
  rw [← hwa] at S1
  go_enter Try.func53, Try.ntmps53
  go_upto_region 1 with fail
  rw [← hwa]
  clear hwa
  have hh := Bag.cs3 S1.out 0 rfl
  have f0 := hh.1; have f1 := hh.2.1; have f2 := hh.2.2; clear hh
  have hh := Bag.cs3 S1.out 1 rfl
  have f3 := hh.1; have f4 := hh.2.1; have f5 := hh.2.2; clear hh
  go_wp2_with fail
  go_at_call 73
  refine (HE1.out _ S1.out.old).mono ?_
  rintro e w1 ⟨rfl, hb⟩
  clear f0 f1 f2 f3 f4 f5
  have S2 := Lib.hid (S1.out.keep hb)
  clear S1
  clear hb
  have hh := Bag.cs3 S2.out 0 rfl
  have f0 := hh.1; have f1 := hh.2.1; have f2 := hh.2.2; clear hh
  have hh := Bag.cs3 S2.out 1 rfl
  have f3 := hh.1; have f4 := hh.2.1; have f5 := hh.2.2; clear hh
  go_wp2_with fail
  go_ret
  exact ⟨rfl, S2.out.old⟩
set_option maxHeartbeats 4000000 in
theorem eq_StoreS (a a2 : Option Addr) (c c2 : Nat) (xs xs2 : List L6.LS) (hc : coS_Store xs = coS_Store xs2) (hf : wsum wt_Store (coS_Store xs) ≤ 1125899906842624) (w : World) (hr : Reads w w.heap.size a (xs.flatMap cl_Store)) (hx : RowsRd w w.heap.size (rws_Store xs)) (hr2 : Reads w w.heap.size a2 (xs2.flatMap cl_Store)) (hx2 : RowsRd w w.heap.size (rws_Store xs2)) :
    Calls Try.prog 30 #[.slice a xs.length c, .slice a2 xs2.length c2] w fun e w' => e = .returned (.bool true) ∧ Below w.heap.size w w' := by
  have hlen : xs2.length = xs.length := by have h := congrArg List.length hc; rw [coS_Store_eq, coS_Store_eq, List.length_map, List.length_map] at h; exact h.symm
  have hl : xs.length ≤ 1125899906842624 := by have := wsum_len wt_Store (coS_Store xs); rw [coS_Store_eq, List.length_map] at this; rw [coS_Store_eq] at hf; omega
  have HR := Lib.hid (fun w' (h : Below w.heap.size w w') => hr.below h)
  have HR2 := Lib.hid (fun w' (h : Below w.heap.size w w') => hr2.below h)
  have HX := Lib.hid (fun w' (h : Below w.heap.size w w') => (hx.below h).more h.size)
  have HX2 := Lib.hid (fun w' (h : Below w.heap.size w w') => (hx2.below h).more h.size)
  rw [coS_Store_eq] at hf
  have HF := Lib.hid hf
  have HS := Lib.hid (show xs.map co_Store = xs2.map co_Store from by rw [← coS_Store_eq, ← coS_Store_eq]; exact hc)
  obtain ⟨N, hN⟩ : ∃ n, n = xs.length := ⟨_, rfl⟩
  rw [hlen, ← hN]
  rw [← hN] at hl
  have hl' : (N : Int) ≤ 1125899906842624 := by omega
  have HN := Lib.hid hN
  clear hN hr hr2 hx hx2 hf hc hlen
  have S1 := Lib.hid (show Sl.Sep w w [] from Sl.Sep.start w)
  go_enter Try.func30, Try.ntmps30
  go_wp2_with fail
  go_loopw [5] (fun i wr => ∃ k : Nat, k ≤ N ∧ i = .int .i64 k ∧ Hid (Sl.Sep w wr [])) (fun i _ => N - (intOf i).toNat)
  case atStart => exact ⟨0, Nat.zero_le _, rfl, S1.out⟩
  case round =>
    obtain ⟨k, hk, rfl, hrel⟩ := hrel
    have S2 := Lib.hid hrel.out
    clear hrel S1
    by_cases hlt : (k : Int) < (N : Int)
    · skip
      have hkl : k < xs.length := by have := HN.out; omega
      obtain ⟨x, hx⟩ : ∃ x, xs[k]? = some x := ⟨_, List.getElem?_eq_getElem hkl⟩
      obtain ⟨ad, e'⟩ := el_some cl_Store_len (by decide) (HR.out _ S2.out.old) (List.getElem?_eq_some_iff.1 hx).1
      subst e'
      have HK := Lib.hid (fun w' (h : Below w.heap.size w w') => el3 cl_Store_len (HR.out _ h) hx rfl)
      obtain ⟨x2, hx2, hcx⟩ := map_same HS.out hx
      obtain ⟨ad2, e'⟩ := el_some cl_Store_len (by decide) (HR2.out _ S2.out.old) (List.getElem?_eq_some_iff.1 hx2).1
      subst e'
      have HK2 := Lib.hid (fun w' (h : Below w.heap.size w w') => el3 cl_Store_len (HR2.out _ h) hx2 rfl)
      have ee0 : x2.name = x.name := (show x.name = x2.name from congrArg L6.S6.name (hcx.symm)).symm
      have ee1 : x2.xs.length = x.xs.length := (by have h := congrArg List.length (show coS_Item x.xs = coS_Item x2.xs from congrArg L6.S6.items (hcx.symm)); rw [coS_Item_eq, coS_Item_eq, List.length_map, List.length_map] at h; exact h.symm)
      have ee2 : x2.auto = x.auto := (show x.auto = x2.auto from congrArg L6.S6.auto (hcx.symm)).symm
      have HEQ := fun w' (h : Below w.heap.size w w') => eq_Store x x2 hcx.symm (by have h1 := wsum_mem (f := wt_Store) (List.mem_map.2 ⟨x, List.mem_of_getElem? hx, rfl⟩ : co_Store x ∈ xs.map co_Store); have h2 := HF.out; omega) w' (rd_el (rw_ := rw_Store) (by rw [← rws_Store_eq]; exact HX.out w' h) hx) (rd_el (rw_ := rw_Store) (by rw [← rws_Store_eq]; exact HX2.out w' h) hx2)
      dsimp only [vv_Store] at HEQ
      try dsimp only [cl_Store] at HK2
      simp only [ee0, ee1, ee2] at HEQ HK2
      replace HEQ := Lib.hid HEQ
      clear hcx ee0 ee1 ee2
      try dsimp only [vv_Store] at HEQ
      clear hx hx2
      go_upto_region 6 with fail
      refine wp_region_held_drew (S := (fun w' => (World.cell? w' (ad.add (k * 3)) = some (.string x.name) ∧ World.cell? w' (⟨(ad.add (k * 3)).block, (ad.add (k * 3)).off + 1, none⟩) = some (.slice x.a x.xs.length x.c) ∧ World.cell? w' (⟨(ad.add (k * 3)).block, (ad.add (k * 3)).off + 2, none⟩) = some (.int .i64 x.auto)) ∧ (World.cell? w' (ad2.add (k * 3)) = some (.string x.name) ∧ World.cell? w' (⟨(ad2.add (k * 3)).block, (ad2.add (k * 3)).off + 1, none⟩) = some (.slice x2.a x.xs.length x2.c) ∧ World.cell? w' (⟨(ad2.add (k * 3)).block, (ad2.add (k * 3)).off + 2, none⟩) = some (.int .i64 x.auto)))) (by kernel_rfl) ⟨HK.out _ (Bag.drew1 S2.out).old, HK2.out _ (Bag.drew1 S2.out).old⟩ (fun hS => ?_)
      have S3 := Lib.hid (show Sl.Sep w _ [] from Bag.drew1 S2.out)
      clear S2
      generalize World.drew _ = w1 at hS S3 ⊢
      refine tk 0 rfl ?_
      try simp only [zp0, zp1, zp2, zp3, zp4]
      refine tk 1 rfl ?_
      try simp only [zp0, zp1, zp2, zp3, zp4]
      refine tk 2 rfl ?_
      try simp only [zp0, zp1, zp2, zp3, zp4]
      refine tk 3 rfl ?_
      try simp only [zp0, zp1, zp2, zp3, zp4]
      refine tk 4 rfl ?_
      try simp only [zp0, zp1, zp2, zp3, zp4]
      refine tk 5 rfl ?_
      try simp only [zp0, zp1, zp2, zp3, zp4]
      refine tk 6 rfl ?_
      try simp only [zp0, zp1, zp2, zp3, zp4]
      refine tk 7 rfl ?_
      try simp only [zp0, zp1, zp2, zp3, zp4]
      refine Reg.one_op (i := 8) rfl (by kernel_rfl) (fun K hK => ?_)
      go_simp
      go_at_call 53
      refine (HEQ.out _ S3.out.old).mono ?_
      rintro e w2 ⟨rfl, hb⟩
      have S4 := Lib.hid (S3.out.keep hb)
      clear S3
      clear hb
      go_wp2_with fail
      refine hK.out _ _ ⟨HK.out _ S4.out.old, HK2.out _ S4.out.old⟩ (fun hS => ?_)
      clear hK K
      try simp only [zp0, zp1, zp2, zp3, zp4]
      refine tk 9 rfl ?_
      try simp only [zp0, zp1, zp2, zp3, zp4]
      refine wpAnyH_done (by kernel_rfl) ?_ _
      have hh := HK.out _ S4.out.old
      have f0 := hh.1; have f1 := hh.2.1; have f2 := hh.2.2; clear hh
      have hh := HK2.out _ S4.out.old
      have f3 := hh.1; have f4 := hh.2.1; have f5 := hh.2.2; clear hh
      go_wp2_with fail
      go_roundw
      case rel => exact ⟨k + 1, by omega, by go_num, S4.out⟩
      case measure => simp [intOf]; omega
    · skip
      go_wp2_with fail
      go_ret
      exact ⟨rfl, S2.out.old⟩
end Go.Proofs.Ytboefioalkjdaaa.V

/-
  The exact laws' helpers for IndexDef, and for slices of it: how such a value opens, its copy, its room, comparison, marks. Condition: a weight of at most 2^20 (2^50 for comparison and marks). (Written by my program gen_v.py.)
-/
namespace Go.Proofs.Ytboefioalkjdaaa.V
set_option maxRecDepth 100000
open Go.ChangeShapes Go.WideShapes Go.ChangeAt Go.RowKit Mem Sl Sv Bag
open L5 (markT)
set_option linter.unusedVariables false
set_option linter.unusedSimpArgs false
structure X_IndexDef where
  f_Store : ByteArray
  f_Field : ByteArray
def co_IndexDef (z : X_IndexDef) : X_IndexDef := z
def coS_IndexDef (xs : List X_IndexDef) : List X_IndexDef := xs
theorem coS_IndexDef_eq (xs : List X_IndexDef) : coS_IndexDef xs = xs.map co_IndexDef := (List.map_id' xs).symm
def cl_IndexDef (z : X_IndexDef) : List Value := [.string z.f_Store, .string z.f_Field]
def vv_IndexDef (z : X_IndexDef) : Value := .agg #[.string z.f_Store, .string z.f_Field]
def rw_IndexDef (z : X_IndexDef) : List RowS := []
def wt_IndexDef (c : X_IndexDef) : Nat := c.f_Store.size + (c.f_Field.size)
theorem wt_IndexDef_parts (z : X_IndexDef) : wt_IndexDef (co_IndexDef z) = z.f_Store.size + (z.f_Field.size) := rfl
theorem cl_IndexDef_len (z : X_IndexDef) : (cl_IndexDef z).length = 2 := rfl
def row_IndexDef (a : Option Addr) (c : Nat) (xs : List X_IndexDef) : RowS := ⟨46, 2, a, c, xs.length, xs.flatMap cl_IndexDef⟩
def rws_IndexDef (_ : List X_IndexDef) : List RowS := []
theorem rws_IndexDef_eq (xs : List X_IndexDef) : rws_IndexDef xs = xs.flatMap rw_IndexDef := by
  show [] = _
  induction xs with
  | nil => rfl
  | cons x xs ih => rw [List.flatMap_cons, ← ih]; rfl
def rs_IndexDef (a : Option Addr) (c : Nat) (xs : List X_IndexDef) : List RowS := row_IndexDef a c xs :: rws_IndexDef xs
def Wide_IndexDef (z : X_IndexDef) : Prop := z.f_Store.size ≤ maxLen ∧ z.f_Field.size ≤ maxLen
section
variable {H : Type} {enc : TypeId × Value → H} {W : World} {b : Nat} {sp : Nat → Bool} {hd : Bool}
theorem trod_IndexDef {fuel : Nat} {cs : List Value} {x : DataW H × List MemPlace} (h : DataW.trod enc Try.prog W b sp hd fuel 66 cs = some x) (hlt : ∀ p ∈ x.2, p.block < W.heap.size) : ∃ z : X_IndexDef, cs = cl_IndexDef z ∧ RowsRd W W.heap.size (rw_IndexDef z) ∧ Wide_IndexDef z := by
  obtain ⟨xs, n, _, hx, hl, hlen, hf⟩ := DataW.trod_struct Try.underlying66 h
  have hlN : cs.length = 2 := hl.trans (by kernel_rfl)
  match cs, hlN with
  | [c0, c1], _ =>
    have h0 : DataW.trod enc Try.prog W b sp hd n 9 (List.take (Try.prog.cellsOf 9) (List.drop 0 [c0, c1])) = xs[0]? := hf 0 _ rfl
    rw [show Try.prog.cellsOf 9 = 1 by kernel_rfl, List.getElem?_eq_getElem (by rw [hlen]; decide)] at h0
    obtain ⟨x0, e0, _, w0⟩ := DataW.trod_string Try.underlying9 h0
    have h1 : DataW.trod enc Try.prog W b sp hd n 9 (List.take (Try.prog.cellsOf 9) (List.drop 1 [c0, c1])) = xs[1]? := hf 1 _ rfl
    rw [show Try.prog.cellsOf 9 = 1 by kernel_rfl, List.getElem?_eq_getElem (by rw [hlen]; decide)] at h1
    obtain ⟨x1, e1, _, w1⟩ := DataW.trod_string Try.underlying9 h1
    simp only [List.drop_succ_cons, List.drop_zero, List.take_succ_cons, List.take_zero, List.cons.injEq, and_true] at e0
    subst e0
    simp only [List.drop_succ_cons, List.drop_zero, List.take_succ_cons, List.take_zero, List.cons.injEq, and_true] at e1
    subst e1
    exact ⟨⟨x0, x1⟩, rfl, rd_nil _ _, ⟨w0, w1⟩⟩
theorem trods_IndexDef {fuel : Nat} {cs : List Value} {x : DataW H × List MemPlace} (h : DataW.trod enc Try.prog W b sp hd fuel 23 cs = some x) (hlt : ∀ p ∈ x.2, p.block < W.heap.size) :
    ∃ (a : Option Addr) (xs : List X_IndexDef) (c : Nat), cs = [.slice a xs.length c] ∧ (Reads W W.heap.size a (xs.flatMap cl_IndexDef) ∧ xs.length ≤ c ∧ (a = none → c = 0)) ∧ RowsRd W W.heap.size (xs.flatMap rw_IndexDef) ∧ xs.length ≤ maxLen ∧ ∀ z ∈ xs, Wide_IndexDef z :=
  trods cl_IndexDef 2 cl_IndexDef_len (by decide) rw_IndexDef Wide_IndexDef 23 66 Try.underlying23 (by kernel_rfl) (fun h hl => trod_IndexDef h hl) h hlt
end
set_option maxHeartbeats 4000000 in
theorem to_IndexDef (z : X_IndexDef) (w : World) : Calls Try.prog 48 #[vv_IndexDef z] w fun e w' => e = .returned (vv_IndexDef z) ∧ Below w.heap.size w w' := by
  unfold vv_IndexDef
  have S1 := Lib.hid (show Sl.Sep w ((w.alloc (.cells #[.string z.f_Store, .string z.f_Field] 66)).alloc (.cells #[.string ⟨#[]⟩, .string ⟨#[]⟩] 46)) [L4.boxR w.heap.size 66 #[.string z.f_Store, .string z.f_Field], L4.boxR (w.heap.size + 1) 46 #[.string ⟨#[]⟩, .string ⟨#[]⟩]] from L4.push_box (L4.push_box (Sl.Sep.start w) 66 #[.string z.f_Store, .string z.f_Field] (w.heap.size) (by simp)) 46 #[.string ⟨#[]⟩, .string ⟨#[]⟩] (w.heap.size + 1) (by simp))
  obtain ⟨wa, hwa⟩ : ∃ u, u = ((w.alloc (.cells #[.string z.f_Store, .string z.f_Field] 66)).alloc (.cells #[.string ⟨#[]⟩, .string ⟨#[]⟩] 46)) := ⟨_, rfl⟩
  rw [← hwa] at S1
  go_enter Try.func48, Try.ntmps48
  go_upto_region 1 with fail
  rw [← hwa]
  clear hwa
  go_upto_region 2 with fail
  have S2 := Lib.hid (show Sl.Sep w _ [L4.boxR w.heap.size 66 #[.string z.f_Store, .string z.f_Field], L4.boxR (w.heap.size + 1) 46 #[.string ⟨#[]⟩, .string ⟨#[]⟩], L4.boxR wa.heap.size 46 #[.string ⟨#[]⟩, .string ⟨#[]⟩]] from L4.push_box S1.out 46 #[.string ⟨#[]⟩, .string ⟨#[]⟩] wa.heap.size rfl)
  clear S1
  obtain ⟨g1, hg⟩ : ∃ g', g' = wa.heap.size := ⟨_, rfl⟩
  rw [← hg] at S2 ⊢
  clear hg
  generalize wa.alloc (.cells #[.string ⟨#[]⟩, .string ⟨#[]⟩] 46) = w1 at S2 ⊢
  have hh := Bag.cs2 S2.out 0 rfl
  have f0 := hh.1; have f1 := hh.2; clear hh
  have hh := Bag.cs2 S2.out 2 rfl
  have f2 := hh.1; have f3 := hh.2; clear hh
  have z0 := Bag.free_at S2.out 2 rfl 0
  go_upto_region 3 with fail
  clear f0 f1 f2 f3 z0
  have S3 := Lib.hid (show Sl.Sep w _ [L4.boxR w.heap.size 66 #[.string z.f_Store, .string z.f_Field], L4.boxR (w.heap.size + 1) 46 #[.string ⟨#[]⟩, .string ⟨#[]⟩], L4.boxR g1 46 #[.string z.f_Store, .string ⟨#[]⟩]] from L5.put_box5 (S2.out) 2 rfl 0 (.string z.f_Store))
  clear S2
  have hh := Bag.cs2 S3.out 0 rfl
  have f0 := hh.1; have f1 := hh.2; clear hh
  have hh := Bag.cs2 S3.out 2 rfl
  have f2 := hh.1; have f3 := hh.2; clear hh
  have z1 := Bag.free_at S3.out 2 rfl 1
  go_upto_region 4 with fail
  clear f0 f1 f2 f3 z1
  have S4 := Lib.hid (show Sl.Sep w _ [L4.boxR w.heap.size 66 #[.string z.f_Store, .string z.f_Field], L4.boxR (w.heap.size + 1) 46 #[.string ⟨#[]⟩, .string ⟨#[]⟩], L4.boxR g1 46 #[.string z.f_Store, .string z.f_Field]] from L5.put_box5 (S3.out) 2 rfl 1 (.string z.f_Field))
  clear S3
  have hh := Bag.cs2 S4.out 1 rfl
  have f0 := hh.1; have f1 := hh.2; clear hh
  have hh := Bag.cs2 S4.out 2 rfl
  have f2 := hh.1; have f3 := hh.2; clear hh
  have hh := Bag.fs2 S4.out 1 rfl
  have z0 := hh.1; have z1 := hh.2; clear hh
  go_wp2_with fail
  clear f0 f1 f2 f3 z0 z1
  have S5 := Lib.hid (show Sl.Sep w _ [L4.boxR w.heap.size 66 #[.string z.f_Store, .string z.f_Field], L4.boxR (w.heap.size + 1) 46 #[.string z.f_Store, .string z.f_Field], L4.boxR g1 46 #[.string z.f_Store, .string z.f_Field]] from L5.put_box5 (L5.put_box5 (S4.out) 1 rfl 0 (.string z.f_Store)) 1 rfl 1 (.string z.f_Field))
  clear S4
  have hh := Bag.cs2 S5.out 1 rfl
  have f0 := hh.1; have f1 := hh.2; clear hh
  refine bodyPost_ret (v := .agg #[.string z.f_Store, .string z.f_Field]) (by simp [results, Try.results48, go_sem, *]) rfl ?_
  clear f0 f1
  exact ⟨rfl, S5.out.old⟩
theorem info_IndexDef : ∃ i, Try.prog.info? 46 = some i ∧ i.zero = some (.agg #[.string ⟨#[]⟩, .string ⟨#[]⟩]) ∧ i.size = 2 ∧ i.bytes = 32 := Ex.infoOf _ _ _ _ (by kernel_rfl)
set_option maxHeartbeats 4000000 in
theorem to_IndexDefS (a : Option Addr) (c : Nat) (xs : List X_IndexDef) (hf : wsum wt_IndexDef (coS_IndexDef xs) ≤ 1048576) (w : World) (hr : Reads w w.heap.size a (xs.flatMap cl_IndexDef)) (hx : RowsRd w w.heap.size (rws_IndexDef xs)) :
    Calls Try.prog 25 #[.slice a xs.length c] w fun e w' => ∃ a' c' ys, e = .returned (.slice a' ys.length c') ∧ coS_IndexDef ys = coS_IndexDef xs ∧ BagOwn w' w.heap.size (rs_IndexDef a' c' ys) ∧ Below w.heap.size w w' := by
  obtain ⟨i0, hi1, hi2, hi3, hi4⟩ := info_IndexDef
  have HI := Lib.hid (And.intro hi1 (And.intro hi2 (And.intro hi3 hi4)))
  clear hi1 hi2 hi3 hi4
  rw [coS_IndexDef_eq] at hf
  have HR := Lib.hid (fun w' (h : Below w.heap.size w w') => hr.below h)
  have HX := Lib.hid (fun w' (h : Below w.heap.size w w') => (hx.below h).more h.size)
  have HF := Lib.hid hf
  have hl : xs.length ≤ 1048576 := by have := wsum_len wt_IndexDef (xs.map co_IndexDef); rw [List.length_map] at this; omega
  obtain ⟨N, hN⟩ : ∃ n, n = xs.length := ⟨_, rfl⟩
  rw [← hN] at hl ⊢
  have hl' : (N : Int) ≤ 1048576 := by omega
  have HN := Lib.hid hN
  clear hN hr hx hf
  obtain ⟨Z, hZ⟩ : ∃ Z, Z = (madeCells (Value.agg #[.string ⟨#[]⟩, .string ⟨#[]⟩]).cells (N * 2)).toList := ⟨_, rfl⟩
  have HZ := Lib.hid (show Z.length = N * 2 by rw [hZ]; simp [madeCells])
  have HZD := Lib.hid hZ
  clear hZ
  have S1 := Lib.hid (show Sl.Sep w w [] from Sl.Sep.start w)
  go_enter Try.func25, Try.ntmps25
  go_upto_region 2 with (at_make; refine Run.wpList_make_s S1.out rfl _ _ 29 rfl 46 i0 (.agg #[.string ⟨#[]⟩, .string ⟨#[]⟩]) 2 Try.underlying29 HI.out.1 HI.out.2.1 HI.out.2.2.1 _ _ N rfl rfl (by rw [HI.out.2.2.2]; omega) (by unfold maxLen; omega) ?_; intro w1 S')
  obtain ⟨g1, hg⟩ : ∃ g', g' = w.heap.size := ⟨_, rfl⟩
  rw [← hg] at S' ⊢
  clear hg
  have S2 := Lib.hid (show Sl.Sep w _ [Sv.ownV 46 2 (some ⟨g1, 0, none⟩) N N (([] : List X_IndexDef).flatMap cl_IndexDef ++ Z)] from (by have h := S'; rw [← HZD.out] at h; exact h))
  clear S1
  clear S'
  have S3 := Lib.hid (show Sl.Sep w _ [Sv.ownV 46 2 (some ⟨g1, 0, none⟩) N N (([] : List X_IndexDef).flatMap cl_IndexDef ++ Z), Bag.bag (rws_IndexDef [])] from Bag.push_bag S2.out (Below.refl _ _) (by rw [rws_IndexDef_eq]; exact Bag.BagOwn.nil _ _))
  clear S2
  go_wp2_with fail
  go_loopw [4] (fun i wr => ∃ (k : Nat) (ys : List X_IndexDef) (Zs : List Value), k ≤ N ∧ i = .int .i64 k ∧ Hid ((ys.map co_IndexDef = (xs.take k).map co_IndexDef ∧ ys.length = k ∧ Zs.length = (N - k) * 2) ∧ Sl.Sep w wr [Sv.ownV 46 2 (some ⟨g1, 0, none⟩) N N (ys.flatMap cl_IndexDef ++ Zs), Bag.bag (rws_IndexDef ys)])) (fun i _ => N - (intOf i).toNat)
  case atStart => exact ⟨0, [], Z, Nat.zero_le _, rfl, And.intro ⟨rfl, rfl, HZ.out⟩ S3.out⟩
  case round =>
    obtain ⟨k, ys, Zs, hk, rfl, hrel⟩ := hrel
    have HC := Lib.hid hrel.out.1
    have S4 := Lib.hid hrel.out.2
    clear hrel S3
    by_cases hlt : (k : Int) < (N : Int)
    · skip
      have hkl : k < xs.length := by have := HN.out; omega
      obtain ⟨x, hx⟩ : ∃ x, xs[k]? = some x := ⟨_, List.getElem?_eq_getElem hkl⟩
      obtain ⟨ad, e'⟩ := el_some cl_IndexDef_len (by decide) (HR.out _ S4.out.old) hkl
      subst e'
      have HK := Lib.hid (fun w' (h : Below w.heap.size w w') => el2 cl_IndexDef_len (HR.out _ h) hx rfl)
      have HTX := Lib.hid (take_next hx)
      have HL := Lib.hid (show (ys.flatMap cl_IndexDef).length = k * 2 ∧ k * 2 + 2 ≤ (ys.flatMap cl_IndexDef ++ Zs).length ∧ 2 ≤ Zs.length from by have h1 := HC.out.2.1; have h2 := HC.out.2.2; rw [List.length_append, flat_len cl_IndexDef_len, h1, h2]; omega)
      have HCI := Lib.hid (fun w' => to_IndexDef x w')
      dsimp only [vv_IndexDef] at HCI
      clear hx
      have hh := HK.out _ S4.out.old
      have f0 := hh.1; have f1 := hh.2; clear hh
      go_wp2_with fail
      go_at_call 48
      refine (HCI.out _).mono ?_
      rintro e w2 ⟨rfl, hb⟩
      clear f0 f1
      have S5 := Lib.hid (S4.out.keep hb)
      clear S4
      clear hb
      have q0 := (Sv.own_at S5.out 0 rfl).cell (k * 2) (by have := HL.out.2.1; omega)
      have z0 := (Sv.own_at S5.out 0 rfl).free (k * 2)
      have q1 := (Sv.own_at S5.out 0 rfl).cell (k * 2 + 1) (by have := HL.out.2.1; omega)
      have z1 := (Sv.own_at S5.out 0 rfl).free (k * 2 + 1)
      go_wp2_with fail
      clear q0 z0 q1 z1
      have S6 := Lib.hid (show Sl.Sep w (World.setCells w2 g1 (k * 2) [.string x.f_Store, .string x.f_Field]) [Sv.ownV 46 2 (some ⟨g1, 0, none⟩) N N ((ys ++ [x]).flatMap cl_IndexDef ++ Zs.drop 2), Bag.bag (rws_IndexDef ys)] from (by have h := Run.put_run S5.out 0 rfl (k * 2) [.string x.f_Store, .string x.f_Field] (by have := HL.out.2.1; simpa using this); rw [Run.over_at _ _ _ _ HL.out.1 (by have := HL.out.2.2; simpa using this)] at h; rw [List.flatMap_append, List.append_assoc]; exact h))
      clear S5
      have S7 := Lib.hid (show Sl.Sep w _ [Sv.ownV 46 2 (some ⟨g1, 0, none⟩) N N ((ys ++ [x]).flatMap cl_IndexDef ++ Zs.drop 2), Bag.bag (rws_IndexDef ys)] from Bag.take S6.out [0, 1] (by rfl) (by decide))
      clear S6
      go_roundw
      case rel =>
        refine ⟨k + 1, ys ++ [x], Zs.drop 2, by omega, by go_num, And.intro ⟨?_, ?_, ?_⟩ ?_⟩
        · rw [HTX.out, List.map_append, List.map_append, HC.out.1]
        · rw [List.length_append, HC.out.2.1]; rfl
        · rw [List.length_drop, HC.out.2.2]; omega
        · exact S7.out
      case measure => simp [intOf]; omega
    · skip
      obtain rfl : k = N := by omega
      go_wp2_with fail
      go_ret
      obtain ⟨hc1, hc2, hc3⟩ := HC.out
      have hZs : Zs = [] := List.eq_nil_of_length_eq_zero (by rw [hc3]; omega)
      have hcon : ys.map co_IndexDef = xs.map co_IndexDef := by rw [hc1, List.take_of_length_le (by have := HN.out; omega)]
      have S90 := Lib.hid (Bag.bag_of_one S4.out 0 (r := row_IndexDef (some ⟨g1, 0, none⟩) k ys) (by unfold RowS.res row_IndexDef; dsimp only; rw [hZs, List.append_nil, hc2]; rfl))
      have S91 := Lib.hid (Bag.bag_join S90.out 0 1 (by decide) rfl rfl)
      have hb := Bag.bag_from S91.out 0 rfl
      subst hc2
      exact ⟨_, _, ys, rfl, by rw [coS_IndexDef_eq, coS_IndexDef_eq]; exact hcon, hb, S91.out.old⟩
set_option maxHeartbeats 4000000 in
theorem sz_IndexDef (z : X_IndexDef) (q : Int) (hw : Wide_IndexDef z) (hq0 : -1 ≤ q) (hq1 : q ≤ 1048576) (w : World) : Calls Try.prog 41 #[vv_IndexDef z, .int .i64 q] w fun e w' => e = .returned (.int .i64 (lft q (wt_IndexDef (co_IndexDef z)))) ∧ Below w.heap.size w w' := by
  have hs0 : (z.f_Store.size : Int) ≤ 9223372036854775807 := by have h : z.f_Store.size ≤ maxLen := hw.1; unfold maxLen at h; omega
  have hs1 : (z.f_Field.size : Int) ≤ 9223372036854775807 := by have h : z.f_Field.size ≤ maxLen := hw.2; unfold maxLen at h; omega
  have HW := Lib.hid (wt_IndexDef_parts z)
  clear hw
  unfold vv_IndexDef
  have S1 := Lib.hid (show Sl.Sep w (w.alloc (.cells #[.string z.f_Store, .string z.f_Field] 66)) [L4.boxR w.heap.size 66 #[.string z.f_Store, .string z.f_Field]] from L4.push_box (Sl.Sep.start w) 66 #[.string z.f_Store, .string z.f_Field] (w.heap.size) (by simp))
  obtain ⟨wa, hwa⟩ : ∃ u, u = (w.alloc (.cells #[.string z.f_Store, .string z.f_Field] 66)) := ⟨_, rfl⟩
  rw [← hwa] at S1
  go_enter Try.func41, Try.ntmps41
  go_upto_region 1 with fail
  rw [← hwa]
  clear hwa
  have hh := Bag.cs2 S1.out 0 rfl
  have f0 := hh.1; have f1 := hh.2; clear hh
  by_cases hn0 : q - (z.f_Store.size : Int) < 0
  · skip
    go_wp2_with fail
    go_ret
    exact ⟨by rw [HW.out, lft_neg (by omega)] <;> rfl, S1.out.old⟩
  · skip
    by_cases hn1 : (q - (z.f_Store.size : Int)) - (z.f_Field.size : Int) < 0
    · skip
      go_wp2_with fail
      go_ret
      exact ⟨by rw [HW.out, lft_neg (by omega)] <;> rfl, S1.out.old⟩
    · skip
      go_wp2_with fail
      go_ret
      exact ⟨by rw [HW.out, lft_pos (by omega)] <;> first | rfl | (refine congrArg (fun i => Ending.returned (.int .i64 i)) ?_; omega), S1.out.old⟩
set_option maxHeartbeats 4000000 in
theorem sz_IndexDefS (a : Option Addr) (c : Nat) (xs : List X_IndexDef) (q : Int) (hw : ∀ x ∈ xs, Wide_IndexDef x) (hm : xs.length ≤ maxLen) (hq0 : -1 ≤ q) (hq1 : q ≤ 1048576) (w : World) (hr : Reads w w.heap.size a (xs.flatMap cl_IndexDef)) (hx : RowsRd w w.heap.size (rws_IndexDef xs)) :
    Calls Try.prog 19 #[.slice a xs.length c, .int .i64 q] w fun e w' => e = .returned (.int .i64 (lft q (wsum wt_IndexDef (coS_IndexDef xs)))) ∧ Below w.heap.size w w' := by
  have HR := Lib.hid (fun w' (h : Below w.heap.size w w') => hr.below h)
  have HX := Lib.hid (fun w' (h : Below w.heap.size w w') => (hx.below h).more h.size)
  have HWD := Lib.hid hw
  have HW := Lib.hid (show wsum wt_IndexDef (coS_IndexDef xs) = xs.length + fsum (fun x => wt_IndexDef (co_IndexDef x)) xs from by rw [coS_IndexDef_eq, wsum_map])
  obtain ⟨N, hN⟩ : ∃ n, n = xs.length := ⟨_, rfl⟩
  rw [← hN] at hm HW ⊢
  have HN := Lib.hid hN
  have hm' : (N : Int) ≤ 9223372036854775807 := by unfold maxLen at hm; omega
  clear hN hr hx hw hm
  have S1 := Lib.hid (show Sl.Sep w w [] from Sl.Sep.start w)
  by_cases hneg : q - (N : Int) < 0
  · skip
    go_enter Try.func19, Try.ntmps19
    go_wp2_with fail
    go_ret
    exact ⟨by rw [HW.out, lft_neg (by omega)] <;> rfl, Below.refl _ _⟩
  · skip
    go_enter Try.func19, Try.ntmps19
    go_wp2_with fail
    go_loopw [1, 5] (fun lv i wr => ∃ (k : Nat) (m : Int), k ≤ N ∧ i = .int .i64 k ∧ lv = .int .i64 m ∧ 0 ≤ m ∧ m ≤ 1048576 ∧ Hid (m = q - N - (fsum (fun x => wt_IndexDef (co_IndexDef x)) (xs.take k) : Int) ∧ Sl.Sep w wr [])) (fun _ i _ => N - (intOf i).toNat)
    case atStart => exact ⟨0, q - N, Nat.zero_le _, rfl, rfl, by omega, by omega, And.intro (by rw [List.take_zero, fsum_nil]; omega) S1.out⟩
    case round =>
      obtain ⟨k, m, hk, rfl, rfl, hm0, hm1, hrel⟩ := hrel
      have HA := Lib.hid hrel.out.1
      have S2 := Lib.hid hrel.out.2
      clear hrel S1
      by_cases hlt : (k : Int) < (N : Int)
      · skip
        have hkl : k < xs.length := by have := HN.out; omega
        obtain ⟨x, hx⟩ : ∃ x, xs[k]? = some x := ⟨_, List.getElem?_eq_getElem hkl⟩
        obtain ⟨ad, e'⟩ := el_some cl_IndexDef_len (by decide) (HR.out _ S2.out.old) (List.getElem?_eq_some_iff.1 hx).1
        subst e'
        have HK := Lib.hid (fun w' (h : Below w.heap.size w w') => el2 cl_IndexDef_len (HR.out _ h) hx rfl)
        have HAT := Lib.hid (fsum_at (f := (fun x => wt_IndexDef (co_IndexDef x))) hx)
        have HTK := Lib.hid (fsum_take (f := (fun x => wt_IndexDef (co_IndexDef x))) hx)
        try dsimp only at HAT HTK
        obtain ⟨fx, hfx⟩ : ∃ u, wt_IndexDef (co_IndexDef x) = u := ⟨_, rfl⟩
        rw [hfx] at HAT HTK
        obtain ⟨u, hu⟩ : ∃ u, lft m fx = u := ⟨_, rfl⟩
        have hcu := lft_cases hu
        have hru := lft_range (q := m) fx (by omega)
        rw [hu] at hru
        have HSI := fun w' => sz_IndexDef x m (HWD.out x (List.mem_of_getElem? hx)) (by omega) hm1 w'
        rw [hfx, hu] at HSI
        dsimp only [vv_IndexDef] at HSI
        replace HSI := Lib.hid HSI
        clear hfx hu hx
        have hh := HK.out _ S2.out.old
        have f0 := hh.1; have f1 := hh.2; clear hh
        go_wp2_with fail
        go_at_call 41
        refine (HSI.out _).mono ?_
        rintro e w1 ⟨rfl, hb⟩
        clear f0 f1
        have S3 := Lib.hid (S2.out.keep hb)
        clear S2
        clear hb
        by_cases h0 : u < 0
        · have hm1' : u = -1 := by omega
          subst hm1'
          go_wp2_with fail
          go_ret
          exact ⟨by rw [HW.out, lft_neg (by have := HA.out; have := HAT.out; omega)] <;> rfl, S3.out.old⟩
        · skip
          go_wp2_with fail
          go_roundw
          case rel => exact ⟨k + 1, u, by omega, by go_num, rfl, by omega, by omega, And.intro (by rw [HTK.out]; have := HA.out; omega) S3.out⟩
          case measure => simp [intOf]; omega
      · skip
        obtain rfl : k = N := by omega
        have HT := HA.out
        rw [List.take_of_length_le (Nat.le_of_eq HN.out.symm)] at HT
        go_wp2_with fail
        go_ret
        exact ⟨by rw [HW.out, lft_pos (by omega)] <;> first | rfl | (refine congrArg (fun i => Ending.returned (.int .i64 i)) ?_; omega), S2.out.old⟩
set_option maxHeartbeats 4000000 in
theorem eq_IndexDef (z : X_IndexDef) (w : World) : Calls Try.prog 54 #[vv_IndexDef z, vv_IndexDef z] w fun e w' => e = .returned (.bool true) ∧ Below w.heap.size w w' := by
  unfold vv_IndexDef
  have S1 := Lib.hid (show Sl.Sep w ((w.alloc (.cells #[.string z.f_Store, .string z.f_Field] 46)).alloc (.cells #[.string z.f_Store, .string z.f_Field] 46)) [L4.boxR w.heap.size 46 #[.string z.f_Store, .string z.f_Field], L4.boxR (w.heap.size + 1) 46 #[.string z.f_Store, .string z.f_Field]] from L4.push_box (L4.push_box (Sl.Sep.start w) 46 #[.string z.f_Store, .string z.f_Field] (w.heap.size) (by simp)) 46 #[.string z.f_Store, .string z.f_Field] (w.heap.size + 1) (by simp))
  obtain ⟨wa, hwa⟩ : ∃ u, u = ((w.alloc (.cells #[.string z.f_Store, .string z.f_Field] 46)).alloc (.cells #[.string z.f_Store, .string z.f_Field] 46)) := ⟨_, rfl⟩
  rw [← hwa] at S1
  go_enter Try.func54, Try.ntmps54
  go_upto_region 1 with fail
  rw [← hwa]
  clear hwa
  have hh := Bag.cs2 S1.out 0 rfl
  have f0 := hh.1; have f1 := hh.2; clear hh
  have hh := Bag.cs2 S1.out 1 rfl
  have f2 := hh.1; have f3 := hh.2; clear hh
  go_wp2_with fail
  go_ret
  exact ⟨rfl, S1.out.old⟩
set_option maxHeartbeats 4000000 in
theorem eq_IndexDefS (a a2 : Option Addr) (c c2 : Nat) (xs xs2 : List X_IndexDef) (hc : coS_IndexDef xs = coS_IndexDef xs2) (hf : wsum wt_IndexDef (coS_IndexDef xs) ≤ 1125899906842624) (w : World) (hr : Reads w w.heap.size a (xs.flatMap cl_IndexDef)) (hx : RowsRd w w.heap.size (rws_IndexDef xs)) (hr2 : Reads w w.heap.size a2 (xs2.flatMap cl_IndexDef)) (hx2 : RowsRd w w.heap.size (rws_IndexDef xs2)) :
    Calls Try.prog 31 #[.slice a xs.length c, .slice a2 xs2.length c2] w fun e w' => e = .returned (.bool true) ∧ Below w.heap.size w w' := by
  have hlen : xs2.length = xs.length := by have h := congrArg List.length hc; rw [coS_IndexDef_eq, coS_IndexDef_eq, List.length_map, List.length_map] at h; exact h.symm
  have hl : xs.length ≤ 1125899906842624 := by have := wsum_len wt_IndexDef (coS_IndexDef xs); rw [coS_IndexDef_eq, List.length_map] at this; rw [coS_IndexDef_eq] at hf; omega
  have HR := Lib.hid (fun w' (h : Below w.heap.size w w') => hr.below h)
  have HR2 := Lib.hid (fun w' (h : Below w.heap.size w w') => hr2.below h)
  have HX := Lib.hid (fun w' (h : Below w.heap.size w w') => (hx.below h).more h.size)
  have HX2 := Lib.hid (fun w' (h : Below w.heap.size w w') => (hx2.below h).more h.size)
  rw [coS_IndexDef_eq] at hf
  have HF := Lib.hid hf
  have HS := Lib.hid (show xs.map co_IndexDef = xs2.map co_IndexDef from by rw [← coS_IndexDef_eq, ← coS_IndexDef_eq]; exact hc)
  obtain ⟨N, hN⟩ : ∃ n, n = xs.length := ⟨_, rfl⟩
  rw [hlen, ← hN]
  rw [← hN] at hl
  have hl' : (N : Int) ≤ 1125899906842624 := by omega
  have HN := Lib.hid hN
  clear hN hr hr2 hx hx2 hf hc hlen
  have S1 := Lib.hid (show Sl.Sep w w [] from Sl.Sep.start w)
  go_enter Try.func31, Try.ntmps31
  go_wp2_with fail
  go_loopw [5] (fun i wr => ∃ k : Nat, k ≤ N ∧ i = .int .i64 k ∧ Hid (Sl.Sep w wr [])) (fun i _ => N - (intOf i).toNat)
  case atStart => exact ⟨0, Nat.zero_le _, rfl, S1.out⟩
  case round =>
    obtain ⟨k, hk, rfl, hrel⟩ := hrel
    have S2 := Lib.hid hrel.out
    clear hrel S1
    by_cases hlt : (k : Int) < (N : Int)
    · skip
      have hkl : k < xs.length := by have := HN.out; omega
      obtain ⟨x, hx⟩ : ∃ x, xs[k]? = some x := ⟨_, List.getElem?_eq_getElem hkl⟩
      obtain ⟨ad, e'⟩ := el_some cl_IndexDef_len (by decide) (HR.out _ S2.out.old) (List.getElem?_eq_some_iff.1 hx).1
      subst e'
      have HK := Lib.hid (fun w' (h : Below w.heap.size w w') => el2 cl_IndexDef_len (HR.out _ h) hx rfl)
      obtain ⟨x2, hx2, hcx⟩ := map_same HS.out hx
      obtain ⟨ad2, e'⟩ := el_some cl_IndexDef_len (by decide) (HR2.out _ S2.out.old) (List.getElem?_eq_some_iff.1 hx2).1
      subst e'
      have HK2 := Lib.hid (fun w' (h : Below w.heap.size w w') => el2 cl_IndexDef_len (HR2.out _ h) hx2 rfl)
      have hxx : x2 = x := hcx
      rw [hxx] at HK2
      have HEQ := Lib.hid (fun w' => eq_IndexDef x w')
      clear hcx hxx
      try dsimp only [vv_IndexDef] at HEQ
      clear hx hx2
      go_upto_region 6 with fail
      refine wp_region_held_drew (S := (fun w' => (World.cell? w' (ad.add (k * 2)) = some (.string x.f_Store) ∧ World.cell? w' (⟨(ad.add (k * 2)).block, (ad.add (k * 2)).off + 1, none⟩) = some (.string x.f_Field)) ∧ (World.cell? w' (ad2.add (k * 2)) = some (.string x.f_Store) ∧ World.cell? w' (⟨(ad2.add (k * 2)).block, (ad2.add (k * 2)).off + 1, none⟩) = some (.string x.f_Field)))) (by kernel_rfl) ⟨HK.out _ (Bag.drew1 S2.out).old, HK2.out _ (Bag.drew1 S2.out).old⟩ (fun hS => ?_)
      have S3 := Lib.hid (show Sl.Sep w _ [] from Bag.drew1 S2.out)
      clear S2
      generalize World.drew _ = w1 at hS S3 ⊢
      refine tk 0 rfl ?_
      try simp only [zp0, zp1, zp2, zp3, zp4]
      refine tk 1 rfl ?_
      try simp only [zp0, zp1, zp2, zp3, zp4]
      refine tk 2 rfl ?_
      try simp only [zp0, zp1, zp2, zp3, zp4]
      refine tk 3 rfl ?_
      try simp only [zp0, zp1, zp2, zp3, zp4]
      refine tk 4 rfl ?_
      try simp only [zp0, zp1, zp2, zp3, zp4]
      refine tk 5 rfl ?_
      try simp only [zp0, zp1, zp2, zp3, zp4]
      refine tk 6 rfl ?_
      try simp only [zp0, zp1, zp2, zp3, zp4]
      refine tk 7 rfl ?_
      try simp only [zp0, zp1, zp2, zp3, zp4]
      refine Reg.one_op (i := 8) rfl (by kernel_rfl) (fun K hK => ?_)
      go_simp
      go_at_call 54
      refine (HEQ.out _).mono ?_
      rintro e w2 ⟨rfl, hb⟩
      have S4 := Lib.hid (S3.out.keep hb)
      clear S3
      clear hb
      go_wp2_with fail
      refine hK.out _ _ ⟨HK.out _ S4.out.old, HK2.out _ S4.out.old⟩ (fun hS => ?_)
      clear hK K
      try simp only [zp0, zp1, zp2, zp3, zp4]
      refine tk 9 rfl ?_
      try simp only [zp0, zp1, zp2, zp3, zp4]
      refine wpAnyH_done (by kernel_rfl) ?_ _
      have hh := HK.out _ S4.out.old
      have f0 := hh.1; have f1 := hh.2; clear hh
      have hh := HK2.out _ S4.out.old
      have f2 := hh.1; have f3 := hh.2; clear hh
      go_wp2_with fail
      go_roundw
      case rel => exact ⟨k + 1, by omega, by go_num, S4.out⟩
      case measure => simp [intOf]; omega
    · skip
      go_wp2_with fail
      go_ret
      exact ⟨rfl, S2.out.old⟩
end Go.Proofs.Ytboefioalkjdaaa.V

/-
  The exact laws' helpers for Database, and for slices of it: how such a value opens, its copy, its room, comparison, marks. Condition: a weight of at most 2^20 (2^50 for comparison and marks). (Written by my program gen_v.py.)
-/
namespace Go.Proofs.Ytboefioalkjdaaa.V
set_option maxRecDepth 100000
open Go.ChangeShapes Go.WideShapes Go.ChangeAt Go.RowKit Mem Sl Sv Bag
open L5 (markT)
set_option linter.unusedVariables false
set_option linter.unusedSimpArgs false
structure X_Database where
  f_Name : ByteArray
  f_Version : Int
  f_Stores : List L6.S6
  f_Unique : List X_IndexDef
structure Y_Database where
  f_Name : ByteArray
  f_Version : Int
  f_Stores_a : Option Addr
  f_Stores_c : Nat
  f_Stores : List L6.LS
  f_Unique_a : Option Addr
  f_Unique_c : Nat
  f_Unique : List X_IndexDef
def co_Database (z : Y_Database) : X_Database := ⟨z.f_Name, z.f_Version, coS_Store z.f_Stores, coS_IndexDef z.f_Unique⟩
def cl_Database (z : Y_Database) : List Value := [.string z.f_Name, .int .i64 z.f_Version, .slice z.f_Stores_a z.f_Stores.length z.f_Stores_c, .slice z.f_Unique_a z.f_Unique.length z.f_Unique_c]
def cs_Database (z : Y_Database) : Array Value := #[.string z.f_Name, .int .i64 z.f_Version, .slice z.f_Stores_a z.f_Stores.length z.f_Stores_c, .slice z.f_Unique_a z.f_Unique.length z.f_Unique_c]
def vv_Database (z : Y_Database) : Value := .agg #[.string z.f_Name, .int .i64 z.f_Version, .slice z.f_Stores_a z.f_Stores.length z.f_Stores_c, .slice z.f_Unique_a z.f_Unique.length z.f_Unique_c]
def rw_Database (z : Y_Database) : List RowS := rs_Store z.f_Stores_a z.f_Stores_c z.f_Stores ++ (rs_IndexDef z.f_Unique_a z.f_Unique_c z.f_Unique)
def wt_Database (c : X_Database) : Nat := c.f_Name.size + (wsum wt_Store c.f_Stores + (wsum wt_IndexDef c.f_Unique))
theorem wt_Database_parts (z : Y_Database) : wt_Database (co_Database z) = z.f_Name.size + (wsum wt_Store (coS_Store z.f_Stores) + (wsum wt_IndexDef (coS_IndexDef z.f_Unique))) := rfl
def Wide_Database (z : Y_Database) : Prop := z.f_Name.size ≤ maxLen ∧ (-9223372036854775808 ≤ z.f_Version ∧ z.f_Version ≤ 9223372036854775807) ∧ (z.f_Stores.length ≤ maxLen ∧ ∀ x ∈ z.f_Stores, Wide_Store x) ∧ (z.f_Unique.length ≤ maxLen ∧ ∀ x ∈ z.f_Unique, Wide_IndexDef x)
section
variable {H : Type} {enc : TypeId × Value → H} {W : World} {b : Nat} {sp : Nat → Bool} {hd : Bool}
theorem trod_Database {fuel : Nat} {cs : List Value} {x : DataW H × List MemPlace} (h : DataW.trod enc Try.prog W b sp hd fuel 25 cs = some x) (hlt : ∀ p ∈ x.2, p.block < W.heap.size) : ∃ z : Y_Database, cs = cl_Database z ∧ RowsRd W W.heap.size (rw_Database z) ∧ Wide_Database z := by
  obtain ⟨xs, n, _, hx, hl, hlen, hf⟩ := DataW.trod_struct Try.underlying25 h
  have hlN : cs.length = 4 := hl.trans (by kernel_rfl)
  match cs, hlN with
  | [c0, c1, c2, c3], _ =>
    have h0 : DataW.trod enc Try.prog W b sp hd n 9 (List.take (Try.prog.cellsOf 9) (List.drop 0 [c0, c1, c2, c3])) = xs[0]? := hf 0 _ rfl
    rw [show Try.prog.cellsOf 9 = 1 by kernel_rfl, List.getElem?_eq_getElem (by rw [hlen]; decide)] at h0
    obtain ⟨x0, e0, _, w0⟩ := DataW.trod_string Try.underlying9 h0
    have h1 : DataW.trod enc Try.prog W b sp hd n 3 (List.take (Try.prog.cellsOf 3) (List.drop 1 [c0, c1, c2, c3])) = xs[1]? := hf 1 _ rfl
    rw [show Try.prog.cellsOf 3 = 1 by kernel_rfl, List.getElem?_eq_getElem (by rw [hlen]; decide)] at h1
    obtain ⟨x1, e1, _, w1⟩ := DataW.trod_int Try.underlying3 h1
    have h2 : DataW.trod enc Try.prog W b sp hd n 22 (List.take (Try.prog.cellsOf 22) (List.drop 2 [c0, c1, c2, c3])) = xs[2]? := hf 2 _ rfl
    rw [show Try.prog.cellsOf 22 = 1 by kernel_rfl, List.getElem?_eq_getElem (by rw [hlen]; decide)] at h2
    obtain ⟨a2, x2, c2', e2, r2, v2, l2, w2⟩ := trods_Store h2 (fun p hp => hlt p (by rw [hx]; exact List.mem_flatMap.2 ⟨_, List.getElem_mem (show 2 < xs.length by rw [hlen]; decide), hp⟩))
    have h3 : DataW.trod enc Try.prog W b sp hd n 23 (List.take (Try.prog.cellsOf 23) (List.drop 3 [c0, c1, c2, c3])) = xs[3]? := hf 3 _ rfl
    rw [show Try.prog.cellsOf 23 = 1 by kernel_rfl, List.getElem?_eq_getElem (by rw [hlen]; decide)] at h3
    obtain ⟨a3, x3, c3', e3, r3, v3, l3, w3⟩ := trods_IndexDef h3 (fun p hp => hlt p (by rw [hx]; exact List.mem_flatMap.2 ⟨_, List.getElem_mem (show 3 < xs.length by rw [hlen]; decide), hp⟩))
    simp only [List.drop_succ_cons, List.drop_zero, List.take_succ_cons, List.take_zero, List.cons.injEq, and_true] at e0
    subst e0
    simp only [List.drop_succ_cons, List.drop_zero, List.take_succ_cons, List.take_zero, List.cons.injEq, and_true] at e1
    subst e1
    simp only [List.drop_succ_cons, List.drop_zero, List.take_succ_cons, List.take_zero, List.cons.injEq, and_true] at e2
    subst e2
    simp only [List.drop_succ_cons, List.drop_zero, List.take_succ_cons, List.take_zero, List.cons.injEq, and_true] at e3
    subst e3
    exact ⟨⟨x0, x1, a2, c2', x2, a3, c3', x3⟩, rfl, rd_app (rd_cons ⟨r2.1, r2.2.1, r2.2.2⟩ (by rw [rws_Store_eq]; exact v2)) (rd_cons ⟨r3.1, r3.2.1, r3.2.2⟩ (by rw [rws_IndexDef_eq]; exact v3)), ⟨w0, Law.wf_i64 w1, ⟨l2, w2⟩, ⟨l3, w3⟩⟩⟩
theorem open_Database {b0 : Nat} {v : Value} {d : DataW H} {ps : List MemPlace} (hval : Value.okWide Try.prog W .any b0 25 v) (h0 : DataW.Trod enc Try.prog W b sp hd 25 v d ps) (hlt : ∀ p ∈ ps, p.block < W.heap.size) : ∃ z : Y_Database, v = vv_Database z ∧ RowsRd W W.heap.size (rw_Database z) ∧ Wide_Database z := by
  obtain ⟨cs, rfl, _⟩ := okWide_struct Try.underlying25 hval
  obtain ⟨fuel, hf0⟩ := h0
  obtain ⟨z, e, h1, h2⟩ := trod_Database hf0 hlt
  obtain ⟨l⟩ := cs
  exact ⟨z, by rw [show l = cl_Database z from e]; rfl, h1, h2⟩
end
set_option maxHeartbeats 4000000 in
theorem to_Database (z : Y_Database) (hf : wt_Database (co_Database z) ≤ 1048576) (w : World) (hr : RowsRd w w.heap.size (rw_Database z)) : Calls Try.prog 9 #[vv_Database z] w fun e w' => ∃ y : Y_Database, e = .returned (vv_Database y) ∧ co_Database y = co_Database z ∧ BagOwn w' w.heap.size (rw_Database y) ∧ Below w.heap.size w w' := by
  have hfp := hf
  rw [wt_Database_parts] at hfp
  have HC2 := Lib.hid (fun w' (h : Below w.heap.size w w') => to_StoreS z.f_Stores_a z.f_Stores_c z.f_Stores (by omega) w' (((rd_head (rd_left hr)).reads.below h).more h.size) (((rd_tail (rd_left hr)).below h).more h.size))
  have HC3 := Lib.hid (fun w' (h : Below w.heap.size w w') => to_IndexDefS z.f_Unique_a z.f_Unique_c z.f_Unique (by omega) w' (((rd_head (rd_right hr)).reads.below h).more h.size) (((rd_tail (rd_right hr)).below h).more h.size))
  clear hfp hf hr
  unfold vv_Database
  have S1 := Lib.hid (show Sl.Sep w ((w.alloc (.cells #[.string z.f_Name, .int .i64 z.f_Version, .slice z.f_Stores_a z.f_Stores.length z.f_Stores_c, .slice z.f_Unique_a z.f_Unique.length z.f_Unique_c] 25)).alloc (.cells #[.string ⟨#[]⟩, .int .i64 0, .slice none 0 0, .slice none 0 0] 31)) [L4.boxR w.heap.size 25 #[.string z.f_Name, .int .i64 z.f_Version, .slice z.f_Stores_a z.f_Stores.length z.f_Stores_c, .slice z.f_Unique_a z.f_Unique.length z.f_Unique_c], L4.boxR (w.heap.size + 1) 31 #[.string ⟨#[]⟩, .int .i64 0, .slice none 0 0, .slice none 0 0]] from L4.push_box (L4.push_box (Sl.Sep.start w) 25 #[.string z.f_Name, .int .i64 z.f_Version, .slice z.f_Stores_a z.f_Stores.length z.f_Stores_c, .slice z.f_Unique_a z.f_Unique.length z.f_Unique_c] (w.heap.size) (by simp)) 31 #[.string ⟨#[]⟩, .int .i64 0, .slice none 0 0, .slice none 0 0] (w.heap.size + 1) (by simp))
  obtain ⟨wa, hwa⟩ : ∃ u, u = ((w.alloc (.cells #[.string z.f_Name, .int .i64 z.f_Version, .slice z.f_Stores_a z.f_Stores.length z.f_Stores_c, .slice z.f_Unique_a z.f_Unique.length z.f_Unique_c] 25)).alloc (.cells #[.string ⟨#[]⟩, .int .i64 0, .slice none 0 0, .slice none 0 0] 31)) := ⟨_, rfl⟩
  rw [← hwa] at S1
  go_enter Try.func9, Try.ntmps9
  go_upto_region 1 with fail
  rw [← hwa]
  clear hwa
  go_upto_region 2 with fail
  have S2 := Lib.hid (show Sl.Sep w _ [L4.boxR w.heap.size 25 #[.string z.f_Name, .int .i64 z.f_Version, .slice z.f_Stores_a z.f_Stores.length z.f_Stores_c, .slice z.f_Unique_a z.f_Unique.length z.f_Unique_c], L4.boxR (w.heap.size + 1) 31 #[.string ⟨#[]⟩, .int .i64 0, .slice none 0 0, .slice none 0 0], L4.boxR wa.heap.size 31 #[.string ⟨#[]⟩, .int .i64 0, .slice none 0 0, .slice none 0 0]] from L4.push_box S1.out 31 #[.string ⟨#[]⟩, .int .i64 0, .slice none 0 0, .slice none 0 0] wa.heap.size rfl)
  clear S1
  obtain ⟨g1, hg⟩ : ∃ g', g' = wa.heap.size := ⟨_, rfl⟩
  rw [← hg] at S2 ⊢
  clear hg
  generalize wa.alloc (.cells #[.string ⟨#[]⟩, .int .i64 0, .slice none 0 0, .slice none 0 0] 31) = w1 at S2 ⊢
  have hh := Bag.cs4 S2.out 0 rfl
  have f0 := hh.1; have f1 := hh.2.1; have f2 := hh.2.2.1; have f3 := hh.2.2.2; clear hh
  have hh := Bag.cs4 S2.out 2 rfl
  have f4 := hh.1; have f5 := hh.2.1; have f6 := hh.2.2.1; have f7 := hh.2.2.2; clear hh
  have z0 := Bag.free_at S2.out 2 rfl 0
  go_upto_region 3 with fail
  clear f0 f1 f2 f3 f4 f5 f6 f7 z0
  have S3 := Lib.hid (show Sl.Sep w _ [L4.boxR w.heap.size 25 #[.string z.f_Name, .int .i64 z.f_Version, .slice z.f_Stores_a z.f_Stores.length z.f_Stores_c, .slice z.f_Unique_a z.f_Unique.length z.f_Unique_c], L4.boxR (w.heap.size + 1) 31 #[.string ⟨#[]⟩, .int .i64 0, .slice none 0 0, .slice none 0 0], L4.boxR g1 31 #[.string z.f_Name, .int .i64 0, .slice none 0 0, .slice none 0 0]] from L5.put_box5 (S2.out) 2 rfl 0 (.string z.f_Name))
  clear S2
  have hh := Bag.cs4 S3.out 0 rfl
  have f0 := hh.1; have f1 := hh.2.1; have f2 := hh.2.2.1; have f3 := hh.2.2.2; clear hh
  have hh := Bag.cs4 S3.out 2 rfl
  have f4 := hh.1; have f5 := hh.2.1; have f6 := hh.2.2.1; have f7 := hh.2.2.2; clear hh
  have z1 := Bag.free_at S3.out 2 rfl 1
  go_upto_region 4 with fail
  clear f0 f1 f2 f3 f4 f5 f6 f7 z1
  have S4 := Lib.hid (show Sl.Sep w _ [L4.boxR w.heap.size 25 #[.string z.f_Name, .int .i64 z.f_Version, .slice z.f_Stores_a z.f_Stores.length z.f_Stores_c, .slice z.f_Unique_a z.f_Unique.length z.f_Unique_c], L4.boxR (w.heap.size + 1) 31 #[.string ⟨#[]⟩, .int .i64 0, .slice none 0 0, .slice none 0 0], L4.boxR g1 31 #[.string z.f_Name, .int .i64 z.f_Version, .slice none 0 0, .slice none 0 0]] from L5.put_box5 (S3.out) 2 rfl 1 (.int .i64 z.f_Version))
  clear S3
  have hh := Bag.cs4 S4.out 0 rfl
  have f0 := hh.1; have f1 := hh.2.1; have f2 := hh.2.2.1; have f3 := hh.2.2.2; clear hh
  go_wp2_with fail
  go_at_call 24
  refine (HC2.out _ S4.out.old).mono ?_
  rintro e w2 ⟨a2', c2', y2, rfl, hc2, ho, hb⟩
  clear f0 f1 f2 f3
  have S5 := Lib.hid (show Sl.Sep w _ [L4.boxR w.heap.size 25 #[.string z.f_Name, .int .i64 z.f_Version, .slice z.f_Stores_a z.f_Stores.length z.f_Stores_c, .slice z.f_Unique_a z.f_Unique.length z.f_Unique_c], L4.boxR (w.heap.size + 1) 31 #[.string ⟨#[]⟩, .int .i64 0, .slice none 0 0, .slice none 0 0], L4.boxR g1 31 #[.string z.f_Name, .int .i64 z.f_Version, .slice none 0 0, .slice none 0 0], Bag.bag (rs_Store a2' c2' y2)] from Bag.push_bag S4.out hb ho)
  clear S4
  clear hb ho
  have HQ2 := Lib.hid hc2
  clear hc2
  have hh := Bag.cs4 S5.out 0 rfl
  have f0 := hh.1; have f1 := hh.2.1; have f2 := hh.2.2.1; have f3 := hh.2.2.2; clear hh
  have hh := Bag.cs4 S5.out 2 rfl
  have f4 := hh.1; have f5 := hh.2.1; have f6 := hh.2.2.1; have f7 := hh.2.2.2; clear hh
  have z2 := Bag.free_at S5.out 2 rfl 2
  go_upto_region 5 with fail
  clear f0 f1 f2 f3 f4 f5 f6 f7 z2
  have S6 := Lib.hid (show Sl.Sep w _ [L4.boxR w.heap.size 25 #[.string z.f_Name, .int .i64 z.f_Version, .slice z.f_Stores_a z.f_Stores.length z.f_Stores_c, .slice z.f_Unique_a z.f_Unique.length z.f_Unique_c], L4.boxR (w.heap.size + 1) 31 #[.string ⟨#[]⟩, .int .i64 0, .slice none 0 0, .slice none 0 0], L4.boxR g1 31 #[.string z.f_Name, .int .i64 z.f_Version, .slice a2' y2.length c2', .slice none 0 0], Bag.bag (rs_Store a2' c2' y2)] from L5.put_box5 (S5.out) 2 rfl 2 (.slice a2' y2.length c2'))
  clear S5
  have hh := Bag.cs4 S6.out 0 rfl
  have f0 := hh.1; have f1 := hh.2.1; have f2 := hh.2.2.1; have f3 := hh.2.2.2; clear hh
  go_wp2_with fail
  go_at_call 25
  refine (HC3.out _ S6.out.old).mono ?_
  rintro e w3 ⟨a3', c3', y3, rfl, hc3, ho, hb⟩
  clear f0 f1 f2 f3
  have S7 := Lib.hid (show Sl.Sep w _ [L4.boxR w.heap.size 25 #[.string z.f_Name, .int .i64 z.f_Version, .slice z.f_Stores_a z.f_Stores.length z.f_Stores_c, .slice z.f_Unique_a z.f_Unique.length z.f_Unique_c], L4.boxR (w.heap.size + 1) 31 #[.string ⟨#[]⟩, .int .i64 0, .slice none 0 0, .slice none 0 0], L4.boxR g1 31 #[.string z.f_Name, .int .i64 z.f_Version, .slice a2' y2.length c2', .slice none 0 0], Bag.bag (rs_Store a2' c2' y2), Bag.bag (rs_IndexDef a3' c3' y3)] from Bag.push_bag S6.out hb ho)
  clear S6
  clear hb ho
  have HQ3 := Lib.hid hc3
  clear hc3
  have hh := Bag.cs4 S7.out 0 rfl
  have f0 := hh.1; have f1 := hh.2.1; have f2 := hh.2.2.1; have f3 := hh.2.2.2; clear hh
  have hh := Bag.cs4 S7.out 2 rfl
  have f4 := hh.1; have f5 := hh.2.1; have f6 := hh.2.2.1; have f7 := hh.2.2.2; clear hh
  have z3 := Bag.free_at S7.out 2 rfl 3
  go_upto_region 6 with fail
  clear f0 f1 f2 f3 f4 f5 f6 f7 z3
  have S8 := Lib.hid (show Sl.Sep w _ [L4.boxR w.heap.size 25 #[.string z.f_Name, .int .i64 z.f_Version, .slice z.f_Stores_a z.f_Stores.length z.f_Stores_c, .slice z.f_Unique_a z.f_Unique.length z.f_Unique_c], L4.boxR (w.heap.size + 1) 31 #[.string ⟨#[]⟩, .int .i64 0, .slice none 0 0, .slice none 0 0], L4.boxR g1 31 #[.string z.f_Name, .int .i64 z.f_Version, .slice a2' y2.length c2', .slice a3' y3.length c3'], Bag.bag (rs_Store a2' c2' y2), Bag.bag (rs_IndexDef a3' c3' y3)] from L5.put_box5 (S7.out) 2 rfl 3 (.slice a3' y3.length c3'))
  clear S7
  have hh := Bag.cs4 S8.out 1 rfl
  have f0 := hh.1; have f1 := hh.2.1; have f2 := hh.2.2.1; have f3 := hh.2.2.2; clear hh
  have hh := Bag.cs4 S8.out 2 rfl
  have f4 := hh.1; have f5 := hh.2.1; have f6 := hh.2.2.1; have f7 := hh.2.2.2; clear hh
  have hh := Bag.fs4 S8.out 1 rfl
  have z0 := hh.1; have z1 := hh.2.1; have z2 := hh.2.2.1; have z3 := hh.2.2.2; clear hh
  go_wp2_with fail
  clear f0 f1 f2 f3 f4 f5 f6 f7 z0 z1 z2 z3
  have S9 := Lib.hid (show Sl.Sep w _ [L4.boxR w.heap.size 25 #[.string z.f_Name, .int .i64 z.f_Version, .slice z.f_Stores_a z.f_Stores.length z.f_Stores_c, .slice z.f_Unique_a z.f_Unique.length z.f_Unique_c], L4.boxR (w.heap.size + 1) 31 #[.string z.f_Name, .int .i64 z.f_Version, .slice a2' y2.length c2', .slice a3' y3.length c3'], L4.boxR g1 31 #[.string z.f_Name, .int .i64 z.f_Version, .slice a2' y2.length c2', .slice a3' y3.length c3'], Bag.bag (rs_Store a2' c2' y2), Bag.bag (rs_IndexDef a3' c3' y3)] from L5.put_box5 (L5.put_box5 (L5.put_box5 (L5.put_box5 (S8.out) 1 rfl 0 (.string z.f_Name)) 1 rfl 1 (.int .i64 z.f_Version)) 1 rfl 2 (.slice a2' y2.length c2')) 1 rfl 3 (.slice a3' y3.length c3'))
  clear S8
  have hh := Bag.cs4 S9.out 1 rfl
  have f0 := hh.1; have f1 := hh.2.1; have f2 := hh.2.2.1; have f3 := hh.2.2.2; clear hh
  refine bodyPost_ret (v := .agg #[.string z.f_Name, .int .i64 z.f_Version, .slice a2' y2.length c2', .slice a3' y3.length c3']) (by simp [results, Try.results9, go_sem, *]) rfl ?_
  clear f0 f1 f2 f3
  have S10 := Lib.hid (show Sl.Sep w _ [L4.boxR w.heap.size 25 #[.string z.f_Name, .int .i64 z.f_Version, .slice z.f_Stores_a z.f_Stores.length z.f_Stores_c, .slice z.f_Unique_a z.f_Unique.length z.f_Unique_c], L4.boxR (w.heap.size + 1) 31 #[.string z.f_Name, .int .i64 z.f_Version, .slice a2' y2.length c2', .slice a3' y3.length c3'], L4.boxR g1 31 #[.string z.f_Name, .int .i64 z.f_Version, .slice a2' y2.length c2', .slice a3' y3.length c3'], Bag.bag ((rs_Store a2' c2' y2) ++ (rs_IndexDef a3' c3' y3)), Bag.bag ([])] from Bag.bag_join S9.out 3 4 (by decide) rfl rfl)
  clear S9
  refine ⟨⟨z.f_Name, z.f_Version, a2', c2', y2, a3', c3', y3⟩, rfl, ?_, Bag.bag_from S10.out 3 rfl, S10.out.old⟩
  show (⟨z.f_Name, z.f_Version, coS_Store y2, coS_IndexDef y3⟩ : X_Database) = (⟨z.f_Name, z.f_Version, coS_Store z.f_Stores, coS_IndexDef z.f_Unique⟩ : X_Database)
  rw [HQ2.out, HQ3.out]
set_option maxHeartbeats 4000000 in
theorem sz_Database (z : Y_Database) (q : Int) (hw : Wide_Database z) (hq0 : -1 ≤ q) (hq1 : q ≤ 1048576) (w : World) (hr : RowsRd w w.heap.size (rw_Database z)) : Calls Try.prog 7 #[vv_Database z, .int .i64 q] w fun e w' => e = .returned (.int .i64 (lft q (wt_Database (co_Database z)))) ∧ Below w.heap.size w w' := by
  have hs0 : (z.f_Name.size : Int) ≤ 9223372036854775807 := by have h : z.f_Name.size ≤ maxLen := hw.1; unfold maxLen at h; omega
  have HS2 := Lib.hid (fun (m : Int) (h0 : -1 ≤ m) (h1 : m ≤ 1048576) w' (h : Below w.heap.size w w') => sz_StoreS z.f_Stores_a z.f_Stores_c z.f_Stores m hw.2.2.1.2 hw.2.2.1.1 h0 h1 w' (((rd_head (rd_left hr)).reads.below h).more h.size) (((rd_tail (rd_left hr)).below h).more h.size))
  have HS3 := Lib.hid (fun (m : Int) (h0 : -1 ≤ m) (h1 : m ≤ 1048576) w' (h : Below w.heap.size w w') => sz_IndexDefS z.f_Unique_a z.f_Unique_c z.f_Unique m hw.2.2.2.2 hw.2.2.2.1 h0 h1 w' (((rd_head (rd_right hr)).reads.below h).more h.size) (((rd_tail (rd_right hr)).below h).more h.size))
  have HW := Lib.hid (wt_Database_parts z)
  clear hw hr
  unfold vv_Database
  have S1 := Lib.hid (show Sl.Sep w (w.alloc (.cells #[.string z.f_Name, .int .i64 z.f_Version, .slice z.f_Stores_a z.f_Stores.length z.f_Stores_c, .slice z.f_Unique_a z.f_Unique.length z.f_Unique_c] 25)) [L4.boxR w.heap.size 25 #[.string z.f_Name, .int .i64 z.f_Version, .slice z.f_Stores_a z.f_Stores.length z.f_Stores_c, .slice z.f_Unique_a z.f_Unique.length z.f_Unique_c]] from L4.push_box (Sl.Sep.start w) 25 #[.string z.f_Name, .int .i64 z.f_Version, .slice z.f_Stores_a z.f_Stores.length z.f_Stores_c, .slice z.f_Unique_a z.f_Unique.length z.f_Unique_c] (w.heap.size) (by simp))
  obtain ⟨wa, hwa⟩ : ∃ u, u = (w.alloc (.cells #[.string z.f_Name, .int .i64 z.f_Version, .slice z.f_Stores_a z.f_Stores.length z.f_Stores_c, .slice z.f_Unique_a z.f_Unique.length z.f_Unique_c] 25)) := ⟨_, rfl⟩
  rw [← hwa] at S1
  go_enter Try.func7, Try.ntmps7
  go_upto_region 1 with fail
  rw [← hwa]
  clear hwa
  have hh := Bag.cs4 S1.out 0 rfl
  have f0 := hh.1; have f1 := hh.2.1; have f2 := hh.2.2.1; have f3 := hh.2.2.2; clear hh
  by_cases hn0 : q - (z.f_Name.size : Int) < 0
  · skip
    go_wp2_with fail
    go_ret
    exact ⟨by rw [HW.out, lft_neg (by omega)] <;> rfl, S1.out.old⟩
  · skip
    obtain ⟨u2, hu⟩ : ∃ u, lft (q - (z.f_Name.size : Int)) (wsum wt_Store (coS_Store z.f_Stores)) = u := ⟨_, rfl⟩
    have hc2 := lft_cases hu
    have hr2 := lft_range (q := (q - (z.f_Name.size : Int))) (wsum wt_Store (coS_Store z.f_Stores)) (by omega)
    rw [hu] at hr2
    have HCU := HS2.out (q - (z.f_Name.size : Int)) (by omega) (by omega)
    simp only [hu] at HCU
    replace HCU := Lib.hid HCU
    clear hu
    go_wp2_with fail
    go_at_call 18
    refine (HCU.out _ S1.out.old).mono ?_
    rintro e w1 ⟨rfl, hb⟩
    clear f0 f1 f2 f3
    have S2 := Lib.hid (S1.out.keep hb)
    clear S1
    clear hb
    have hh := Bag.cs4 S2.out 0 rfl
    have f0 := hh.1; have f1 := hh.2.1; have f2 := hh.2.2.1; have f3 := hh.2.2.2; clear hh
    clear HCU
    by_cases hn2 : u2 < 0
    · have hm1 : u2 = -1 := by omega
      subst hm1
      go_wp2_with fail
      go_ret
      exact ⟨by rw [HW.out, lft_neg (by omega)] <;> rfl, S2.out.old⟩
    · skip
      obtain ⟨u3, hu⟩ : ∃ u, lft u2 (wsum wt_IndexDef (coS_IndexDef z.f_Unique)) = u := ⟨_, rfl⟩
      have hc3 := lft_cases hu
      have hr3 := lft_range (q := u2) (wsum wt_IndexDef (coS_IndexDef z.f_Unique)) (by omega)
      rw [hu] at hr3
      have HCU := HS3.out u2 (by omega) (by omega)
      simp only [hu] at HCU
      replace HCU := Lib.hid HCU
      clear hu
      go_wp2_with fail
      go_at_call 19
      refine (HCU.out _ S2.out.old).mono ?_
      rintro e w2 ⟨rfl, hb⟩
      clear f0 f1 f2 f3
      have S3 := Lib.hid (S2.out.keep hb)
      clear S2
      clear hb
      have hh := Bag.cs4 S3.out 0 rfl
      have f0 := hh.1; have f1 := hh.2.1; have f2 := hh.2.2.1; have f3 := hh.2.2.2; clear hh
      clear HCU
      by_cases hn3 : u3 < 0
      · have hm1 : u3 = -1 := by omega
        subst hm1
        go_wp2_with fail
        go_ret
        exact ⟨by rw [HW.out, lft_neg (by omega)] <;> rfl, S3.out.old⟩
      · skip
        go_wp2_with fail
        go_ret
        exact ⟨by rw [HW.out, lft_pos (by omega)] <;> first | rfl | (refine congrArg (fun i => Ending.returned (.int .i64 i)) ?_; omega), S3.out.old⟩
set_option maxHeartbeats 4000000 in
theorem eq_Database (y z : Y_Database) (hc : co_Database y = co_Database z) (hf : wt_Database (co_Database y) ≤ 1125899906842624) (w : World) (hr : RowsRd w w.heap.size (rw_Database y)) (hr2 : RowsRd w w.heap.size (rw_Database z)) : Calls Try.prog 11 #[vv_Database y, vv_Database z] w fun e w' => e = .returned (.bool true) ∧ Below w.heap.size w w' := by
  have hfp := hf
  rw [wt_Database_parts] at hfp
  have ee0 : z.f_Name = y.f_Name := (show y.f_Name = z.f_Name from congrArg X_Database.f_Name (hc)).symm
  have ee1 : z.f_Version = y.f_Version := (show y.f_Version = z.f_Version from congrArg X_Database.f_Version (hc)).symm
  have ee2 : z.f_Stores.length = y.f_Stores.length := (by have h := congrArg List.length (show coS_Store y.f_Stores = coS_Store z.f_Stores from congrArg X_Database.f_Stores (hc)); rw [coS_Store_eq, coS_Store_eq, List.length_map, List.length_map] at h; exact h.symm)
  have ee3 : z.f_Unique.length = y.f_Unique.length := (by have h := congrArg List.length (show coS_IndexDef y.f_Unique = coS_IndexDef z.f_Unique from congrArg X_Database.f_Unique (hc)); rw [coS_IndexDef_eq, coS_IndexDef_eq, List.length_map, List.length_map] at h; exact h.symm)
  have HE2 := Lib.hid (fun w' (h : Below w.heap.size w w') => eq_StoreS y.f_Stores_a z.f_Stores_a y.f_Stores_c z.f_Stores_c y.f_Stores z.f_Stores (congrArg X_Database.f_Stores hc) (by omega) w' (((rd_head (rd_left hr)).reads.below h).more h.size) (((rd_tail (rd_left hr)).below h).more h.size) (((rd_head (rd_left hr2)).reads.below h).more h.size) (((rd_tail (rd_left hr2)).below h).more h.size))
  simp only [ee0, ee1, ee2, ee3] at HE2
  have HE3 := Lib.hid (fun w' (h : Below w.heap.size w w') => eq_IndexDefS y.f_Unique_a z.f_Unique_a y.f_Unique_c z.f_Unique_c y.f_Unique z.f_Unique (congrArg X_Database.f_Unique hc) (by omega) w' (((rd_head (rd_right hr)).reads.below h).more h.size) (((rd_tail (rd_right hr)).below h).more h.size) (((rd_head (rd_right hr2)).reads.below h).more h.size) (((rd_tail (rd_right hr2)).below h).more h.size))
  simp only [ee0, ee1, ee2, ee3] at HE3
  have hv : vv_Database z = .agg #[.string y.f_Name, .int .i64 y.f_Version, .slice z.f_Stores_a y.f_Stores.length z.f_Stores_c, .slice z.f_Unique_a y.f_Unique.length z.f_Unique_c] := by unfold vv_Database; simp only [ee0, ee1, ee2, ee3]
  rw [hv]
  clear hv hfp hf hc hr hr2 ee0 ee1 ee2 ee3
  unfold vv_Database
  have S1 := Lib.hid (show Sl.Sep w ((w.alloc (.cells #[.string y.f_Name, .int .i64 y.f_Version, .slice y.f_Stores_a y.f_Stores.length y.f_Stores_c, .slice y.f_Unique_a y.f_Unique.length y.f_Unique_c] 31)).alloc (.cells #[.string y.f_Name, .int .i64 y.f_Version, .slice z.f_Stores_a y.f_Stores.length z.f_Stores_c, .slice z.f_Unique_a y.f_Unique.length z.f_Unique_c] 31)) [L4.boxR w.heap.size 31 #[.string y.f_Name, .int .i64 y.f_Version, .slice y.f_Stores_a y.f_Stores.length y.f_Stores_c, .slice y.f_Unique_a y.f_Unique.length y.f_Unique_c], L4.boxR (w.heap.size + 1) 31 #[.string y.f_Name, .int .i64 y.f_Version, .slice z.f_Stores_a y.f_Stores.length z.f_Stores_c, .slice z.f_Unique_a y.f_Unique.length z.f_Unique_c]] from L4.push_box (L4.push_box (Sl.Sep.start w) 31 #[.string y.f_Name, .int .i64 y.f_Version, .slice y.f_Stores_a y.f_Stores.length y.f_Stores_c, .slice y.f_Unique_a y.f_Unique.length y.f_Unique_c] (w.heap.size) (by simp)) 31 #[.string y.f_Name, .int .i64 y.f_Version, .slice z.f_Stores_a y.f_Stores.length z.f_Stores_c, .slice z.f_Unique_a y.f_Unique.length z.f_Unique_c] (w.heap.size + 1) (by simp))
  obtain ⟨wa, hwa⟩ : ∃ u, u = ((w.alloc (.cells #[.string y.f_Name, .int .i64 y.f_Version, .slice y.f_Stores_a y.f_Stores.length y.f_Stores_c, .slice y.f_Unique_a y.f_Unique.length y.f_Unique_c] 31)).alloc (.cells #[.string y.f_Name, .int .i64 y.f_Version, .slice z.f_Stores_a y.f_Stores.length z.f_Stores_c, .slice z.f_Unique_a y.f_Unique.length z.f_Unique_c] 31)) := ⟨_, rfl⟩
  rw [← hwa] at S1
  go_enter Try.func11, Try.ntmps11
  go_upto_region 1 with fail
  rw [← hwa]
  clear hwa
  have hh := Bag.cs4 S1.out 0 rfl
  have f0 := hh.1; have f1 := hh.2.1; have f2 := hh.2.2.1; have f3 := hh.2.2.2; clear hh
  have hh := Bag.cs4 S1.out 1 rfl
  have f4 := hh.1; have f5 := hh.2.1; have f6 := hh.2.2.1; have f7 := hh.2.2.2; clear hh
  go_wp2_with fail
  go_at_call 30
  refine (HE2.out _ S1.out.old).mono ?_
  rintro e w1 ⟨rfl, hb⟩
  clear f0 f1 f2 f3 f4 f5 f6 f7
  have S2 := Lib.hid (S1.out.keep hb)
  clear S1
  clear hb
  have hh := Bag.cs4 S2.out 0 rfl
  have f0 := hh.1; have f1 := hh.2.1; have f2 := hh.2.2.1; have f3 := hh.2.2.2; clear hh
  have hh := Bag.cs4 S2.out 1 rfl
  have f4 := hh.1; have f5 := hh.2.1; have f6 := hh.2.2.1; have f7 := hh.2.2.2; clear hh
  go_wp2_with fail
  go_at_call 31
  refine (HE3.out _ S2.out.old).mono ?_
  rintro e w2 ⟨rfl, hb⟩
  clear f0 f1 f2 f3 f4 f5 f6 f7
  have S3 := Lib.hid (S2.out.keep hb)
  clear S2
  clear hb
  have hh := Bag.cs4 S3.out 0 rfl
  have f0 := hh.1; have f1 := hh.2.1; have f2 := hh.2.2.1; have f3 := hh.2.2.2; clear hh
  have hh := Bag.cs4 S3.out 1 rfl
  have f4 := hh.1; have f5 := hh.2.1; have f6 := hh.2.2.1; have f7 := hh.2.2.2; clear hh
  go_wp2_with fail
  go_ret
  exact ⟨rfl, S3.out.old⟩
end Go.Proofs.Ytboefioalkjdaaa.V

/-
  Chapter 8's models: databases, their structure's changes as plain mathematics; what the contracts ask. No condition.
-/
namespace Go.Proofs.Ytboefioalkjdaaa.L8
set_option maxRecDepth 100000
open V L6 L7
open L4 (K isK cmpK)
open L5 (F isR isN)
open Go.Op (bytesLess)
open Go.ChangeShapes Go.WideShapes Go.ChangeAt Go.RowKit Mem Sl Sv Bag
set_option linter.unusedVariables false
set_option linter.unusedSimpArgs false

/-! ### stores and indexes by their names -/
/-! ### a valid database -/
/-! ### its changes -/
def szD (d : X_Database) : Nat := (d.f_Stores.map fun s => szI s.items).sum
/-! ### what the contracts ask -/
structure FitX (u : X_IndexDef) : Prop where
  store : u.f_Store.size ≤ 281474976710656
  field : u.f_Field.size ≤ 281474976710656
structure FitD (d : X_Database) : Prop where
  name : d.f_Name.size ≤ 281474976710656
  len : d.f_Stores.length ≤ 1048576
  stores : ∀ s ∈ d.f_Stores, FitS s
  many : d.f_Unique.length ≤ 1048576
  unique : ∀ u ∈ d.f_Unique, FitX u
section
variable {w : World} {B : Nat} {z : Y_Database}
theorem rdS (h : RowsRd w B (rw_Database z)) : Reads w B z.f_Stores_a (z.f_Stores.flatMap cl_Store) := (rd_head (rd_left h)).reads
theorem rdX (h : RowsRd w B (rw_Database z)) : RowsRd w B (rws_Store z.f_Stores) := rd_tail (rd_left h)
theorem rdU (h : RowsRd w B (rw_Database z)) : Reads w B z.f_Unique_a (z.f_Unique.flatMap cl_IndexDef) := (rd_head (rd_right h)).reads
theorem co_len : (co_Database z).f_Stores.length = z.f_Stores.length := by show (coS_Store z.f_Stores).length = _; rw [coS_Store_eq, List.length_map]
theorem coS_at {ss : List LS} {k : Nat} {x : LS} (h : ss[k]? = some x) : (coS_Store ss)[k]? = some x.con := by rw [coS_Store_eq, List.getElem?_map, h]; rfl
theorem coS_len {ss : List LS} : (coS_Store ss).length = ss.length := by rw [coS_Store_eq, List.length_map]
theorem rd_store {ss : List LS} (h : RowsRd w B (rws_Store ss)) {k : Nat} {x : LS} (hx : ss[k]? = some x) : RowsRd w B x.rows := rd_el (rw_ := rw_Store) h hx
theorem fit_store {ss : List LS} (h : ∀ s ∈ coS_Store ss, FitS s) {k : Nat} {x : LS} (hx : ss[k]? = some x) : FitS x.con := h _ (List.mem_of_getElem? (coS_at hx))
end
end Go.Proofs.Ytboefioalkjdaaa.L8

/-
  What the room of the exact laws tells: fits from weights; the weight of an upgraded database. (By hand.)
-/
namespace Go.Proofs.Ytboefioalkjdaaa.L8
set_option maxRecDepth 100000
open V L6 L7
open L4 (K isK cmpK)
open L5 (F isR isN string_geq Small)
open Go.ChangeShapes Go.WideShapes Go.ChangeAt Go.RowKit Mem Sl Ex L2 Sv Bag
set_option linter.unusedVariables false
set_option linter.unusedSimpArgs false

theorem fitR_wt {l : List F} (h : wt_Record l ≤ 1048576) : l.length ≤ 1048576 ∧ Small l := by
  have h1 : l.length ≤ wt_Record l := wsum_len wt_Field l
  refine ⟨by omega, fun f hf => ?_⟩
  have h2 : wt_Field f + 1 ≤ wt_Record l := wsum_mem hf
  have h3 : wt_Field f = f.name.size := rfl
  omega
theorem fitI_wt {x : It} (h : wt_Item x ≤ 1048576) : FitI x := by
  have h1 : wt_Item x = x.k.text.size + wt_Record x.l := rfl
  obtain ⟨h2, h3⟩ := fitR_wt (l := x.l) (by omega)
  exact ⟨by omega, h2, h3⟩
theorem fitS_wt {s : S6} (h : wt_Store s ≤ 1048576) : FitS s := by
  have h1 : wt_Store s = s.name.size + wsum wt_Item s.items := rfl
  have h2 := wsum_len wt_Item s.items
  refine ⟨by omega, by omega, fun x hx => fitI_wt ?_⟩
  have h3 : wt_Item x + 1 ≤ wsum wt_Item s.items := wsum_mem hx
  omega
theorem fitX_wt {u : X_IndexDef} (h : wt_IndexDef u ≤ 1048576) : FitX u := by
  have h1 : wt_IndexDef u = u.f_Store.size + u.f_Field.size := rfl
  exact ⟨by omega, by omega⟩
theorem fitD_wt {d : X_Database} (h : wt_Database d ≤ 1048576) : FitD d := by
  have h1 : wt_Database d = d.f_Name.size + (wsum wt_Store d.f_Stores + wsum wt_IndexDef d.f_Unique) := rfl
  have h2 := wsum_len wt_Store d.f_Stores
  have h3 := wsum_len wt_IndexDef d.f_Unique
  refine ⟨by omega, by omega, fun s hs => fitS_wt ?_, by omega, fun u hu => fitX_wt ?_⟩
  · have h4 : wt_Store s + 1 ≤ wsum wt_Store d.f_Stores := wsum_mem hs
    omega
  · have h4 : wt_IndexDef u + 1 ≤ wsum wt_IndexDef d.f_Unique := wsum_mem hu
    omega
end Go.Proofs.Ytboefioalkjdaaa.L8

/-
  The contracts of chapter 6's functions of the specification: l6Item, l6Copy. Conditions: keys' texts of at most 2^40 bytes, at most 2^20 fields and items. (Written by my program gen_l6a.py.)
-/
namespace Go.Proofs.Ytboefioalkjdaaa.L6
set_option maxRecDepth 100000
open L4 (K isK cmpK R inR encU)
open L5 (F isR isN cellsF encR eqR Small)
open Go.ChangeShapes Go.WideShapes Go.ChangeAt Go.RowKit Mem Sl Ex L2 Sv Bag
set_option linter.unusedVariables false
set_option linter.unusedSimpArgs false

theorem readsI_at {w : World} {B : Nat} {ad : Addr} {xs : List LI} (h : Reads w B (some ad) (cellsI xs)) (j : Nat) (x : LI) (hx : xs[j]? = some x) :
    w.cell? (ad.add (j * 4)) = some (.int .i64 x.k.kind) ∧ w.cell? ⟨(ad.add (j * 4)).block, (ad.add (j * 4)).off + 1, none⟩ = some (.int .i64 x.k.n) ∧ w.cell? ⟨(ad.add (j * 4)).block, (ad.add (j * 4)).off + 2, none⟩ = some (.string x.k.text) ∧ w.cell? ⟨(ad.add (j * 4)).block, (ad.add (j * 4)).off + 3, none⟩ = some (.slice x.a x.l.length x.c) := by
  obtain ⟨hj, rfl⟩ := List.getElem?_eq_some_iff.1 hx
  obtain ⟨ad', e, _, h1⟩ := readsI h j hj
  injection e with e
  subst e
  exact h1
theorem readsI_some {w : World} {B : Nat} {a : Option Addr} {xs : List LI} (h : Reads w B a (cellsI xs)) (j : Nat) (hj : j < xs.length) : ∃ ad x, a = some ad ∧ xs[j]? = some x := by
  obtain ⟨ad, e, _⟩ := readsI h j hj
  exact ⟨ad, _, e, List.getElem?_eq_getElem hj⟩
theorem rowsI_mem {xs : List LI} {j : Nat} {x : LI} (hx : xs[j]? = some x) : x.row ∈ rowsI xs := by
  obtain ⟨hj, rfl⟩ := List.getElem?_eq_some_iff.1 hx
  exact rowsI_at xs j hj
theorem fit_at {xs : List LI} {j : Nat} {x : LI} (h : ∀ y ∈ conI xs, FitI y) (hx : xs[j]? = some x) : FitI x.con := by
  obtain ⟨hj, rfl⟩ := List.getElem?_eq_some_iff.1 hx
  exact h _ (List.mem_map.2 ⟨_, List.getElem_mem hj, rfl⟩)
end Go.Proofs.Ytboefioalkjdaaa.L6

/-
  The contracts of chapter 6's functions of the specification that only read: FindItem, IsStore, EqualStores, SizeStore. Conditions: keys' texts of at most 2^40 bytes, at most 2^20 fields and items. (Written by my program gen_l6b.py.)
-/
namespace Go.Proofs.Ytboefioalkjdaaa.L6
set_option maxRecDepth 100000
open L4 (K isK cmpK R inR encU)
open L5 (F isR isN cellsF encR eqR Small)
open Go.ChangeShapes Go.WideShapes Go.ChangeAt Go.RowKit Mem Sl Ex L2 Sv Bag
set_option linter.unusedVariables false
set_option linter.unusedSimpArgs false

theorem con_of {xs : List LI} {k : Nat} {x : LI} (hx : xs[k]? = some x) : (conI xs)[k]? = some x.con := by unfold conI; rw [List.getElem?_map, hx]; rfl
end Go.Proofs.Ytboefioalkjdaaa.L6

/-
  The contracts of chapter 7's functions of the specification, III: CursorNext, WalkStore. Conditions: keys' texts of at most 2^40 bytes, at most 2^20 fields and items. (Written by my program gen_l7c.py.)
-/
namespace Go.Proofs.Ytboefioalkjdaaa.L7
set_option maxRecDepth 100000
open L4 (K isK cmpK R inR encU)
open L5 (F isR isN cellsF encR eqR Small getO getN getB)
open L6
open Go.ChangeShapes Go.WideShapes Go.ChangeAt Go.RowKit Mem Sl Ex L2 Sv Bag
set_option linter.unusedVariables false
set_option linter.unusedSimpArgs false

structure FitC (x : Cu) : Prop where
  lo : x.r.lo.text.size ≤ 281474976710656
  hi : x.r.hi.text.size ≤ 281474976710656
  at_ : x.k.text.size ≤ 281474976710656

end Go.Proofs.Ytboefioalkjdaaa.L7

/-
  The contracts of chapter 7's functions of the specification, IV: UniqueFault, WalkStore. Conditions: keys' texts of at most 2^40 bytes, at most 2^20 fields and items. (Written by my program gen_l7d.py.)
-/
namespace Go.Proofs.Ytboefioalkjdaaa.L7
set_option maxRecDepth 100000
open L4 (K isK cmpK R inR encU)
open L5 (F isR isN cellsF encR eqR Small getO getN getB)
open L6
open Go.ChangeShapes Go.WideShapes Go.ChangeAt Go.RowKit Mem Sl Ex L2 Sv Bag
set_option linter.unusedVariables false
set_option linter.unusedSimpArgs false

theorem FitC.to {x : Cu} (h : FitC x) (k : K) (hk : k.text.size ≤ 281474976710656) : FitC (x.to k) := ⟨h.lo, h.hi, hk⟩
end Go.Proofs.Ytboefioalkjdaaa.L7

/-
  The contracts of chapter 6's functions of the specification that only read, II: EqualStores, SizeStore. Conditions: keys' texts of at most 2^40 bytes, at most 2^20 fields and items. (Written by my program gen_l6c.py.)
-/
namespace Go.Proofs.Ytboefioalkjdaaa.L6
set_option maxRecDepth 100000
open L4 (K isK cmpK R inR encU)
open L5 (F isR isN cellsF encR eqR Small)
open Go.ChangeShapes Go.WideShapes Go.ChangeAt Go.RowKit Mem Sl Ex L2 Sv Bag
set_option linter.unusedVariables false
set_option linter.unusedSimpArgs false

set_option maxHeartbeats 8000000 in
theorem specSizeStore_any (y : LS) (hf : FitS y.con) (w : World) (hr : RowsRd w w.heap.size y.rows) :
    Calls Try.prog 34 #[y.v] w fun e w' => e = .returned (.int .i64 (szI y.con.items)) ∧ Below w.heap.size w w' := by
  obtain ⟨name, a, c, xs, auto⟩ := y
  have HR := Lib.hid (fun w' (h : Below w.heap.size w w') => LS.outer (hr.below h))
  have HX := Lib.hid (fun w' (h : Below w.heap.size w w') => (LS.inner (hr.below h)).more h.size)
  have HF := Lib.hid hf.items
  have HNM := Lib.hid hf.name
  have hl := hf.len
  simp only [LS.con, conI_length] at hl
  dsimp only [LS.con] at HR HX HF HNM
  try unfold LS.v LS.cells LS.con
  try dsimp only
  obtain ⟨N, hN⟩ : ∃ n, n = xs.length := ⟨_, rfl⟩
  rw [← hN] at hl ⊢
  have hl' : (N : Int) ≤ 1048576 := by omega
  have HN := Lib.hid hN
  clear hN hr hf
  have S1 := Lib.hid (show Sl.Sep w (w.alloc (.cells #[.string name, .slice a N c, .int .i64 auto] 44)) [L4.boxR w.heap.size 44 #[.string name, .slice a N c, .int .i64 auto]] from L4.push_box (Sl.Sep.start w) 44 #[.string name, .slice a N c, .int .i64 auto] (w.heap.size) (by simp))
  obtain ⟨wa, hwa⟩ : ∃ u, u = (w.alloc (.cells #[.string name, .slice a N c, .int .i64 auto] 44)) := ⟨_, rfl⟩
  rw [← hwa] at S1
  go_enter Try.func34, Try.ntmps34
  go_upto_region 1 with fail
  rw [← hwa]
  clear hwa
  go_wp2_with fail
  go_loopw [3, 4] (fun v i wr => ∃ k m : Nat, k ≤ N ∧ i = .int .i64 k ∧ v = .int .i64 m ∧ m ≤ k * 1100 ∧ Hid (m = szI ((conI xs).take k) ∧ Sl.Sep w wr [L4.boxR w.heap.size 44 #[.string name, .slice a N c, .int .i64 auto]])) (fun _ i _ => N - (intOf i).toNat)
  case atStart => exact ⟨0, 0, Nat.zero_le _, rfl, rfl, by omega, And.intro rfl S1.out⟩
  case round =>
    obtain ⟨k, m, hk, rfl, rfl, hm, hrel⟩ := hrel
    have HM := Lib.hid hrel.out.1
    have S2 := Lib.hid hrel.out.2
    clear hrel S1
    by_cases hlt : (k : Int) < (N : Int)
    · skip
      have hkl : k < xs.length := by have := HN.out; omega
      obtain ⟨ad, x, rfl, hx⟩ := readsI_some (HR.out _ S2.out.old) k hkl
      obtain ⟨⟨kd, n, t⟩, ia, ic, l⟩ := x
      have HK := Lib.hid (fun w' (h : Below w.heap.size w w') => readsI_at (HR.out _ h) k _ hx)
      try dsimp only at HK
      have HFI := Lib.hid (fit_at HF.out hx)
      try dsimp only [LI.con] at HFI
      have HC := Lib.hid (show (conI xs)[k]? = some (⟨⟨kd, n, t⟩, l⟩ : It) from con_of hx)
      have HEK := fun w => L4.specEncodeKey_any ⟨kd, n, t⟩ HFI.out.text w
      obtain ⟨ek, hek⟩ : ∃ u, L4.toI (encU ⟨kd, n, t⟩) = u := ⟨_, rfl⟩
      rw [hek] at HEK
      replace HEK := Lib.hid HEK
      have HER := fun w' (h : Below w.heap.size w w') => L5.specEncodeRecord_any ia ic l (by have : l.length ≤ 1048576 := HFI.out.len; omega) HFI.out.small w' (((HX.out _ h).at_ (rowsI_mem hx)).reads)
      obtain ⟨er, her⟩ : ∃ u, encR l = u := ⟨_, rfl⟩
      rw [her] at HER
      replace HER := Lib.hid HER
      obtain ⟨p, hp⟩ : ∃ p, p = ek.length := ⟨_, rfl⟩
      obtain ⟨q, hq⟩ : ∃ q, q = er.length := ⟨_, rfl⟩
      have hpl : p ≤ 50 := by rw [hp, ← hek, L4.toI_length]; exact encU_small _
      have hql : q ≤ 1000 := by rw [hq, ← her]; exact encR_small l
      have HS := Lib.hid (show szI ((conI xs).take (k + 1)) = m + (p + q) from by rw [szI_take HC.out, ← HM.out, hp, hq, ← hek, ← her, L4.toI_length])
      have HPQ := Lib.hid (And.intro hp hq)
      clear hp hq hek her hx
      have f0 : World.cell? _ ⟨w.heap.size, 0, none⟩ = some (.string name) := Bag.cell_at S2.out 0 rfl 0 rfl
      have f1 : World.cell? _ ⟨w.heap.size, 1, none⟩ = some (.slice (some ad) N c) := Bag.cell_at S2.out 0 rfl 1 rfl
      have f2 : World.cell? _ ⟨w.heap.size, 2, none⟩ = some (.int .i64 auto) := Bag.cell_at S2.out 0 rfl 2 rfl
      have f3 : World.cell? _ (ad.add (k * 4)) = some (.int .i64 kd) := (HK.out _ S2.out.old).1
      have f4 : World.cell? _ (⟨(ad.add (k * 4)).block, (ad.add (k * 4)).off + 1, none⟩) = some (.int .i64 n) := (HK.out _ S2.out.old).2.1
      have f5 : World.cell? _ (⟨(ad.add (k * 4)).block, (ad.add (k * 4)).off + 2, none⟩) = some (.string t) := (HK.out _ S2.out.old).2.2.1
      have f6 : World.cell? _ (⟨(ad.add (k * 4)).block, (ad.add (k * 4)).off + 3, none⟩) = some (.slice ia l.length ic) := (HK.out _ S2.out.old).2.2.2
      go_upto_region 5 with fail
      clear f0 f1 f2 f3 f4 f5 f6
      refine wp_region_held_drew (S := (fun w' => World.cell? w' ⟨w.heap.size, 0, none⟩ = some (.string name) ∧ World.cell? w' ⟨w.heap.size, 1, none⟩ = some (.slice (some ad) N c) ∧ World.cell? w' ⟨w.heap.size, 2, none⟩ = some (.int .i64 auto) ∧ World.cell? w' (ad.add (k * 4)) = some (.int .i64 kd) ∧ World.cell? w' (⟨(ad.add (k * 4)).block, (ad.add (k * 4)).off + 1, none⟩) = some (.int .i64 n) ∧ World.cell? w' (⟨(ad.add (k * 4)).block, (ad.add (k * 4)).off + 2, none⟩) = some (.string t) ∧ World.cell? w' (⟨(ad.add (k * 4)).block, (ad.add (k * 4)).off + 3, none⟩) = some (.slice ia l.length ic))) (by kernel_rfl) ⟨Bag.cell_at S2.out 0 rfl 0 rfl, Bag.cell_at S2.out 0 rfl 1 rfl, Bag.cell_at S2.out 0 rfl 2 rfl, (HK.out _ S2.out.old).1, (HK.out _ S2.out.old).2.1, (HK.out _ S2.out.old).2.2.1, (HK.out _ S2.out.old).2.2.2⟩ (fun hS => ?_)
      have S3 := Lib.hid (show Sl.Sep w _ [L4.boxR w.heap.size 44 #[.string name, .slice (some ad) N c, .int .i64 auto]] from Bag.drew1 S2.out)
      clear S2
      generalize World.drew _ = w1 at hS S3 ⊢
      refine tk 0 rfl ?_
      try simp only [zp0, zp1, zp2, zp3, zp4]
      refine tk 1 rfl ?_
      try simp only [zp0, zp1, zp2, zp3, zp4]
      refine tk 2 rfl ?_
      try simp only [zp0, zp1, zp2, zp3, zp4]
      refine tk 3 rfl ?_
      try simp only [zp0, zp1, zp2, zp3, zp4]
      refine tk 4 rfl ?_
      try simp only [zp0, zp1, zp2, zp3, zp4]
      refine tk 5 rfl ?_
      try simp only [zp0, zp1, zp2, zp3, zp4]
      refine tk 6 rfl ?_
      try simp only [zp0, zp1, zp2, zp3, zp4]
      refine tk 10 rfl ?_
      try simp only [zp0, zp1, zp2, zp3, zp4]
      refine tk 11 rfl ?_
      try simp only [zp0, zp1, zp2, zp3, zp4]
      refine tk 12 rfl ?_
      try simp only [zp0, zp1, zp2, zp3, zp4]
      refine tk 13 rfl ?_
      try simp only [zp0, zp1, zp2, zp3, zp4]
      refine tk 14 rfl ?_
      try simp only [zp0, zp1, zp2, zp3, zp4]
      refine tk 15 rfl ?_
      try simp only [zp0, zp1, zp2, zp3, zp4]
      refine Reg.one_op (i := 7) rfl (by kernel_rfl) (fun K hK => ?_)
      go_simp
      go_at_call 55
      refine (HEK.out _).mono ?_
      rintro e w2 ⟨a1, c1, rfl, ho, hb⟩
      have S4 := Lib.hid (show Sl.Sep w _ [L4.boxR w.heap.size 44 #[.string name, .slice (some ad) N c, .int .i64 auto], Sl.own 5 .u8 a1 c1 ek] from Sl.Sep.pushOwn S3.out hb ho)
      clear S3
      clear hb ho
      rw [← HPQ.out.1]
      go_wp2_with fail
      refine hK.out _ _ ⟨Bag.cell_at S4.out 0 rfl 0 rfl, Bag.cell_at S4.out 0 rfl 1 rfl, Bag.cell_at S4.out 0 rfl 2 rfl, (HK.out _ S4.out.old).1, (HK.out _ S4.out.old).2.1, (HK.out _ S4.out.old).2.2.1, (HK.out _ S4.out.old).2.2.2⟩ (fun hS => ?_)
      clear hK K
      try simp only [zp0, zp1, zp2, zp3, zp4]
      refine tk 8 rfl ?_
      try simp only [zp0, zp1, zp2, zp3, zp4]
      refine tk 9 rfl ?_
      try simp only [zp0, zp1, zp2, zp3, zp4]
      refine Reg.one_op (i := 16) rfl (by kernel_rfl) (fun K hK => ?_)
      go_simp
      go_at_call 56
      refine (HER.out _ S4.out.old).mono ?_
      rintro e w3 ⟨a2', c2', rfl, ho, hb⟩
      have S5 := Lib.hid (show Sl.Sep w _ [L4.boxR w.heap.size 44 #[.string name, .slice (some ad) N c, .int .i64 auto], Sl.own 5 .u8 a1 c1 ek, Sl.own 5 .u8 a2' c2' er] from Sl.Sep.pushOwn S4.out hb ho)
      clear S4
      clear hb ho
      rw [← HPQ.out.2]
      go_wp2_with fail
      refine hK.out _ _ ⟨Bag.cell_at S5.out 0 rfl 0 rfl, Bag.cell_at S5.out 0 rfl 1 rfl, Bag.cell_at S5.out 0 rfl 2 rfl, (HK.out _ S5.out.old).1, (HK.out _ S5.out.old).2.1, (HK.out _ S5.out.old).2.2.1, (HK.out _ S5.out.old).2.2.2⟩ (fun hS => ?_)
      clear hK K
      try simp only [zp0, zp1, zp2, zp3, zp4]
      refine tk 17 rfl ?_
      try simp only [zp0, zp1, zp2, zp3, zp4]
      refine tk 18 rfl ?_
      try simp only [zp0, zp1, zp2, zp3, zp4]
      refine tk 19 rfl ?_
      try simp only [zp0, zp1, zp2, zp3, zp4]
      refine wpAnyH_done (by kernel_rfl) ?_ _
      have f0 : World.cell? _ ⟨w.heap.size, 0, none⟩ = some (.string name) := Bag.cell_at S5.out 0 rfl 0 rfl
      have f1 : World.cell? _ ⟨w.heap.size, 1, none⟩ = some (.slice (some ad) N c) := Bag.cell_at S5.out 0 rfl 1 rfl
      have f2 : World.cell? _ ⟨w.heap.size, 2, none⟩ = some (.int .i64 auto) := Bag.cell_at S5.out 0 rfl 2 rfl
      have f3 : World.cell? _ (ad.add (k * 4)) = some (.int .i64 kd) := (HK.out _ S5.out.old).1
      have f4 : World.cell? _ (⟨(ad.add (k * 4)).block, (ad.add (k * 4)).off + 1, none⟩) = some (.int .i64 n) := (HK.out _ S5.out.old).2.1
      have f5 : World.cell? _ (⟨(ad.add (k * 4)).block, (ad.add (k * 4)).off + 2, none⟩) = some (.string t) := (HK.out _ S5.out.old).2.2.1
      have f6 : World.cell? _ (⟨(ad.add (k * 4)).block, (ad.add (k * 4)).off + 3, none⟩) = some (.slice ia l.length ic) := (HK.out _ S5.out.old).2.2.2
      clear f0 f1 f2 f3 f4 f5 f6
      have S6 := Lib.hid (show Sl.Sep w _ [L4.boxR w.heap.size 44 #[.string name, .slice (some ad) N c, .int .i64 auto]] from Bag.take S5.out [0] (by rfl) (by decide))
      clear S5
      have f0 : World.cell? _ ⟨w.heap.size, 0, none⟩ = some (.string name) := Bag.cell_at S6.out 0 rfl 0 rfl
      have f1 : World.cell? _ ⟨w.heap.size, 1, none⟩ = some (.slice (some ad) N c) := Bag.cell_at S6.out 0 rfl 1 rfl
      have f2 : World.cell? _ ⟨w.heap.size, 2, none⟩ = some (.int .i64 auto) := Bag.cell_at S6.out 0 rfl 2 rfl
      have f3 : World.cell? _ (ad.add (k * 4)) = some (.int .i64 kd) := (HK.out _ S6.out.old).1
      have f4 : World.cell? _ (⟨(ad.add (k * 4)).block, (ad.add (k * 4)).off + 1, none⟩) = some (.int .i64 n) := (HK.out _ S6.out.old).2.1
      have f5 : World.cell? _ (⟨(ad.add (k * 4)).block, (ad.add (k * 4)).off + 2, none⟩) = some (.string t) := (HK.out _ S6.out.old).2.2.1
      have f6 : World.cell? _ (⟨(ad.add (k * 4)).block, (ad.add (k * 4)).off + 3, none⟩) = some (.slice ia l.length ic) := (HK.out _ S6.out.old).2.2.2
      go_wp2_with fail
      go_roundw
      case rel => exact ⟨k + 1, m + p + q, by omega, by go_num, by rw [show IntKind.i64.wrap ((m : Int) + p) = m + p from IntWalk.i64_in _ ⟨by omega, by omega⟩, show IntKind.i64.wrap ((m : Int) + p + q) = m + p + q from IntWalk.i64_in _ ⟨by omega, by omega⟩]; go_num, by omega, And.intro (by rw [HS.out]; omega) S6.out⟩
      case measure => simp [intOf]; omega
    · skip
      have f0 : World.cell? _ ⟨w.heap.size, 0, none⟩ = some (.string name) := Bag.cell_at S2.out 0 rfl 0 rfl
      have f1 : World.cell? _ ⟨w.heap.size, 1, none⟩ = some (.slice a N c) := Bag.cell_at S2.out 0 rfl 1 rfl
      have f2 : World.cell? _ ⟨w.heap.size, 2, none⟩ = some (.int .i64 auto) := Bag.cell_at S2.out 0 rfl 2 rfl
      go_wp2_with fail
      go_ret
      have hk2 : k = N := by omega
      have HE := Lib.hid (show (conI xs).take k = conI xs from List.take_of_length_le (by rw [conI_length, ← HN.out]; omega))
      exact ⟨by have h1 := HM.out; rw [HE.out] at h1; rw [← h1]; rfl, S2.out.old⟩
end Go.Proofs.Ytboefioalkjdaaa.L6

/-
  The contracts of chapter 8's SizeDatabase and EqualDatabases of the specification. Conditions: names of at most 2^48 bytes, at most 2^20 stores, indexes, items and fields. (Written by my program gen_l8h.py.)
-/
namespace Go.Proofs.Ytboefioalkjdaaa.L8
set_option maxRecDepth 100000
open V L6 L7
open L4 (K isK cmpK)
open L5 (F isR isN string_geq)
open Go.Op (bytesLess)
open Go.ChangeShapes Go.WideShapes Go.ChangeAt Go.RowKit Mem Sl Ex L2 Sv Bag
set_option linter.unusedVariables false
set_option linter.unusedSimpArgs false

def szDs (xs : List S6) : Nat := (xs.map fun s => szI s.items).sum
theorem szD_eq (d : X_Database) : szD d = szDs d.f_Stores := rfl
theorem szDs_take {xs : List S6} {k : Nat} {x : S6} (h : xs[k]? = some x) : szDs (xs.take (k + 1)) = szDs (xs.take k) + szI x.items := by
  unfold szDs
  rw [V.take_next h, List.map_append, List.sum_append]
  simp
theorem szI_le : ∀ (xs : List It), szI xs ≤ xs.length * 1050
  | [] => Nat.le_refl _
  | x :: xs => by
    have h1 := szI_le xs
    have h2 : szI (x :: xs) = ((L4.encU x.k).length + (L5.encR x.l).length) + szI xs := by unfold szI; rw [List.map_cons, List.sum_cons]
    have h3 := encU_small x.k
    have h4 := encR_small x.l
    rw [h2, List.length_cons]
    omega
set_option maxHeartbeats 8000000 in
theorem specSizeDatabase_any (z : Y_Database) (hf : FitD (co_Database z)) (w : World) (hr : RowsRd w w.heap.size (rw_Database z)) :
    Calls Try.prog 14 #[vv_Database z] w fun e w' => e = .returned (.int .i64 (szD (co_Database z) : Nat)) ∧ Below w.heap.size w w' := by
  have HR : Hid (∀ w' (h : Below w.heap.size w w'), Reads w' w.heap.size z.f_Stores_a (z.f_Stores.flatMap cl_Store)) := Lib.hid (fun w' h => (rdS hr).below h)
  have HX : Hid (∀ w' (h : Below w.heap.size w w'), RowsRd w' w'.heap.size (rws_Store z.f_Stores)) := Lib.hid (fun w' h => ((rdX hr).below h).more h.size)
  have HU : Hid (∀ w' (h : Below w.heap.size w w'), Reads w' w.heap.size z.f_Unique_a (z.f_Unique.flatMap cl_IndexDef)) := Lib.hid (fun w' h => (rdU hr).below h)
  have HFD := Lib.hid hf
  have HFDl : z.f_Stores.length ≤ 1048576 := by have h := hf.len; rwa [co_len] at h
  have HFDm : z.f_Unique.length ≤ 1048576 := hf.many
  clear hf hr
  obtain ⟨name, ver, sa, sc, ss, ua, uc, us⟩ := z
  dsimp only [co_Database] at HR HX HU HFD HFDl HFDm
  try unfold vv_Database
  try unfold co_Database
  try dsimp only
  try rw [show coS_IndexDef us = us from rfl]
  rw [show coS_IndexDef us = us from rfl] at HFD
  obtain ⟨N, hN⟩ : ∃ n, n = ss.length := ⟨_, rfl⟩
  obtain ⟨M, hM⟩ : ∃ n, n = us.length := ⟨_, rfl⟩
  rw [← hN] at HFDl ⊢
  rw [← hM] at HFDm ⊢
  have HFDl' : (N : Int) ≤ 1048576 := by omega
  have HFDm' : (M : Int) ≤ 1048576 := by omega
  have HN := Lib.hid hN
  have HM := Lib.hid hM
  clear hN hM
  rw [szD_eq]
  dsimp only
  have S1 := Lib.hid (show Sl.Sep w (w.alloc (.cells #[.string name, .int .i64 ver, .slice sa N sc, .slice ua M uc] 31)) [L4.boxR w.heap.size 31 #[.string name, .int .i64 ver, .slice sa N sc, .slice ua M uc]] from L4.push_box (Sl.Sep.start w) 31 #[.string name, .int .i64 ver, .slice sa N sc, .slice ua M uc] (w.heap.size) (by simp))
  obtain ⟨wa, hwa⟩ : ∃ w_, w_ = (w.alloc (.cells #[.string name, .int .i64 ver, .slice sa N sc, .slice ua M uc] 31)) := ⟨_, rfl⟩
  rw [← hwa] at S1
  go_enter Try.func14, Try.ntmps14
  go_upto_region 1 with fail
  rw [← hwa]
  clear hwa
  have hh := Bag.cs4 S1.out 0 rfl
  have f0 := hh.1; have f1 := hh.2.1; have f2 := hh.2.2.1; have f3 := hh.2.2.2; clear hh
  go_wp2_with fail
  clear f0 f1 f2 f3
  go_loopw [3, 4] (fun v i wr => ∃ k m : Nat, k ≤ N ∧ i = .int .i64 k ∧ v = .int .i64 m ∧ m ≤ k * 1101004800 ∧ Hid (m = szDs ((coS_Store ss).take k) ∧ Sl.Sep w wr [L4.boxR w.heap.size 31 #[.string name, .int .i64 ver, .slice sa N sc, .slice ua M uc]])) (fun _ i _ => N - (intOf i).toNat)
  case atStart => exact ⟨0, 0, Nat.zero_le _, rfl, rfl, by omega, And.intro rfl S1.out⟩
  case round =>
    obtain ⟨k, m, hk, rfl, rfl, hm, hrel⟩ := hrel
    have HMM := Lib.hid hrel.out.1
    have S2 := Lib.hid hrel.out.2
    clear hrel S1
    by_cases hlt : (k : Int) < (N : Int)
    · skip
      have hkl : k < ss.length := by have := HN.out; omega
      obtain ⟨x, hx⟩ : ∃ x, ss[k]? = some x := ⟨_, List.getElem?_eq_getElem hkl⟩
      obtain ⟨sad, e'⟩ := el_some cl_Store_len (by decide) (HR.out _ S2.out.old) hkl
      subst e'
      have HKx := Lib.hid (fun w' (h : Below w.heap.size w w') => el3 cl_Store_len (HR.out _ h) hx rfl)
      have HRx := Lib.hid (fun w' (h : Below w.heap.size w w') => rd_store (HX.out w' h) hx)
      have HFx := Lib.hid (fit_store HFD.out.stores hx)
      have HCx := Lib.hid (coS_at hx)
      clear hx
      obtain ⟨z0, hz0⟩ : ∃ n, szI x.con.items = n := ⟨_, rfl⟩
      have HSS := fun w' (h : Below w.heap.size w w') => specSizeStore_any x HFx.out w' (HRx.out w' h)
      rw [hz0] at HSS
      dsimp only [LS.v, LS.cells] at HSS
      replace HSS := Lib.hid HSS
      have hzl : z0 ≤ 1101004800 := by have h1 := szI_le x.con.items; have h2 := HFx.out.len; rw [hz0] at h1; omega
      have HS := Lib.hid (show szDs ((coS_Store ss).take (k + 1)) = m + z0 from by rw [szDs_take HCx.out, ← HMM.out, hz0])
      clear hz0
      have hwa : IntKind.i64.wrap ((m : Int) + (z0 : Int)) = (m : Int) + (z0 : Int) := IntWalk.i64_in _ ⟨by omega, by omega⟩
      have hh := Bag.cs4 S2.out 0 rfl
      have f0 := hh.1; have f1 := hh.2.1; have f2 := hh.2.2.1; have f3 := hh.2.2.2; clear hh
      have hh := HKx.out _ S2.out.old
      have f4 := hh.1; have f5 := hh.2.1; have f6 := hh.2.2; clear hh
      go_wp2_with fail
      go_at_call 34
      refine (HSS.out _ S2.out.old).mono ?_
      rintro e w1 ⟨rfl, hb⟩
      clear f0 f1 f2 f3 f4 f5 f6
      have S3 := Lib.hid (S2.out.keep hb)
      clear S2
      clear hb
      have hh := Bag.cs4 S3.out 0 rfl
      have f0 := hh.1; have f1 := hh.2.1; have f2 := hh.2.2.1; have f3 := hh.2.2.2; clear hh
      have hh := HKx.out _ S3.out.old
      have f4 := hh.1; have f5 := hh.2.1; have f6 := hh.2.2; clear hh
      clear f0 f1 f2 f3 f4 f5 f6
      have S4 := Lib.hid (show Sl.Sep w _ [L4.boxR w.heap.size 31 #[.string name, .int .i64 ver, .slice (some sad) N sc, .slice ua M uc]] from Bag.take S3.out [0] (by rfl) (by decide))
      clear S3
      have hh := Bag.cs4 S4.out 0 rfl
      have f0 := hh.1; have f1 := hh.2.1; have f2 := hh.2.2.1; have f3 := hh.2.2.2; clear hh
      have hh := HKx.out _ S4.out.old
      have f4 := hh.1; have f5 := hh.2.1; have f6 := hh.2.2; clear hh
      go_wp2_with fail
      go_roundw
      case rel => exact ⟨k + 1, m + z0, by omega, by go_num, by first | rfl | (rw [hwa]; rfl) | (rw [hwa]; go_num) | go_num, by omega, And.intro (by rw [HS.out]) S4.out⟩
      case measure => simp [intOf]; omega
    · skip
      have hh := Bag.cs4 S2.out 0 rfl
      have f0 := hh.1; have f1 := hh.2.1; have f2 := hh.2.2.1; have f3 := hh.2.2.2; clear hh
      go_wp2_with fail
      go_ret
      have hk2 : k = N := by omega
      have HE := Lib.hid (show (coS_Store ss).take k = coS_Store ss from List.take_of_length_le (by rw [coS_len, ← HN.out]; omega))
      exact ⟨by have h1 := HMM.out; rw [HE.out] at h1; rw [← h1]; rfl, S2.out.old⟩
end Go.Proofs.Ytboefioalkjdaaa.L8

/-
  The contract of chapter 4's isLetter of the program (over any seat). No condition.
-/
namespace Go.Proofs.Ytboefioalkjdaaa.L4
set_option maxRecDepth 100000
open Go.ChangeShapes Go.WideShapes Go.ChangeAt Go.RowKit Mem Sl Ex L2
set_option linter.unusedVariables false
def isLet (c : UInt8) : Bool := decide (97 ≤ c.toNat) && decide (c.toNat ≤ 122)
theorem isLetter_any (c : UInt8) (w : World) :
    Calls Try.prog 49 #[.int .u8 c.toNat] w fun e w' => e = .returned (.bool (isLet c)) ∧ w = w' := by
  by_cases h1 : (97 : Int) ≤ c.toNat <;> by_cases h2 : (c.toNat : Int) ≤ 122 <;>
    (go_enter Try.func49, Try.ntmps49
     go_wp2
     go_ret
     exact ⟨L1.ret_bool (by unfold isLet; have h1' := h1; have h2' := h2; simp only [Bool.false_eq, Bool.true_eq, Bool.and_eq_false_iff, Bool.and_eq_true, decide_eq_false_iff_not, decide_eq_true_eq]; omega), rfl⟩)
end Go.Proofs.Ytboefioalkjdaaa.L4

/-
  The contracts of chapter 4's tests of the program: isLetter, isDigit, isKeyNumber, isKeyText, IsKey. Conditions: a text of at most 2^48 bytes.
-/
namespace Go.Proofs.Ytboefioalkjdaaa.L4
set_option maxRecDepth 100000
open Go.ChangeShapes Go.WideShapes Go.ChangeAt Go.RowKit Mem Sl Ex L2
set_option linter.unusedVariables false

def isDig (c : UInt8) : Bool := decide (48 ≤ c.toNat) && decide (c.toNat ≤ 57)
theorem chr_eq (c : UInt8) : chr c = (isLet c || isDig c) := rfl

theorem isDigit_any (c : UInt8) (w : World) :
    Calls Try.prog 98 #[.int .u8 c.toNat] w fun e w' => e = .returned (.bool (isDig c)) ∧ w = w' := by
  by_cases h1 : (48 : Int) ≤ c.toNat <;> by_cases h2 : (c.toNat : Int) ≤ 57 <;>
    (go_enter Try.func98, Try.ntmps98
     go_wp2
     go_ret
     exact ⟨L1.ret_bool (by unfold isDig; have h1' := h1; have h2' := h2; simp only [Bool.false_eq, Bool.true_eq, Bool.and_eq_false_iff, Bool.and_eq_true, decide_eq_false_iff_not, decide_eq_true_eq]; omega), rfl⟩)
theorem isKeyNumber_any (n : Int) (w : World) :
    Calls Try.prog 83 #[.int .i64 n] w fun e w' => e = .returned (.bool (L1.inB n (-1000000000000) 1000000000000)) ∧ w = w' := by
  have H1 := Lib.hid (fun w => L1.inRange_any n (-1000000000000) 1000000000000 w)
  obtain ⟨b, hb⟩ : ∃ b, L1.inB n (-1000000000000) 1000000000000 = b := ⟨_, rfl⟩
  rw [hb] at H1 ⊢
  go_enter Try.func83, Try.ntmps83
  go_wp2_with (go_at_call 27; with_reducible refine (H1.out _).mono ?_; rintro e w1 ⟨rfl, rfl⟩)
  go_ret
  exact ⟨rfl, rfl⟩
theorem isKeyText_any (s : ByteArray) (hs : s.size ≤ 281474976710656) (w : World) :
    Calls Try.prog 84 #[.string s] w fun e w' => e = .returned (.bool (isT s.data.toList)) ∧ w = w' := by
  have hsz : s.data.toList.length = s.size := by rw [Array.length_toList]; rfl
  have HZ := Lib.hid hsz
  clear hsz
  by_cases h12 : (s.size : Int) ≤ 12
  · go_enter Try.func84, Try.ntmps84
    go_wp2
    go_loop [9] (fun i => ∃ k : Nat, k ≤ s.size ∧ i = .int .i64 k ∧ Hid (∀ j (hj : j < s.data.toList.length), j < k → chr s.data.toList[j] = true)) (fun i => s.size - (intOf i).toNat)
    case atStart => exact ⟨0, Nat.zero_le _, rfl, fun j hj h => by omega⟩
    case round =>
      obtain ⟨k, hk, rfl, hrel⟩ := hrel
      by_cases hlt : k < s.size
      · have hb : s.data.toList[k]? = some s[k] := by
          rw [List.getElem?_eq_getElem (by rw [HZ.out]; exact hlt)]
          rfl
        have HB := Lib.hid hb
        clear hb
        have HC := Lib.hid (chr_eq s[k])
        have H1 := Lib.hid (fun w => isLetter_any s[k] w)
        have H2 := Lib.hid (fun w => isDigit_any s[k] w)
        obtain ⟨bl, hbl⟩ : ∃ b, isLet s[k] = b := ⟨_, rfl⟩
        obtain ⟨bd, hbd⟩ : ∃ b, isDig s[k] = b := ⟨_, rfl⟩
        rw [hbl] at H1 HC
        rw [hbd] at H2 HC
        clear hbl hbd
        cases bl
        all_goals
          cases bd
          all_goals
            go_wp2_with (first
              | (go_at_call 49; refine (H1.out _).mono ?_; rintro e w1 ⟨rfl, rfl⟩)
              | (go_at_call 98; refine (H2.out _).mono ?_; rintro e w1 ⟨rfl, rfl⟩))
            first
            | (go_round
               case rel => exact ⟨k + 1, by omega, by go_num, fun j hj h => by
                  by_cases e : j < k
                  · exact hrel.out j hj e
                  · obtain rfl : j = k := by omega
                    have := HB.out
                    rw [List.getElem?_eq_getElem hj] at this
                    rw [Option.some.inj this]
                    exact HC.out⟩
               case measure => simp [intOf]; omega)
            | (go_ret
               exact ⟨by rw [isT_no k _ HB.out HC.out]; rfl, rfl⟩)
      · go_wp2
        go_ret
        obtain rfl : k = s.size := by omega
        have e1 := isT_all (fun j hj => hrel.out j hj (by rw [HZ.out] at hj; exact hj))
        rw [HZ.out] at e1
        refine ⟨?_, rfl⟩
        rw [e1, decide_eq_true (show s.size ≤ 12 by omega)]
        rfl
  · go_enter Try.func84, Try.ntmps84
    go_wp2
    go_ret
    refine ⟨?_, rfl⟩
    have : isT s.data.toList = false := by
      unfold isT
      rw [HZ.out, decide_eq_false (show ¬ s.size ≤ 12 by omega), Bool.and_false]
    rw [this]
    rfl
set_option maxHeartbeats 2000000 in
theorem implIsKey_any (k : K) (hs : k.text.size ≤ 281474976710656) (w : World) :
    Calls Try.prog 68 #[k.v] w fun e w' => e = .returned (.bool (isK k)) ∧ Below w.heap.size w w' := by
  obtain ⟨kd, n, s⟩ := k
  unfold K.v
  obtain ⟨b2, hb2⟩ : ∃ b, L1.inB n (-1000000000000) 1000000000000 = b := ⟨_, rfl⟩
  obtain ⟨b4, hb4⟩ : ∃ b, isT s.data.toList = b := ⟨_, rfl⟩
  have H2 := Lib.hid (fun w => isKeyNumber_any n w)
  have H4 := Lib.hid (fun w => isKeyText_any s hs w)
  rw [hb2] at H2
  rw [hb4] at H4
  obtain ⟨c0, hc0⟩ : ∃ b, (n == 0) = b := ⟨_, rfl⟩
  obtain ⟨ct, hct⟩ : ∃ b, (s.toList == []) = b := ⟨_, rfl⟩
  have HE := show isK ⟨kd, n, s⟩ = (L1.inB kd 1 3 && b2 && (kd != 2 || c0) && b4 && (kd != 1 || ct)) by unfold isK; rw [hb2, show K.t ⟨kd, n, s⟩ = s.data.toList from rfl, hb4, ← hct, ByteArray.toList_eq, ← hc0]
  have hx1 : ct = true → b4 = true := fun h => by
    rw [h, ByteArray.toList_eq, beq_iff_eq] at hct
    rw [← hb4, hct]
    rfl
  have hx2 : c0 = true → b2 = true := fun h => by
    rw [h, beq_iff_eq] at hc0
    rw [← hb2, hc0]
    rfl
  have HB := Lib.hid (fun o => below_alloc (Below.refl w.heap.size w) o (Nat.le_refl _))
  clear hb2 hb4
  rcases (show kd = 1 ∨ kd = 2 ∨ kd = 3 ∨ (kd ≠ 1 ∧ kd ≠ 2 ∧ kd ≠ 3) by omega) with rfl | rfl | rfl | ⟨hk1, hk2, hk3⟩
  · rw [show isK ⟨1, n, s⟩ = (b2 && ct) by rw [HE]; revert hx1; cases b2 <;> cases b4 <;> cases ct <;> simp [L1.inB]]
    clear HE hc0 hx1 hx2
    rcases (show b2 = false ∨ b2 = true by cases b2 <;> simp) with rfl | rfl
    all_goals
      go_enter Try.func68, Try.ntmps68
      go_wp2_with (go_at_call 83; with_reducible refine (H2.out _).mono ?_; rintro e w1 ⟨rfl, rfl⟩)
      go_ret
      exact ⟨rfl, HB.out _⟩
  · rw [show isK ⟨2, n, s⟩ = (c0 && b4) by rw [HE]; revert hx2; cases b2 <;> cases b4 <;> cases c0 <;> simp [L1.inB]]
    clear HE hct hx1 hx2
    rcases (show c0 = false ∨ c0 = true by cases c0 <;> simp) with rfl | rfl
    all_goals
      go_enter Try.func68, Try.ntmps68
      go_wp2_with (go_at_call 84; refine (H4.out _).mono ?_; rintro e w1 ⟨rfl, rfl⟩)
      go_ret
      exact ⟨rfl, HB.out _⟩
  · rw [show isK ⟨3, n, s⟩ = (b2 && b4) by rw [HE]; cases b2 <;> cases b4 <;> cases c0 <;> cases ct <;> simp [L1.inB]]
    clear HE hct hc0 hx1 hx2
    rcases (show b2 = false ∨ b2 = true by cases b2 <;> simp) with rfl | rfl
    all_goals
      go_enter Try.func68, Try.ntmps68
      go_wp2_with (first
        | (go_at_call 83; with_reducible refine (H2.out _).mono ?_; rintro e w1 ⟨rfl, rfl⟩)
        | (go_at_call 84; refine (H4.out _).mono ?_; rintro e w1 ⟨rfl, rfl⟩))
      go_ret
      exact ⟨rfl, HB.out _⟩
  · have : L1.inB kd 1 3 = false := L1.inB_false.2 (by omega)
    rw [HE, this]
    clear HE hct hc0 hx1 hx2 this
    replace hk1 : ¬ kd = 1 := hk1
    replace hk2 : ¬ kd = 2 := hk2
    replace hk3 : ¬ kd = 3 := hk3
    go_enter Try.func68, Try.ntmps68
    go_wp2_with fail
    go_ret
    exact ⟨by simp, HB.out _⟩
end Go.Proofs.Ytboefioalkjdaaa.L4

/-
  The contracts of encodeNumber and EncodeKey of the program. Conditions: a text of at most 2^40 bytes.
-/
namespace Go.Proofs.Ytboefioalkjdaaa.L4
open Go.Op (bytesLess)
open Go.ChangeShapes Go.WideShapes Go.ChangeAt Go.RowKit Mem Sl Ex L2
set_option maxRecDepth 100000
set_option linter.unusedVariables false

def numCells (m : Nat) : Array Value := #[.int .u8 ((m / 1099511627776 % 256 : Nat) : Int), .int .u8 ((m / 4294967296 % 256 : Nat) : Int), .int .u8 ((m / 16777216 % 256 : Nat) : Int), .int .u8 ((m / 65536 % 256 : Nat) : Int), .int .u8 ((m / 256 % 256 : Nat) : Int), .int .u8 ((m / 1 % 256 : Nat) : Int)]

set_option maxHeartbeats 2000000 in
theorem encodeNumber_any (n : Int) (m : Nat) (hm : (m : Int) = n + 1000000000000) (h1 : n ≤ 1000000000000) (w : World) :
    Calls Try.prog 76 #[.int .i64 n] w fun e w' => e = .returned (.agg (numCells m)) ∧ Below w.heap.size w w' := by
  obtain ⟨M, hM⟩ : ∃ M : Int, M = n + 1000000000000 := ⟨_, rfl⟩
  have hM0 : 0 ≤ M := by omega
  have hM1 : M ≤ 2000000000000 := by omega
  go_enter Try.func76, Try.ntmps76
  go_wp2
  refine wp_loop_rounds 7 ?_
  iterate 7 (rw [rounds_succ]; go_wp2)
  refine bodyPost_ret (v := .agg _) (by simp [results, Try.results76, go_sem]; rfl) rfl ?_
  refine ⟨?_, below_alloc (below_alloc (Below.refl _ _) _ (Nat.le_refl _)) _ (Nat.le_refl _)⟩
  have e0 : (n + 1000000000000) / 256 / 256 / 256 / 256 / 256 = ((m / 1099511627776 % 256 : Nat) : Int) := by omega
  have e1 : (n + 1000000000000) / 256 / 256 / 256 / 256 % 256 = ((m / 4294967296 % 256 : Nat) : Int) := by omega
  have e2 : (n + 1000000000000) / 256 / 256 / 256 % 256 = ((m / 16777216 % 256 : Nat) : Int) := by omega
  have e3 : (n + 1000000000000) / 256 / 256 % 256 = ((m / 65536 % 256 : Nat) : Int) := by omega
  have e4 : (n + 1000000000000) / 256 % 256 = ((m / 256 % 256 : Nat) : Int) := by omega
  have e5 : (n + 1000000000000) % 256 = ((m / 1 % 256 : Nat) : Int) := by omega
  rw [e0, e1, e2, e3, e4, e5]
  rfl

theorem numCells_form (m : Nat) : ∃ x0 x1 x2 x3 x4 x5 : Int, numCells m = #[.int .u8 x0, .int .u8 x1, .int .u8 x2, .int .u8 x3, .int .u8 x4, .int .u8 x5] ∧ toI (be 6 m) = [x0, x1, x2, x3, x4, x5] := by
  refine ⟨_, _, _, _, _, _, rfl, ?_⟩
  simp only [be, toI, List.map_cons, List.map_nil, UInt8.toNat_ofNat', show (256 ^ 5 : Nat) = 1099511627776 from rfl, show (256 ^ 4 : Nat) = 4294967296 from rfl, show (256 ^ 3 : Nat) = 16777216 from rfl, show (256 ^ 2 : Nat) = 65536 from rfl, show (256 ^ 1 : Nat) = 256 from rfl, show (256 ^ 0 : Nat) = 1 from rfl, Nat.mod_mod]
theorem reads_row {w : World} {g : Nat} {t : TypeId} {k : IntKind} {l : List Int} (h : Row w g t (ints k l).toArray) : Reads w w.heap.size (some ⟨g, 0, none⟩) (ints k l) := fun j hj => by
  refine ⟨_, rfl, by simpa [add_block] using h.inside, ?_⟩
  rw [Addr.add_lit, h.cell]
  simp [List.getElem?_eq_getElem hj]

section
variable {P : Program} (w : World)
theorem wpList_append_str {ops : Array Oper} {rest : List Oper} {o : Oper} {act : Act} {Q : Exit → Act → World → Prop} (hgd : o.guard = none) (sl x : Operand) (t u : TypeId)
    (ho : o.op = .call { callee := .builtin .append, args := #[sl, x], argTypes := #[t, u] })
    (B : Nat) (e : TypeId) (i : TypeInfo) (ht : P.underlying t = some (.slice e)) (hu : P.underlying u = some .string) (hi : P.info? e = some i) (hz : i.zero = some (.int .u8 0))
    (hsize : i.size = 1) (hby : i.bytes = 1) (a : Option Addr) (n c : Nat) (l : List Int) (hs : act.eval sl = .slice a n c) (hn : n = l.length) (hown : Own w B e .u8 a c l) (s : ByteArray) (hx : act.eval x = .string s)
    (h63 : l.length + s.size ≤ maxLen) (hbytes : l.length + s.size ≤ 140737488355328) (hbase : B ≤ w.heap.size)
    (h : ∀ a1 c1 w', Own w' B e .u8 a1 c1 (l ++ L3.strB s) → w.grownBy w' (Value.slice a l.length c).ownBlock → wpList P ops Q rest (act.put o.dst (.slice a1 (l.length + s.size) c1)) w') : wpList P ops Q (o :: rest) act w := by
  subst hn
  have hsc : ints .u8 l ++ Lib.strCells s = ints .u8 (l ++ L3.strB s) := by
    rw [ints_append]
    congr 1
    unfold Lib.strCells ints L3.strB
    rw [List.map_map]
    rfl
  refine Lib.wpList_append_own_string w hgd sl x t u ho B e i ht hu hi hz hsize hby _ l.length (ints .u8 l) hs hown s hx h63 hbytes hbase ?_
  intro v' w' h2 h3 _
  rw [hsc] at h2
  rcases h2.2 with ⟨rfl, hn⟩ | ⟨g, cap, cur, rfl, _⟩
  · have h0 : Own w' B e .u8 none 0 (l ++ L3.strB s) := by
      unfold Own
      rw [List.length_append, L3.strB_length, hn]
      rw [hn] at h2
      exact h2
    have := h none 0 w' h0 h3
    rw [hn] at this
    exact this
  · refine h _ cap w' ?_ h3
    unfold Own
    rw [List.length_append, L3.strB_length]
    exact h2
end

set_option maxHeartbeats 2000000 in
theorem implEncodeKey_any (k : K) (hs : k.text.size ≤ 1099511627776) (w : World) :
    Calls Try.prog 57 #[k.v] w (Gave w w.heap.size 5 .u8 (toI (encU k))) := by
  obtain ⟨i0, hi, hz0, hz1, hz2⟩ := infoOf _ _ _ _ info8
  obtain ⟨w2, hw2⟩ : ∃ w2, w2 = w.alloc (.cells k.cells 49) := ⟨_, rfl⟩
  have ba : Box w2 w.heap.size 49 k := by rw [hw2]; exact Box.made w _ k
  have hbl : Below w.heap.size w w2 := by rw [hw2]; exact below_alloc (Below.refl _ _) _ (Nat.le_refl _)
  have H1 := Lib.hid (fun w => implIsKey_any k (by omega) w)
  obtain ⟨ia, hia⟩ : ∃ x, isK k = x := ⟨_, rfl⟩
  rw [hia] at H1
  obtain ⟨kd, n, s⟩ := k
  simp only [K.v, K.cells] at H1 hw2 hs ⊢
  go_enter Try.func57, Try.ntmps57
  go_wp2_with fail
  go_at_call 68
  rw [← hw2]
  refine (H1.out w2).mono ?_
  rintro e w3 ⟨rfl, h3⟩
  have BA := Lib.hid (And.intro (ba.below h3) (hbl.trans (h3.mono hbl.size)))
  have hsz : w.heap.size + 1 ≤ w3.heap.size := by have := h3.size; rw [hw2] at this; simpa using this
  clear hw2 ba hbl h3 H1
  cases ia with
  | false =>
    have HE := Lib.hid (show toI (encU ⟨kd, n, s⟩) = [] by unfold encU; rw [hia]; rfl)
    go_wp2_with fail
    go_ret
    rw [HE.out]
    exact Gave.mk rfl (Own.empty w3 5 .u8 BA.out.2.size) (below_alloc BA.out.2 _ (Nat.le_refl _))
  | true =>
    have g := isK_iff.1 hia
    have k0 : 1 ≤ kd := g.k0
    have k1 : kd ≤ 3 := g.k1
    have n0 : -1000000000000 ≤ n := g.n0
    have n1 : n ≤ 1000000000000 := g.n1
    obtain ⟨b0, b1, b2⟩ := BA.out.1.facts
    obtain ⟨d0, d1, d2⟩ := (BA.out.1.more (.cells #[.int .u8 kd] 5)).facts
    have H3 := Lib.hid (And.intro (L3.own_lit w3 5 .u8 [kd] hsz (by simp [maxLen])) (below_alloc (Below.refl (w.heap.size + 1) w3) (.cells #[.int .u8 kd] 5) hsz))
    obtain ⟨m, hm⟩ : ∃ m : Nat, (m : Int) = n + 1000000000000 := ⟨(n + 1000000000000).toNat, by omega⟩
    have HM := Lib.hid hm
    clear hm
    by_cases hk : kd = 2
    · subst hk
      have HE := Lib.hid (show toI (encU ⟨2, n, s⟩) = [2] ++ L3.strB s by rw [encU_good hia]; rfl)
      go_wp2_with (at_builtin; refine wpList_append_str _ rfl _ _ 84 9 rfl (w.heap.size + 1) 5 i0 Try.underlying84 Try.underlying9 hi hz0 hz1 hz2 _ _ _ ([2]) rfl rfl H3.out.1 s rfl (by unfold maxLen; simp; omega) (by simp; omega) (Nat.le_trans hsz (by simp)) ?_; intro a9 c9 w9 ho9 hg9)
      go_ret
      rw [HE.out]
      refine Gave.mk (by simp [L3.strB_length]; omega) (ho9.base (Nat.le_succ _)) ?_
      have q2 := BA.out.2.trans (H3.out.2.mono (Nat.le_succ _))
      exact q2.trans ((below_own H3.out.1 hg9 (Nat.le_trans hsz H3.out.2.size)).mono (Nat.le_succ _))
    · have HE := Lib.hid (show toI (encU ⟨kd, n, s⟩) = (kd :: toI (be 6 m)) ++ L3.strB s by
        rw [encU_good hia]
        have e1 : num6 ⟨kd, n, s⟩ = be 6 m := by unfold num6; rw [if_neg hk, ← HM.out]; rfl
        rw [e1]
        simp only [toI, List.map_cons, List.map_append, UInt8.toNat_ofNat', List.cons_append]
        congr 1
        show (((kd.toNat % 2 ^ 8 : Nat)) : Int) = kd
        omega)
      obtain ⟨w4, hw4⟩ : ∃ x, x = w3.alloc (.cells #[.int .u8 kd] 5) := ⟨_, rfl⟩
      have o4 : Own w4 (w.heap.size + 1) 5 .u8 (some ⟨w3.heap.size, 0, none⟩) 1 [kd] := by rw [hw4]; exact H3.out.1
      have b4 : Below (w.heap.size + 1) w3 w4 := by rw [hw4]; exact H3.out.2
      have bx4 : Box w4 w.heap.size 49 ⟨kd, n, s⟩ := by rw [hw4]; exact BA.out.1.more _
      have HN := Lib.hid (encodeNumber_any n m HM.out n1)
      go_wp2_with fail
      go_at_call 76
      rw [← hw4]
      clear hw4 b0 b1 b2 d0 d1 d2
      refine (HN.out w4).mono ?_
      rintro e w5 ⟨rfl, h5⟩
      obtain ⟨x0, x1, x2, x3, x4, x5, hnc, hnl⟩ := numCells_form m
      rw [hnc]
      have hsz4 : w.heap.size + 1 ≤ w4.heap.size := Nat.le_trans hsz b4.size
      have q5 := b4.trans (h5.mono hsz4)
      have R6 : Row (w5.alloc (.cells #[.int .u8 x0, .int .u8 x1, .int .u8 x2, .int .u8 x3, .int .u8 x4, .int .u8 x5] 101)) w5.heap.size 101 (ints .u8 (toI (be 6 m))).toArray := by
        rw [hnl]
        exact Row.made w5 _ _
      have r6 := reads_row R6
      have bx6 := (bx4.below h5).more (.cells #[.int .u8 x0, .int .u8 x1, .int .u8 x2, .int .u8 x3, .int .u8 x4, .int .u8 x5] 101)
      have o6 := own_alloc (o4.below h5) (.cells #[.int .u8 x0, .int .u8 x1, .int .u8 x2, .int .u8 x3, .int .u8 x4, .int .u8 x5] 101)
      have hsz5 : w.heap.size + 1 ≤ w5.heap.size := Nat.le_trans hsz4 h5.size
      have q6 := below_alloc q5 (.cells #[.int .u8 x0, .int .u8 x1, .int .u8 x2, .int .u8 x3, .int .u8 x4, .int .u8 x5] 101) hsz
      have hsz6 : w.heap.size + 1 ≤ (w5.alloc (.cells #[.int .u8 x0, .int .u8 x1, .int .u8 x2, .int .u8 x3, .int .u8 x4, .int .u8 x5] 101)).heap.size := Nat.le_trans hsz5 (by simp)
      have S := Lib.hid (And.intro r6 (And.intro bx6 (And.intro o6 (And.intro hsz6 q6))))
      clear R6 r6 bx6 o6 hsz6 q6 q5 h5 o4 b4 bx4 hnc hnl H3 hsz4 hsz5
      have hszw := hsz
      go_wp2_with (first
        | (at_builtin; refine wpList_append_src _ rfl _ _ 84 rfl (w.heap.size + 1) 5 i0 (.int .u8 0) 1 Try.underlying84 hi hz0 hz1 hz2 rfl .u8 _ _ _ ([kd]) rfl rfl S.out.2.2.1 _ _ _ _ (toI (be 6 m)) rfl (by simp) S.out.1 (by simp [maxLen]) (by simp) S.out.2.2.2.1 ?_; intro a7 c7 w7 ho7 hg7; have q7 := S.out.2.2.2.2.trans (below_own S.out.2.2.1 hg7 S.out.2.2.2.1); have bx7 := Row.below S.out.2.1 (below_own S.out.2.2.1 hg7 S.out.2.2.2.1) (Nat.lt_succ_self _); obtain ⟨b0, b1, b2⟩ := Box.facts bx7)
        | (at_builtin; refine wpList_append_str _ rfl _ _ 84 9 rfl (w.heap.size + 1) 5 i0 Try.underlying84 Try.underlying9 hi hz0 hz1 hz2 _ 7 _ (kd :: toI (be 6 m)) rfl (by simp) ho7 s rfl (by unfold maxLen; simp; omega) (by simp; omega) (Nat.le_trans hszw q7.size) ?_; intro a9 c9 w9 ho9 hg9))
      go_ret
      rw [HE.out]
      refine Gave.mk (by simp [L3.strB_length]; omega) (ho9.base (Nat.le_succ _)) ?_
      have q2 := BA.out.2.trans (q7.mono (Nat.le_succ _))
      exact q2.trans ((below_own ho7 hg9 (Nat.le_trans hszw q7.size)).mono (Nat.le_succ _))
end Go.Proofs.Ytboefioalkjdaaa.L4

/-
  The contracts of chapter 5's functions of the program that only read: IsName, GetField, copyRecord. Conditions: a name of at most 2^48 bytes, a record of at most 2^40 fields.
-/
namespace Go.Proofs.Ytboefioalkjdaaa.L5
set_option maxRecDepth 100000
open Go.Op (bytesLess)
open Go.ChangeShapes Go.WideShapes Go.ChangeAt Go.RowKit Mem Sl Ex L2 Sv
set_option linter.unusedVariables false

theorem low_isLet (c : UInt8) : L4.isLet c = low c := rfl
theorem isName_any (s : ByteArray) (hs : s.size ≤ 281474976710656) (w : World) :
    Calls Try.prog 26 #[.string s] w fun e w' => e = .returned (.bool (isN s.data.toList)) ∧ w = w' := by
  have hsz : s.data.toList.length = s.size := by rw [Array.length_toList]; rfl
  have HZ := Lib.hid hsz
  clear hsz
  have HI := Lib.hid (fun w => L1.inRange_any (s.size : Int) 1 8 w)
  have HS := Lib.hid (show L1.inB (s.size : Int) 1 8 = false → isN s.data.toList = false from fun h => by
    unfold isN
    rw [Bool.and_eq_false_iff]
    right
    rw [HZ.out, ← h]
    unfold L1.inB
    congr 1 <;> (rw [decide_eq_decide]; omega))
  obtain ⟨bi, hbi⟩ : ∃ b, L1.inB (s.size : Int) 1 8 = b := ⟨_, rfl⟩
  rw [hbi] at HI HS
  have HB0 := Lib.hid hbi
  clear hbi
  cases bi with
  | false =>
    replace HS := Lib.hid (HS.out rfl)
    go_enter Try.func26, Try.ntmps26
    go_wp2_with (go_at_call 27; refine (HI.out _).mono ?_; rintro e w1 ⟨rfl, rfl⟩)
    go_ret
    exact ⟨by rw [HS.out]; rfl, rfl⟩
  | true =>
    go_enter Try.func26, Try.ntmps26
    go_wp2_with (go_at_call 27; refine (HI.out _).mono ?_; rintro e w1 ⟨rfl, rfl⟩)
    go_loop [10] (fun i => ∃ k : Nat, k ≤ s.size ∧ i = .int .i64 k ∧ Hid (∀ j (hj : j < s.data.toList.length), j < k → low s.data.toList[j] = true)) (fun i => s.size - (intOf i).toNat)
    case atStart => exact ⟨0, Nat.zero_le _, rfl, fun j hj h => by omega⟩
    case round =>
      obtain ⟨k, hk, rfl, hrel⟩ := hrel
      by_cases hlt : k < s.size
      · have hb : s.data.toList[k]? = some s[k] := by
          rw [List.getElem?_eq_getElem (by rw [HZ.out]; exact hlt)]
          rfl
        have HB := Lib.hid hb
        clear hb
        have H1 := Lib.hid (fun w => L4.isLetter_any s[k] w)
        obtain ⟨bl, hbl⟩ : ∃ b, L4.isLet s[k] = b := ⟨_, rfl⟩
        rw [hbl] at H1
        rw [low_isLet] at hbl
        have HL := Lib.hid hbl
        clear hbl
        cases bl with
        | true =>
          go_wp2_with (go_at_call 49; refine (H1.out _).mono ?_; rintro e w1 ⟨rfl, rfl⟩)
          go_round
          case rel => exact ⟨k + 1, by omega, by go_num, fun j hj h => by
              by_cases e : j < k
              · exact hrel.out j hj e
              · obtain rfl : j = k := by omega
                have := HB.out
                rw [List.getElem?_eq_getElem hj] at this
                rw [Option.some.inj this]
                exact HL.out⟩
          case measure => simp [intOf]; omega
        | false =>
          go_wp2_with (go_at_call 49; refine (H1.out _).mono ?_; rintro e w1 ⟨rfl, rfl⟩)
          go_ret
          exact ⟨by rw [isN_no k _ HB.out HL.out]; rfl, rfl⟩
      · go_wp2_with fail
        go_ret
        obtain rfl : k = s.size := by omega
        have e1 := isN_all (fun j hj => hrel.out j hj (by rw [HZ.out] at hj; exact hj))
        rw [HZ.out, HB0.out] at e1
        exact ⟨by rw [e1]; rfl, rfl⟩

end Go.Proofs.Ytboefioalkjdaaa.L5

/-
  The contract of chapter 5's IsRecord of the program. Conditions: names of at most 2^48 bytes, a record of at most 2^40 fields. (The region that draws its order is written by my program gen_l5ib.py.)
-/
namespace Go.Proofs.Ytboefioalkjdaaa.L5
set_option maxRecDepth 100000
open Go.Op (bytesLess)
open L4 (boxR push_box box_at)
open Go.ChangeShapes Go.WideShapes Go.ChangeAt Go.RowKit Mem Sl Ex L2 Sv
set_option linter.unusedVariables false
set_option linter.unusedSimpArgs false

theorem isR_long {l : List F} (h : ¬ l.length ≤ 6) : isR l = false := by
  unfold isR
  rw [Bool.and_eq_false_iff]
  exact .inr (decide_eq_false h)
theorem Row.two {w : World} {g : Nat} {t : TypeId} {x y : Value} (h : Row w g t #[x, y]) : w.cell? ⟨g, 0, none⟩ = some x ∧ w.cell? ⟨g, 1, none⟩ = some y := ⟨by rw [h.cell]; rfl, by rw [h.cell]; rfl⟩
set_option maxHeartbeats 4000000 in
theorem isRecord_any (a : Option Addr) (c : Nat) (l : List F) (hl : l.length ≤ 1099511627776) (hsm : Small l) (w : World) (hr : Reads w w.heap.size a (cellsF l)) :
    Calls Try.prog 69 #[.agg #[.slice a l.length c]] w fun e w' => e = .returned (.bool (isR l)) ∧ Below w.heap.size w w' := by
  have HR := Lib.hid (fun w' (h : Below w.heap.size w w') => hr.below h)
  obtain ⟨n, hn⟩ : ∃ n, n = l.length := ⟨_, rfl⟩
  rw [← hn]
  rw [← hn] at hl
  have HN := Lib.hid hn
  have HS := Lib.hid hsm
  clear hn hr hsm
  have hl' : (n : Int) ≤ 1099511627776 := by omega
  have S1 := Lib.hid (push_box (Sep.start w) 70 #[.slice a n c] w.heap.size rfl)
  obtain ⟨W1, hW1⟩ : ∃ u, u = w.alloc (.cells #[.slice a n c] 70) := ⟨_, rfl⟩
  rw [← hW1] at S1
  go_enter Try.func69, Try.ntmps69
  go_upto_region 1 with fail
  rw [← hW1]
  clear hW1
  obtain ⟨r0, r1⟩ := Row.one (box_at S1.out 0 rfl)
  by_cases h6 : (n : Int) ≤ 6
  rotate_left
  · have HX := Lib.hid (isR_long (l := l) (by have := HN.out; omega))
    have h6' : (6 : Int) < (n : Int) := by omega
    go_wp2_with fail
    go_ret
    exact ⟨by rw [HX.out]; rfl, S1.out.old⟩
  go_wp2_with fail
  go_loopw [12] (fun i wr => ∃ k : Nat, k ≤ n ∧ i = .int .i64 k ∧ Hid (okTo l k ∧ Sep w wr [boxR w.heap.size 70 #[.slice a n c]])) (fun i _ => n - (intOf i).toNat)
  case atStart => exact ⟨0, Nat.zero_le _, rfl, fun j hj h => by omega, S1.out⟩
  case round =>
    obtain ⟨k, hk, rfl, hrel⟩ := hrel
    clear r0 r1
    by_cases hlt : (k : Int) < (n : Int)
    · have hkl : k < l.length := by have := HN.out; omega
      have HRr := Lib.hid (HR.out _ hrel.out.2.old)
      obtain ⟨ad, rfl, had, h1, h2⟩ := readsF HRr.out k hkl
      have HNm := Lib.hid (fun w => isName_any l[k].name (HS.out _ (List.getElem_mem hkl)) w)
      have HI := Lib.hid (fun w => L1.inRange_any l[k].n 0 1000000000 w)
      obtain ⟨bn, hbn⟩ : ∃ b, isN l[k].name.data.toList = b := ⟨_, rfl⟩
      obtain ⟨bi, hbi⟩ : ∃ b, L1.inB l[k].n 0 1000000000 = b := ⟨_, rfl⟩
      have HO := Lib.hid (show okF l[k] = (bn && bi) by unfold okF; rw [hbi]; unfold F.t; rw [hbn])
      rw [hbn] at HNm
      rw [hbi] at HI
      obtain ⟨t, ht⟩ : ∃ t, t = l[k].name := ⟨_, rfl⟩
      obtain ⟨m, hm⟩ : ∃ m, m = l[k].n := ⟨_, rfl⟩
      rw [← ht] at h1 HNm
      rw [← hm] at h2 HI
      clear hbn hbi hm
      have HT := Lib.hid ht
      clear ht
      have S2 := Lib.hid (push_box hrel.out.2 92 #[.string t, .int .i64 m] wr.heap.size rfl)
      obtain ⟨W2, hW2⟩ : ∃ u, u = wr.alloc (.cells #[.string t, .int .i64 m] 92) := ⟨_, rfl⟩
      rw [← hW2] at S2
      have S3 := Lib.hid (S2.out.drews 1)
      have S4 := Lib.hid (sep_sub S3.out (ts := [boxR w.heap.size 70 #[.slice (some ad) n c]]) id (fun i r h => by match i, h with | 0, h => exact h) (fun i j _ _ h => h))
      rcases Nat.eq_zero_or_pos k with rfl | hk0
      · rw [Nat.zero_mul, show ad.add 0 = ad by simp [Addr.add]] at h1 h2
        go_upto_region 6 with fail
        rw [← hW2]
        clear hW2
        obtain ⟨r0, r1⟩ := Row.one (box_at S2.out 0 rfl)
        obtain ⟨q0, q1⟩ := Row.two (box_at S2.out 1 rfl)
        by_cases hb : (bn && bi) = true
        · simp only [Bool.and_eq_true] at hb
          obtain ⟨rfl, rfl⟩ := hb
          have HOt := Lib.hid (show okF l[0] = true from HO.out)
          clear HO
          go_upto_region 8 with (first | (go_at_call 26; refine (HNm.out _).mono ?_; rintro e w1 ⟨rfl, rfl⟩) | (go_at_call 27; refine (HI.out _).mono ?_; rintro e w1 ⟨rfl, rfl⟩))
          refine wp_region_held_drew (S := (fun w' => w'.cell? ⟨w.heap.size, 0, none⟩ = some (.slice (some ad) n c) ∧ w'.cell? ⟨wr.heap.size, 0, none⟩ = some (.string t))) (by kernel_rfl) ⟨r0, q0⟩ (fun hS => ?_)
          refine tk 0 rfl ?_
          try simp only [zp0, zp1, zp2, zp3, zp4]
          refine tk 1 rfl ?_
          try simp only [zp0, zp1, zp2, zp3, zp4]
          refine tk 2 rfl ?_
          try simp only [zp0, zp1, zp2, zp3, zp4]
          refine sk 3 rfl ?_
          try simp only [zp0, zp1, zp2, zp3, zp4]
          refine sk 4 rfl ?_
          try simp only [zp0, zp1, zp2, zp3, zp4]
          refine sk 5 rfl ?_
          try simp only [zp0, zp1, zp2, zp3, zp4]
          refine sk 6 rfl ?_
          try simp only [zp0, zp1, zp2, zp3, zp4]
          refine sk 7 rfl ?_
          try simp only [zp0, zp1, zp2, zp3, zp4]
          refine sk 8 rfl ?_
          try simp only [zp0, zp1, zp2, zp3, zp4]
          refine sk 9 rfl ?_
          try simp only [zp0, zp1, zp2, zp3, zp4]
          refine sk 10 rfl ?_
          try simp only [zp0, zp1, zp2, zp3, zp4]
          refine sk 11 rfl ?_
          try simp only [zp0, zp1, zp2, zp3, zp4]
          refine sk 12 rfl ?_
          try simp only [zp0, zp1, zp2, zp3, zp4]
          refine tk 13 rfl ?_
          try simp only [zp0, zp1, zp2, zp3, zp4]
          refine wpAnyH_done (by kernel_rfl) ?_ _
          go_wp2_with fail
          go_roundw
          case rel => exact ⟨1, by omega, by go_num, fun j hj h => by
              obtain rfl : j = 0 := by omega
              exact ⟨HOt.out, fun h0 => by omega⟩, S4.out⟩
          case measure => simp [intOf]; omega
        · have HX := Lib.hid (isR_no 0 hkl (.inl (by rw [HO.out]; simpa using hb)))
          rcases (show bn = false ∨ (bn = true ∧ bi = false) by cases bn <;> simp_all) with rfl | ⟨rfl, rfl⟩
          all_goals
            clear hb HO
            go_wp2_with (first | (go_at_call 26; refine (HNm.out _).mono ?_; rintro e w1 ⟨rfl, rfl⟩) | (go_at_call 27; refine (HI.out _).mono ?_; rintro e w1 ⟨rfl, rfl⟩))
            go_ret
            exact ⟨by rw [HX.out]; rfl, S2.out.old⟩
      · obtain ⟨j, rfl⟩ : ∃ j, k = j + 1 := ⟨k - 1, by omega⟩
        go_upto_region 6 with fail
        rw [← hW2]
        clear hW2
        obtain ⟨r0, r1⟩ := Row.one (box_at S2.out 0 rfl)
        obtain ⟨q0, q1⟩ := Row.two (box_at S2.out 1 rfl)
        by_cases hb : (bn && bi) = true
        · simp only [Bool.and_eq_true] at hb
          obtain ⟨rfl, rfl⟩ := hb
          have HOt := Lib.hid (show okF l[j + 1] = true from HO.out)
          clear HO
          obtain ⟨ad', e', -, h3, -⟩ := readsF (HR.out _ S2.out.old) j (by omega)
          injection e' with e'
          subst e'
          obtain ⟨p, hp⟩ : ∃ p, p = (l[j]'(by omega)).name := ⟨_, rfl⟩
          rw [← hp] at h3
          have hwj : IntKind.i64.wrap (j : Int) = (j : Int) := IntWalk.i64_in _ ⟨by omega, by omega⟩
          have k1 : (0 : Int) ≤ (j : Int) + 1 := by omega
          have k2 : (j : Int) + 1 < (n : Int) := by omega
          have k3 : (0 : Int) ≤ (j : Int) := by omega
          have k4 : (j : Int) < (n : Int) := by omega
          have hge := string_geq
          obtain ⟨bo, hbo⟩ : ∃ b, bytesLess p.toList t.toList = b := ⟨_, rfl⟩
          have HB := Lib.hid (show bytesLess (l[j]'(by omega)).t l[j + 1].t = bo by unfold F.t; rw [← hp, ← HT.out, ← hbo, ByteArray.toList_eq, ByteArray.toList_eq])
          clear hp
          cases bo with
          | false =>
            have HX := Lib.hid (isR_no (j + 1) hkl (.inr ⟨Nat.succ_pos j, HB.out⟩))
            go_upto_region 8 with (first | (go_at_call 26; refine (HNm.out _).mono ?_; rintro e w1 ⟨rfl, rfl⟩) | (go_at_call 27; refine (HI.out _).mono ?_; rintro e w1 ⟨rfl, rfl⟩))
            refine wp_region_held_drew (S := (fun w' => w'.cell? ⟨w.heap.size, 0, none⟩ = some (.slice (some ad) n c) ∧ w'.cell? ⟨wr.heap.size, 0, none⟩ = some (.string t) ∧ w'.cell? (ad.add (j * 2)) = some (.string p))) (by kernel_rfl) ⟨r0, q0, h3⟩ (fun hS => ?_)
            refine tk 0 rfl ?_
            try simp only [zp0, zp1, zp2, zp3, zp4]
            refine tk 1 rfl ?_
            try simp only [zp0, zp1, zp2, zp3, zp4]
            refine tk 2 rfl ?_
            try simp only [zp0, zp1, zp2, zp3, zp4]
            refine tk 3 rfl ?_
            try simp only [zp0, zp1, zp2, zp3, zp4]
            refine tk 4 rfl ?_
            try simp only [zp0, zp1, zp2, zp3, zp4]
            refine tk 5 rfl ?_
            try simp only [zp0, zp1, zp2, zp3, zp4]
            refine tk 6 rfl ?_
            try simp only [zp0, zp1, zp2, zp3, zp4]
            refine tk 7 rfl ?_
            try simp only [zp0, zp1, zp2, zp3, zp4]
            refine tk 8 rfl ?_
            try simp only [zp0, zp1, zp2, zp3, zp4]
            refine tk 9 rfl ?_
            try simp only [zp0, zp1, zp2, zp3, zp4]
            refine tk 10 rfl ?_
            try simp only [zp0, zp1, zp2, zp3, zp4]
            refine tk 11 rfl ?_
            try simp only [zp0, zp1, zp2, zp3, zp4]
            refine tk 12 rfl ?_
            try simp only [zp0, zp1, zp2, zp3, zp4]
            refine tk 13 rfl ?_
            try simp only [zp0, zp1, zp2, zp3, zp4]
            refine wpAnyH_done (by kernel_rfl) ?_ _
            go_wp2_with fail
            go_ret
            exact ⟨by rw [HX.out]; rfl, S4.out.old⟩
          | true =>
            go_upto_region 8 with (first | (go_at_call 26; refine (HNm.out _).mono ?_; rintro e w1 ⟨rfl, rfl⟩) | (go_at_call 27; refine (HI.out _).mono ?_; rintro e w1 ⟨rfl, rfl⟩))
            refine wp_region_held_drew (S := (fun w' => w'.cell? ⟨w.heap.size, 0, none⟩ = some (.slice (some ad) n c) ∧ w'.cell? ⟨wr.heap.size, 0, none⟩ = some (.string t) ∧ w'.cell? (ad.add (j * 2)) = some (.string p))) (by kernel_rfl) ⟨r0, q0, h3⟩ (fun hS => ?_)
            refine tk 0 rfl ?_
            try simp only [zp0, zp1, zp2, zp3, zp4]
            refine tk 1 rfl ?_
            try simp only [zp0, zp1, zp2, zp3, zp4]
            refine tk 2 rfl ?_
            try simp only [zp0, zp1, zp2, zp3, zp4]
            refine tk 3 rfl ?_
            try simp only [zp0, zp1, zp2, zp3, zp4]
            refine tk 4 rfl ?_
            try simp only [zp0, zp1, zp2, zp3, zp4]
            refine tk 5 rfl ?_
            try simp only [zp0, zp1, zp2, zp3, zp4]
            refine tk 6 rfl ?_
            try simp only [zp0, zp1, zp2, zp3, zp4]
            refine tk 7 rfl ?_
            try simp only [zp0, zp1, zp2, zp3, zp4]
            refine tk 8 rfl ?_
            try simp only [zp0, zp1, zp2, zp3, zp4]
            refine tk 9 rfl ?_
            try simp only [zp0, zp1, zp2, zp3, zp4]
            refine tk 10 rfl ?_
            try simp only [zp0, zp1, zp2, zp3, zp4]
            refine tk 11 rfl ?_
            try simp only [zp0, zp1, zp2, zp3, zp4]
            refine tk 12 rfl ?_
            try simp only [zp0, zp1, zp2, zp3, zp4]
            refine tk 13 rfl ?_
            try simp only [zp0, zp1, zp2, zp3, zp4]
            refine wpAnyH_done (by kernel_rfl) ?_ _
            go_wp2_with fail
            go_roundw
            case rel => exact ⟨j + 1 + 1, by omega, by go_num, fun q hq h => by
              by_cases e : q < j + 1
              · exact hrel.out.1 q hq e
              · obtain rfl : q = j + 1 := by omega
                exact ⟨HOt.out, fun _ => HB.out⟩, S4.out⟩
            case measure => simp [intOf]; omega
        · have HX := Lib.hid (isR_no (j + 1) hkl (.inl (by rw [HO.out]; simpa using hb)))
          rcases (show bn = false ∨ (bn = true ∧ bi = false) by cases bn <;> simp_all) with rfl | ⟨rfl, rfl⟩
          all_goals
            clear hb HO
            go_wp2_with (first | (go_at_call 26; refine (HNm.out _).mono ?_; rintro e w1 ⟨rfl, rfl⟩) | (go_at_call 27; refine (HI.out _).mono ?_; rintro e w1 ⟨rfl, rfl⟩))
            go_ret
            exact ⟨by rw [HX.out]; rfl, S2.out.old⟩
    · go_wp2_with fail
      go_ret
      exact ⟨by rw [isR_iff.2 ⟨fun j hj _ => hrel.out.1 j hj (by have := HN.out; omega), by have := HN.out; omega⟩]; rfl, hrel.out.2.old⟩
end Go.Proofs.Ytboefioalkjdaaa.L5

/-
  The contract of chapter 5's EncodeRecord of the program. Conditions: names of at most 2^48 bytes, a record of at most 2^40 fields. (The region that draws its order is written by my program gen_l5if.py.)
-/
namespace Go.Proofs.Ytboefioalkjdaaa.L5
set_option maxRecDepth 100000
open L4 (boxR push_box box_at)
open Go.ChangeShapes Go.WideShapes Go.ChangeAt Go.RowKit Mem Sl Ex L2 Sv
set_option linter.unusedVariables false
set_option linter.unusedSimpArgs false

theorem own_at0 {W w : World} {rs : List Res} {e : TypeId} {k : IntKind} {a : Option Addr} {c : Nat} {l : List Int} (h : Sep W w rs) (i : Nat) (hi : rs[i]? = some (Sl.own e k a c l)) : Own w 0 e k a c l := h.own i hi
theorem sep_ends {W w : World} {r0 r1 r2 r3 r4 : Res} (h : Sep W w [r0, r1, r2, r3, r4]) : Sep W w [r0, r4] :=
  sep_sub h (fun i => i * 4) (fun i r hr => by
    match i, hr with
    | 0, hr => exact hr
    | 1, hr => exact hr
    | i + 2, hr => simp at hr) (fun i j _ _ e => by omega)
set_option maxHeartbeats 4000000 in
theorem encodeRecord_any (a : Option Addr) (c : Nat) (l : List F) (hl : l.length ≤ 1099511627776) (hsm : Small l) (w : World) (hr : Reads w w.heap.size a (cellsF l)) :
    Calls Try.prog 58 #[.agg #[.slice a l.length c]] w (Gave w w.heap.size 5 .u8 (encR l)) := by
  have HR := Lib.hid (fun w' (h : Below w.heap.size w w') => hr.below h)
  have HS := Lib.hid (fun w' (h : Below w.heap.size w w') => isRecord_any a c l hl hsm w' ((hr.below h).more h.size))
  obtain ⟨n, hn⟩ : ∃ n, n = l.length := ⟨_, rfl⟩
  rw [← hn] at hl HS ⊢
  have HN := Lib.hid hn
  clear hn hr hsm
  have hl' : (n : Int) ≤ 1099511627776 := by omega
  obtain ⟨br, hbr⟩ : ∃ b, isR l = b := ⟨_, rfl⟩
  rw [hbr] at HS
  have HBr := Lib.hid hbr
  clear hbr
  have S1 := Lib.hid (push_box (Sep.start w) 70 #[.slice a n c] w.heap.size rfl)
  obtain ⟨W1, hW1⟩ : ∃ u, u = w.alloc (.cells #[.slice a n c] 70) := ⟨_, rfl⟩
  rw [← hW1] at S1
  go_enter Try.func58, Try.ntmps58
  go_upto_region 1 with fail
  rw [← hW1]
  clear hW1
  obtain ⟨r0, r1⟩ := Row.one (box_at S1.out 0 rfl)
  go_wp2_with fail
  go_at_call 69
  refine (HS.out _ S1.out.old).mono ?_
  rintro e w3 ⟨rfl, h3⟩
  have S2 := Lib.hid (S1.out.keep h3)
  clear h3 HS r0 r1 S1
  obtain ⟨r0, r1⟩ := Row.one (box_at S2.out 0 rfl)
  cases br with
  | false =>
    have HE := Lib.hid (show encR l = [] by unfold encR; rw [HBr.out]; rfl)
    go_wp2_with fail
    go_ret
    rw [HE.out]
    exact Gave.mk rfl (Own.empty w3 5 .u8 S2.out.old.size) (below_alloc S2.out.old _ (Nat.le_refl _))
  | true =>
    have HE := Lib.hid (show encR l = enc n ++ encB l by unfold encR; rw [HBr.out, HN.out]; rfl)
    have HI := Lib.hid (isR_iff.1 HBr.out).2
    have HNM := Lib.hid (isR_names HBr.out)
    have HLN := Lib.hid (show ∀ k, (enc n ++ encB (l.take k)).length ≤ 126 from fun k => by
      have h1 := enc_len n
      have h2 := encB_len (l.take k) (fun f hf => HNM.out f (List.mem_of_mem_take hf))
      have h3 : (l.take k).length ≤ l.length := by rw [List.length_take]; exact Nat.min_le_right _ _
      have h4 := HI.out
      rw [List.length_append]
      omega)
    have HC4 := Lib.hid (implAppendUvarint_any none 0 [] n w3 Reads.nil (by simp) (by simp))
    go_wp2_with fail
    go_at_call 77
    refine HC4.out.mono ?_
    rintro e w5 ⟨a5, c5, rfl, ho5, hb5⟩
    have S5 := Lib.hid (S2.out.pushOwn hb5 ho5)
    clear ho5 hb5 HC4 r0 r1
    obtain ⟨r0, r1⟩ := Row.one (box_at S5.out 0 rfl)
    go_wp2_with fail
    clear r0 r1
    go_loopw [3, 17] (fun s i wr => ∃ (k : Nat) (a1 : Option Addr) (c1 n1 : Nat), k ≤ n ∧ i = .int .i64 k ∧ s = .slice a1 n1 c1 ∧ Hid (Sep w wr [boxR w.heap.size 70 #[.slice a n c], own 5 .u8 a1 c1 (enc n ++ encB (l.take k))] ∧ n1 = (enc n ++ encB (l.take k)).length)) (fun _ i _ => n - (intOf i).toNat)
    case atStart => exact ⟨0, _, _, _, Nat.zero_le _, rfl, rfl, And.intro (by simpa [encB] using S5.out) (by simp [encB])⟩
    case round =>
      obtain ⟨k, a1, c1, n1, hk, rfl, rfl, hrel⟩ := hrel
      by_cases hlt : (k : Int) < (n : Int)
      · have hkl : k < l.length := by have := HN.out; omega
        obtain ⟨ad, rfl, had, h1, h2⟩ := readsF (HR.out _ hrel.out.1.old) k hkl
        obtain ⟨t, ht⟩ : ∃ t, t = l[k].name := ⟨_, rfl⟩
        obtain ⟨x, hx⟩ : ∃ m, m = l[k].n := ⟨_, rfl⟩
        have HK := Lib.hid (show encB (l.take (k + 1)) = encB (l.take k) ++ ((enc (L3.strB t).length ++ L3.strB t) ++ enc x) by rw [encB_take l k hkl, ht, hx]; rfl)
        have HTL := Lib.hid (show (L3.strB t).length ≤ 8 by
          have h := HNM.out _ (List.getElem_mem hkl)
          unfold isN at h
          simp only [Bool.and_eq_true, decide_eq_true_eq] at h
          rw [ht]; unfold L3.strB; rw [List.length_map]; exact h.2.2)
        rw [← ht] at h1
        rw [← hx] at h2
        clear ht hx
        obtain ⟨fb, hfb⟩ : ∃ g, g = wr.heap.size := ⟨_, rfl⟩
        have SF := Lib.hid (push_box hrel.out.1 92 #[.string t, .int .i64 x] fb hfb)
        obtain ⟨W2, hW2⟩ : ∃ u, u = wr.alloc (.cells #[.string t, .int .i64 x] 92) := ⟨_, rfl⟩
        rw [← hW2] at SF
        go_upto_region 7 with fail
        rw [← hW2, ← hfb]
        clear hW2 hfb h1 h2 had
        obtain ⟨wd, hwd⟩ : ∃ u, u = W2.drew := ⟨_, rfl⟩
        have SD := Lib.hid (show Sep w wd [boxR w.heap.size 70 #[.slice (some ad) n c], own 5 .u8 a1 c1 (enc n ++ encB (l.take k)), boxR fb 92 #[.string t, .int .i64 x]] by rw [hwd]; exact SF.out.drews 1)
        have HC := Lib.hid (show ∀ w', Below wd.heap.size wd w' → w'.cell? ⟨fb, 0, none⟩ = some (.string t) ∧ w'.cell? ⟨fb, 1, none⟩ = some (.int .i64 x) from fun w' h => Row.two (box_at (SD.out.keep h) 2 rfl))
        have HT := Lib.hid (Lib.run_convert_string_bytes (P := Try.prog) wd 9 84 5 t Try.underlying9 Try.underlying84 Try.underlying5)
        have HT1 := Lib.hid (And.intro (L3.strB_reads wd 5 t) (L3.strB_below wd 5 t))
        obtain ⟨wb, hwb⟩ : ∃ x, x = Lib.bytesWorld wd 5 t := ⟨_, rfl⟩
        obtain ⟨cp, hcp⟩ : ∃ x, x = grownCap wd t.size 0 5 := ⟨_, rfl⟩
        obtain ⟨p, hp⟩ : ∃ p, p = t.size := ⟨_, rfl⟩
        rw [← hwb, ← hcp, ← hp] at HT
        rw [← hwb] at HT1
        have SB := Lib.hid (SD.out.keep HT1.out.2)
        obtain ⟨g, hg⟩ : ∃ g, g = wd.heap.size := ⟨_, rfl⟩
        have HTr := Lib.hid HT1.out.1
        rw [← hg] at HT HTr
        have HP := Lib.hid (show p = (L3.strB t).length by rw [hp, L3.strB_length])
        have HN1 := Lib.hid hrel.out.2
        obtain ⟨X, hX⟩ : ∃ X, X = enc n ++ encB (l.take k) ++ enc (L3.strB t).length ++ L3.strB t := ⟨_, rfl⟩
        obtain ⟨Y, hY⟩ : ∃ Y, Y = X ++ enc x := ⟨_, rfl⟩
        have HY := Lib.hid (show enc n ++ encB (l.take (k + 1)) = Y by rw [HK.out, hY, hX]; simp only [List.append_assoc])
        have HXL := Lib.hid (show X.length ≤ 1000 by
          have h3 := HLN.out k
          have h4 := HTL.out
          have h5 := enc_len (L3.strB t).length
          rw [List.length_append] at h3
          rw [hX, List.length_append, List.length_append, List.length_append]
          omega)
        have H15 := Lib.hid (show ∀ w' a8 c8, Own w' 0 5 .u8 a8 c8 X → Calls Try.prog 77 #[.slice a8 X.length c8, .int .i64 x] w' (Gave w' w'.heap.size 5 .u8 Y) from fun w' a8 c8 ho => by
          rw [hY]
          exact implAppendUvarint_any a8 c8 X x w' ho.reads ho.cap (by have := HXL.out; omega))
        have H8 := Lib.hid (show ∀ w', Reads w' w'.heap.size (some ⟨g, 0, none⟩) (ints .u8 (L3.strB t)) → w' = wb → ∀ c2, Calls Try.prog 78 #[.slice a1 n1 c1, .slice (some ⟨g, 0, none⟩) p c2] w' (Gave w' w'.heap.size 5 .u8 X) from fun w' hr he c2 => by
          subst he
          rw [hX]
          rw [HN1.out, HP.out]
          have h3 := HLN.out k
          have h4 := HTL.out
          have ho := own_at0 SB.out 1 rfl
          exact implAppendBytes_any a1 _ c1 c2 _ _ w' ho.reads hr ho.cap (by omega) (by omega))
        have hcv := HT.out
        have HWD := Lib.hid hwd
        have HGd := Lib.hid hg
        clear hwb hcp hp hg hX hY hwd
        refine wp_region_held_drew (S := (fun w' => w'.cell? ⟨fb, 0, none⟩ = some (.string t) ∧ w'.cell? ⟨fb, 1, none⟩ = some (.int .i64 x))) (by kernel_rfl) (by rw [← HWD.out]; exact HC.out _ (Below.refl _ _)) (fun hS => ?_)
        rw [← HWD.out] at hS ⊢
        refine tk 0 rfl ?_
        try simp only [zp0, zp1, zp2, zp3, zp4]
        refine tk 1 rfl ?_
        try simp only [zp0, zp1, zp2, zp3, zp4]
        refine tk 2 rfl ?_
        try simp only [zp0, zp1, zp2, zp3, zp4]
        refine tk 5 rfl ?_
        try simp only [zp0, zp1, zp2, zp3, zp4]
        refine tk 6 rfl ?_
        try simp only [zp0, zp1, zp2, zp3, zp4]
        refine Reg.one_op (i := 3) rfl (by kernel_rfl) (fun K hK => ?_)
        go_simp
        refine hK.out _ _ (HC.out _ HT1.out.2) (fun hS => ?_)
        clear hK K
        try simp only [zp0, zp1, zp2, zp3, zp4]
        refine Reg.one_op (i := 4) rfl (by kernel_rfl) (fun K hK => ?_)
        go_simp
        go_at_call 78
        refine (H8.out _ HTr.out rfl _).mono ?_
        rintro e w8 ⟨a8, c8, rfl, ho8, hb8⟩
        have HO8 := Lib.hid (And.intro ho8 (HT1.out.2.trans (hb8.mono HT1.out.2.size)))
        have S8 := Lib.hid (SB.out.pushOwn hb8 ho8)
        clear ho8 hb8
        go_wp2_with fail
        refine hK.out _ _ (HC.out _ HO8.out.2) (fun hS => ?_)
        clear hK K
        try simp only [zp0, zp1, zp2, zp3, zp4]
        refine Reg.one_op (i := 7) rfl (by kernel_rfl) (fun K hK => ?_)
        go_simp
        go_at_call 77
        refine (H15.out _ _ _ (own_at0 S8.out 3 rfl)).mono ?_
        rintro e w9 ⟨a9, c9, rfl, ho9, hb9⟩
        have HO9 := Lib.hid (HO8.out.2.trans (hb9.mono HO8.out.2.size))
        have S9 := Lib.hid (S8.out.pushOwn hb9 ho9)
        clear ho9 hb9
        go_wp2_with fail
        refine hK.out _ _ (HC.out _ HO9.out) (fun hS => ?_)
        clear hK K
        try simp only [zp0, zp1, zp2, zp3, zp4]
        refine tk 8 rfl ?_
        try simp only [zp0, zp1, zp2, zp3, zp4]
        refine wpAnyH_done (by kernel_rfl) ?_ _
        go_wp2_with fail
        go_roundw
        case rel => exact ⟨k + 1, _, _, _, by omega, by go_num, rfl, And.intro (by rw [HY.out]; exact sep_ends S9.out) (by rw [HY.out])⟩
        case measure => simp [intOf]; omega
      · go_wp2_with fail
        go_ret
        obtain rfl : k = n := by omega
        have e1 : l.take k = l := by rw [HN.out, List.take_length]
        obtain ⟨ho, h3⟩ := hrel.out
        rw [e1] at ho h3
        rw [HE.out]
        exact Gave.mk h3 (ho.ownAt 1 rfl) ho.old
end Go.Proofs.Ytboefioalkjdaaa.L5

/-
  The contracts of chapter 6's SizeStore of the program. Conditions: keys' texts of at most 2^40 bytes, at most 2^20 fields and items. (Written by my program gen_l6m.py.)
-/
namespace Go.Proofs.Ytboefioalkjdaaa.L6
set_option maxRecDepth 100000
open L4 (K isK cmpK R inR encU)
open L5 (F isR isN cellsF encR eqR Small)
open Go.ChangeShapes Go.WideShapes Go.ChangeAt Go.RowKit Mem Sl Ex L2 Sv Bag
set_option linter.unusedVariables false
set_option linter.unusedSimpArgs false

set_option maxHeartbeats 8000000 in
theorem sizeStore_any (y : LS) (hf : FitS y.con) (w : World) (hr : RowsRd w w.heap.size y.rows) :
    Calls Try.prog 35 #[y.v] w fun e w' => e = .returned (.int .i64 (szI y.con.items)) ∧ Below w.heap.size w w' := by
  obtain ⟨name, a, c, xs, auto⟩ := y
  have HR := Lib.hid (fun w' (h : Below w.heap.size w w') => LS.outer (hr.below h))
  have HX := Lib.hid (fun w' (h : Below w.heap.size w w') => (LS.inner (hr.below h)).more h.size)
  have HF := Lib.hid hf.items
  have HNM := Lib.hid hf.name
  have hl := hf.len
  simp only [LS.con, conI_length] at hl
  dsimp only [LS.con] at HR HX HF HNM
  try unfold LS.v LS.cells LS.con
  try dsimp only
  obtain ⟨N, hN⟩ : ∃ n, n = xs.length := ⟨_, rfl⟩
  rw [← hN] at hl ⊢
  have hl' : (N : Int) ≤ 1048576 := by omega
  have HN := Lib.hid hN
  clear hN hr hf
  have S1 := Lib.hid (show Sl.Sep w (w.alloc (.cells #[.string name, .slice a N c, .int .i64 auto] 44)) [L4.boxR w.heap.size 44 #[.string name, .slice a N c, .int .i64 auto]] from L4.push_box (Sl.Sep.start w) 44 #[.string name, .slice a N c, .int .i64 auto] (w.heap.size) (by simp))
  obtain ⟨wa, hwa⟩ : ∃ u, u = (w.alloc (.cells #[.string name, .slice a N c, .int .i64 auto] 44)) := ⟨_, rfl⟩
  rw [← hwa] at S1
  go_enter Try.func35, Try.ntmps35
  go_upto_region 1 with fail
  rw [← hwa]
  clear hwa
  have hh := Bag.cs3 S1.out 0 rfl
  have f0 := hh.1; have f1 := hh.2.1; have f2 := hh.2.2; clear hh
  go_wp2_with fail
  clear f0 f1 f2
  go_loopw [3, 9] (fun v i wr => ∃ k m : Nat, k ≤ N ∧ i = .int .i64 k ∧ v = .int .i64 m ∧ m ≤ k * 1100 ∧ Hid (m = szI ((conI xs).take k) ∧ Sl.Sep w wr [L4.boxR w.heap.size 44 #[.string name, .slice a N c, .int .i64 auto]])) (fun _ i _ => N - (intOf i).toNat)
  case atStart => exact ⟨0, 0, Nat.zero_le _, rfl, rfl, by omega, And.intro rfl S1.out⟩
  case round =>
    obtain ⟨k, m, hk, rfl, rfl, hm, hrel⟩ := hrel
    have HM := Lib.hid hrel.out.1
    have S2 := Lib.hid hrel.out.2
    clear hrel S1
    by_cases hlt : (k : Int) < (N : Int)
    · skip
      have hkl : k < xs.length := by have := HN.out; omega
      obtain ⟨ad, x, rfl, hx⟩ := readsI_some (HR.out _ S2.out.old) k hkl
      obtain ⟨⟨kd, n, t⟩, ia, ic, l⟩ := x
      have HK := Lib.hid (fun w' (h : Below w.heap.size w w') => readsI_at (HR.out _ h) k _ hx)
      try dsimp only at HK
      have HFI := Lib.hid (fit_at HF.out hx)
      try dsimp only [LI.con] at HFI
      have HC := Lib.hid (show (conI xs)[k]? = some (⟨⟨kd, n, t⟩, l⟩ : It) from con_of hx)
      have HEK := fun w => L4.implEncodeKey_any ⟨kd, n, t⟩ HFI.out.text w
      obtain ⟨ek, hek⟩ : ∃ u, L4.toI (encU ⟨kd, n, t⟩) = u := ⟨_, rfl⟩
      rw [hek] at HEK
      replace HEK := Lib.hid HEK
      have HER := fun w' (h : Below w.heap.size w w') => L5.encodeRecord_any ia ic l (by have : l.length ≤ 1048576 := HFI.out.len; omega) HFI.out.small w' (((HX.out _ h).at_ (rowsI_mem hx)).reads)
      obtain ⟨er, her⟩ : ∃ u, encR l = u := ⟨_, rfl⟩
      rw [her] at HER
      replace HER := Lib.hid HER
      obtain ⟨p, hp⟩ : ∃ p, p = ek.length := ⟨_, rfl⟩
      obtain ⟨q, hq⟩ : ∃ q, q = er.length := ⟨_, rfl⟩
      have hpl : p ≤ 50 := by rw [hp, ← hek, L4.toI_length]; exact encU_small _
      have hql : q ≤ 1000 := by rw [hq, ← her]; exact encR_small l
      have HS := Lib.hid (show szI ((conI xs).take (k + 1)) = m + (p + q) from by rw [szI_take HC.out, ← HM.out, hp, hq, ← hek, ← her, L4.toI_length])
      have HPQ := Lib.hid (And.intro hp hq)
      clear hp hq hek her hx
      have hwa : IntKind.i64.wrap ((p : Int) + (q : Int)) = (p : Int) + (q : Int) := IntWalk.i64_in _ ⟨by omega, by omega⟩
      have hwb : IntKind.i64.wrap ((m : Int) + ((p : Int) + (q : Int))) = (m : Int) + ((p : Int) + (q : Int)) := IntWalk.i64_in _ ⟨by omega, by omega⟩
      have hh := Bag.cs3 S2.out 0 rfl
      have f0 := hh.1; have f1 := hh.2.1; have f2 := hh.2.2; clear hh
      have hh := HK.out _ S2.out.old
      have f3 := hh.1; have f4 := hh.2.1; have f5 := hh.2.2.1; have f6 := hh.2.2.2; clear hh
      go_upto_region 5 with fail
      clear f0 f1 f2 f3 f4 f5 f6
      have S3 := Lib.hid (show Sl.Sep w _ [L4.boxR w.heap.size 44 #[.string name, .slice (some ad) N c, .int .i64 auto], L4.boxR wr.heap.size 72 #[.int .i64 kd, .int .i64 n, .string t, .slice ia l.length ic]] from L4.push_box S2.out 72 #[.int .i64 kd, .int .i64 n, .string t, .slice ia l.length ic] wr.heap.size rfl)
      clear S2
      obtain ⟨g1, hg⟩ : ∃ g', g' = wr.heap.size := ⟨_, rfl⟩
      rw [← hg] at S3 ⊢
      clear hg
      generalize wr.alloc (.cells #[.int .i64 kd, .int .i64 n, .string t, .slice ia l.length ic] 72) = w1 at S3 ⊢
      have hh := Bag.cs3 S3.out 0 rfl
      have f0 := hh.1; have f1 := hh.2.1; have f2 := hh.2.2; clear hh
      have hh := Bag.cs4 S3.out 1 rfl
      have f3 := hh.1; have f4 := hh.2.1; have f5 := hh.2.2.1; have f6 := hh.2.2.2; clear hh
      have hh := HK.out _ S3.out.old
      have f7 := hh.1; have f8 := hh.2.1; have f9 := hh.2.2.1; have f10 := hh.2.2.2; clear hh
      go_upto_region 5 with fail
      clear f0 f1 f2 f3 f4 f5 f6 f7 f8 f9 f10
      refine wp_region_held_drew (S := (fun w' => (World.cell? w' ⟨w.heap.size, 0, none⟩ = some (.string name) ∧ World.cell? w' ⟨w.heap.size, 1, none⟩ = some (.slice (some ad) N c) ∧ World.cell? w' ⟨w.heap.size, 2, none⟩ = some (.int .i64 auto)) ∧ (World.cell? w' ⟨g1, 0, none⟩ = some (.int .i64 kd) ∧ World.cell? w' ⟨g1, 1, none⟩ = some (.int .i64 n) ∧ World.cell? w' ⟨g1, 2, none⟩ = some (.string t) ∧ World.cell? w' ⟨g1, 3, none⟩ = some (.slice ia l.length ic)) ∧ (World.cell? w' (ad.add (k * 4)) = some (.int .i64 kd) ∧ World.cell? w' (⟨(ad.add (k * 4)).block, (ad.add (k * 4)).off + 1, none⟩) = some (.int .i64 n) ∧ World.cell? w' (⟨(ad.add (k * 4)).block, (ad.add (k * 4)).off + 2, none⟩) = some (.string t) ∧ World.cell? w' (⟨(ad.add (k * 4)).block, (ad.add (k * 4)).off + 3, none⟩) = some (.slice ia l.length ic)))) (by kernel_rfl) ⟨Bag.cs3 (Bag.drew1 S3.out) 0 rfl, Bag.cs4 (Bag.drew1 S3.out) 1 rfl, HK.out _ (Bag.drew1 S3.out).old⟩ (fun hS => ?_)
      have S4 := Lib.hid (show Sl.Sep w _ [L4.boxR w.heap.size 44 #[.string name, .slice (some ad) N c, .int .i64 auto], L4.boxR g1 72 #[.int .i64 kd, .int .i64 n, .string t, .slice ia l.length ic]] from Bag.drew1 S3.out)
      clear S3
      generalize World.drew _ = w2 at hS S4 ⊢
      refine tk 0 rfl ?_
      try simp only [zp0, zp1, zp2, zp3, zp4]
      refine tk 1 rfl ?_
      try simp only [zp0, zp1, zp2, zp3, zp4]
      refine tk 2 rfl ?_
      try simp only [zp0, zp1, zp2, zp3, zp4]
      refine tk 5 rfl ?_
      try simp only [zp0, zp1, zp2, zp3, zp4]
      refine tk 6 rfl ?_
      try simp only [zp0, zp1, zp2, zp3, zp4]
      refine Reg.one_op (i := 3) rfl (by kernel_rfl) (fun K hK => ?_)
      go_simp
      go_at_call 57
      refine (HEK.out _).mono ?_
      rintro e w3 ⟨a1, c1, rfl, ho, hb⟩
      have S5 := Lib.hid (show Sl.Sep w _ [L4.boxR w.heap.size 44 #[.string name, .slice (some ad) N c, .int .i64 auto], L4.boxR g1 72 #[.int .i64 kd, .int .i64 n, .string t, .slice ia l.length ic], Sl.own 5 .u8 a1 c1 ek] from Sl.Sep.pushOwn S4.out hb ho)
      clear S4
      clear hb ho
      rw [← HPQ.out.1]
      go_wp2_with fail
      refine hK.out _ _ ⟨Bag.cs3 S5.out 0 rfl, Bag.cs4 S5.out 1 rfl, HK.out _ S5.out.old⟩ (fun hS => ?_)
      clear hK K
      try simp only [zp0, zp1, zp2, zp3, zp4]
      refine tk 4 rfl ?_
      try simp only [zp0, zp1, zp2, zp3, zp4]
      refine Reg.one_op (i := 7) rfl (by kernel_rfl) (fun K hK => ?_)
      go_simp
      go_at_call 58
      refine (HER.out _ S5.out.old).mono ?_
      rintro e w4 ⟨a2', c2', rfl, ho, hb⟩
      have S6 := Lib.hid (show Sl.Sep w _ [L4.boxR w.heap.size 44 #[.string name, .slice (some ad) N c, .int .i64 auto], L4.boxR g1 72 #[.int .i64 kd, .int .i64 n, .string t, .slice ia l.length ic], Sl.own 5 .u8 a1 c1 ek, Sl.own 5 .u8 a2' c2' er] from Sl.Sep.pushOwn S5.out hb ho)
      clear S5
      clear hb ho
      rw [← HPQ.out.2]
      go_wp2_with fail
      refine hK.out _ _ ⟨Bag.cs3 S6.out 0 rfl, Bag.cs4 S6.out 1 rfl, HK.out _ S6.out.old⟩ (fun hS => ?_)
      clear hK K
      try simp only [zp0, zp1, zp2, zp3, zp4]
      refine tk 8 rfl ?_
      try simp only [zp0, zp1, zp2, zp3, zp4]
      refine tk 9 rfl ?_
      try simp only [zp0, zp1, zp2, zp3, zp4]
      refine tk 10 rfl ?_
      try simp only [zp0, zp1, zp2, zp3, zp4]
      refine tk 11 rfl ?_
      try simp only [zp0, zp1, zp2, zp3, zp4]
      refine wpAnyH_done (by kernel_rfl) ?_ _
      have hh := Bag.cs3 S6.out 0 rfl
      have f0 := hh.1; have f1 := hh.2.1; have f2 := hh.2.2; clear hh
      have hh := Bag.cs4 S6.out 1 rfl
      have f3 := hh.1; have f4 := hh.2.1; have f5 := hh.2.2.1; have f6 := hh.2.2.2; clear hh
      have hh := HK.out _ S6.out.old
      have f7 := hh.1; have f8 := hh.2.1; have f9 := hh.2.2.1; have f10 := hh.2.2.2; clear hh
      clear f0 f1 f2 f3 f4 f5 f6 f7 f8 f9 f10
      have S7 := Lib.hid (show Sl.Sep w _ [L4.boxR w.heap.size 44 #[.string name, .slice (some ad) N c, .int .i64 auto]] from Bag.take S6.out [0] (by rfl) (by decide))
      clear S6
      have hh := Bag.cs3 S7.out 0 rfl
      have f0 := hh.1; have f1 := hh.2.1; have f2 := hh.2.2; clear hh
      have hh := HK.out _ S7.out.old
      have f3 := hh.1; have f4 := hh.2.1; have f5 := hh.2.2.1; have f6 := hh.2.2.2; clear hh
      go_wp2_with fail
      go_roundw
      case rel => exact ⟨k + 1, m + (p + q), by omega, by go_num, by first | rfl | (rw [hwa, hwb]; rfl) | go_num, by omega, And.intro (by rw [HS.out]) S7.out⟩
      case measure => simp [intOf]; omega
    · skip
      have hh := Bag.cs3 S2.out 0 rfl
      have f0 := hh.1; have f1 := hh.2.1; have f2 := hh.2.2; clear hh
      go_wp2_with fail
      go_ret
      have hk2 : k = N := by omega
      have HE := Lib.hid (show (conI xs).take k = conI xs from List.take_of_length_le (by rw [conI_length, ← HN.out]; omega))
      exact ⟨by have h1 := HM.out; rw [HE.out] at h1; rw [← h1]; rfl, S2.out.old⟩
end Go.Proofs.Ytboefioalkjdaaa.L6

/-
  The contracts of chapter 8's SizeDatabase and EqualDatabases of the program. Conditions: names of at most 2^48 bytes, at most 2^20 stores, indexes, items and fields. (Written by my program gen_l8h.py.)
-/
namespace Go.Proofs.Ytboefioalkjdaaa.L8
set_option maxRecDepth 100000
open V L6 L7
open L4 (K isK cmpK)
open L5 (F isR isN string_geq)
open Go.Op (bytesLess)
open Go.ChangeShapes Go.WideShapes Go.ChangeAt Go.RowKit Mem Sl Ex L2 Sv Bag
set_option linter.unusedVariables false
set_option linter.unusedSimpArgs false

set_option maxHeartbeats 8000000 in
theorem sizeDatabase_any (z : Y_Database) (hf : FitD (co_Database z)) (w : World) (hr : RowsRd w w.heap.size (rw_Database z)) :
    Calls Try.prog 15 #[vv_Database z] w fun e w' => e = .returned (.int .i64 (szD (co_Database z) : Nat)) ∧ Below w.heap.size w w' := by
  have HR : Hid (∀ w' (h : Below w.heap.size w w'), Reads w' w.heap.size z.f_Stores_a (z.f_Stores.flatMap cl_Store)) := Lib.hid (fun w' h => (rdS hr).below h)
  have HX : Hid (∀ w' (h : Below w.heap.size w w'), RowsRd w' w'.heap.size (rws_Store z.f_Stores)) := Lib.hid (fun w' h => ((rdX hr).below h).more h.size)
  have HU : Hid (∀ w' (h : Below w.heap.size w w'), Reads w' w.heap.size z.f_Unique_a (z.f_Unique.flatMap cl_IndexDef)) := Lib.hid (fun w' h => (rdU hr).below h)
  have HFD := Lib.hid hf
  have HFDl : z.f_Stores.length ≤ 1048576 := by have h := hf.len; rwa [co_len] at h
  have HFDm : z.f_Unique.length ≤ 1048576 := hf.many
  clear hf hr
  obtain ⟨name, ver, sa, sc, ss, ua, uc, us⟩ := z
  dsimp only [co_Database] at HR HX HU HFD HFDl HFDm
  try unfold vv_Database
  try unfold co_Database
  try dsimp only
  try rw [show coS_IndexDef us = us from rfl]
  rw [show coS_IndexDef us = us from rfl] at HFD
  obtain ⟨N, hN⟩ : ∃ n, n = ss.length := ⟨_, rfl⟩
  obtain ⟨M, hM⟩ : ∃ n, n = us.length := ⟨_, rfl⟩
  rw [← hN] at HFDl ⊢
  rw [← hM] at HFDm ⊢
  have HFDl' : (N : Int) ≤ 1048576 := by omega
  have HFDm' : (M : Int) ≤ 1048576 := by omega
  have HN := Lib.hid hN
  have HM := Lib.hid hM
  clear hN hM
  rw [szD_eq]
  dsimp only
  have S1 := Lib.hid (show Sl.Sep w (w.alloc (.cells #[.string name, .int .i64 ver, .slice sa N sc, .slice ua M uc] 31)) [L4.boxR w.heap.size 31 #[.string name, .int .i64 ver, .slice sa N sc, .slice ua M uc]] from L4.push_box (Sl.Sep.start w) 31 #[.string name, .int .i64 ver, .slice sa N sc, .slice ua M uc] (w.heap.size) (by simp))
  obtain ⟨wa, hwa⟩ : ∃ w_, w_ = (w.alloc (.cells #[.string name, .int .i64 ver, .slice sa N sc, .slice ua M uc] 31)) := ⟨_, rfl⟩
  rw [← hwa] at S1
  go_enter Try.func15, Try.ntmps15
  go_upto_region 1 with fail
  rw [← hwa]
  clear hwa
  have hh := Bag.cs4 S1.out 0 rfl
  have f0 := hh.1; have f1 := hh.2.1; have f2 := hh.2.2.1; have f3 := hh.2.2.2; clear hh
  go_wp2_with fail
  clear f0 f1 f2 f3
  go_loopw [3, 9] (fun v i wr => ∃ k m : Nat, k ≤ N ∧ i = .int .i64 k ∧ v = .int .i64 m ∧ m ≤ k * 1101004800 ∧ Hid (m = szDs ((coS_Store ss).take k) ∧ Sl.Sep w wr [L4.boxR w.heap.size 31 #[.string name, .int .i64 ver, .slice sa N sc, .slice ua M uc]])) (fun _ i _ => N - (intOf i).toNat)
  case atStart => exact ⟨0, 0, Nat.zero_le _, rfl, rfl, by omega, And.intro rfl S1.out⟩
  case round =>
    obtain ⟨k, m, hk, rfl, rfl, hm, hrel⟩ := hrel
    have HMM := Lib.hid hrel.out.1
    have S2 := Lib.hid hrel.out.2
    clear hrel S1
    by_cases hlt : (k : Int) < (N : Int)
    · skip
      have hkl : k < ss.length := by have := HN.out; omega
      obtain ⟨x, hx⟩ : ∃ x, ss[k]? = some x := ⟨_, List.getElem?_eq_getElem hkl⟩
      obtain ⟨sad, e'⟩ := el_some cl_Store_len (by decide) (HR.out _ S2.out.old) hkl
      subst e'
      have HKx := Lib.hid (fun w' (h : Below w.heap.size w w') => el3 cl_Store_len (HR.out _ h) hx rfl)
      have HRx := Lib.hid (fun w' (h : Below w.heap.size w w') => rd_store (HX.out w' h) hx)
      have HFx := Lib.hid (fit_store HFD.out.stores hx)
      have HCx := Lib.hid (coS_at hx)
      clear hx
      obtain ⟨z0, hz0⟩ : ∃ n, szI x.con.items = n := ⟨_, rfl⟩
      have HSS := fun w' (h : Below w.heap.size w w') => sizeStore_any x HFx.out w' (HRx.out w' h)
      rw [hz0] at HSS
      dsimp only [LS.v, LS.cells] at HSS
      replace HSS := Lib.hid HSS
      have hzl : z0 ≤ 1101004800 := by have h1 := szI_le x.con.items; have h2 := HFx.out.len; rw [hz0] at h1; omega
      have HS := Lib.hid (show szDs ((coS_Store ss).take (k + 1)) = m + z0 from by rw [szDs_take HCx.out, ← HMM.out, hz0])
      clear hz0
      have hwa : IntKind.i64.wrap ((m : Int) + (z0 : Int)) = (m : Int) + (z0 : Int) := IntWalk.i64_in _ ⟨by omega, by omega⟩
      have hh := Bag.cs4 S2.out 0 rfl
      have f0 := hh.1; have f1 := hh.2.1; have f2 := hh.2.2.1; have f3 := hh.2.2.2; clear hh
      have hh := HKx.out _ S2.out.old
      have f4 := hh.1; have f5 := hh.2.1; have f6 := hh.2.2; clear hh
      go_upto_region 5 with fail
      clear f0 f1 f2 f3 f4 f5 f6
      have S3 := Lib.hid (show Sl.Sep w _ [L4.boxR w.heap.size 31 #[.string name, .int .i64 ver, .slice (some sad) N sc, .slice ua M uc], L4.boxR wr.heap.size 44 #[.string x.name, .slice x.a x.xs.length x.c, .int .i64 x.auto]] from L4.push_box S2.out 44 #[.string x.name, .slice x.a x.xs.length x.c, .int .i64 x.auto] wr.heap.size rfl)
      clear S2
      obtain ⟨g1, hg⟩ : ∃ g', g' = wr.heap.size := ⟨_, rfl⟩
      rw [← hg] at S3 ⊢
      clear hg
      generalize wr.alloc (.cells #[.string x.name, .slice x.a x.xs.length x.c, .int .i64 x.auto] 44) = w1 at S3 ⊢
      have hh := Bag.cs4 S3.out 0 rfl
      have f0 := hh.1; have f1 := hh.2.1; have f2 := hh.2.2.1; have f3 := hh.2.2.2; clear hh
      have hh := Bag.cs3 S3.out 1 rfl
      have f4 := hh.1; have f5 := hh.2.1; have f6 := hh.2.2; clear hh
      have hh := HKx.out _ S3.out.old
      have f7 := hh.1; have f8 := hh.2.1; have f9 := hh.2.2; clear hh
      go_wp2_with fail
      go_at_call 35
      refine (HSS.out _ S3.out.old).mono ?_
      rintro e w2 ⟨rfl, hb⟩
      clear f0 f1 f2 f3 f4 f5 f6 f7 f8 f9
      have S4 := Lib.hid (S3.out.keep hb)
      clear S3
      clear hb
      have hh := Bag.cs4 S4.out 0 rfl
      have f0 := hh.1; have f1 := hh.2.1; have f2 := hh.2.2.1; have f3 := hh.2.2.2; clear hh
      have hh := Bag.cs3 S4.out 1 rfl
      have f4 := hh.1; have f5 := hh.2.1; have f6 := hh.2.2; clear hh
      have hh := HKx.out _ S4.out.old
      have f7 := hh.1; have f8 := hh.2.1; have f9 := hh.2.2; clear hh
      clear f0 f1 f2 f3 f4 f5 f6 f7 f8 f9
      have S5 := Lib.hid (show Sl.Sep w _ [L4.boxR w.heap.size 31 #[.string name, .int .i64 ver, .slice (some sad) N sc, .slice ua M uc]] from Bag.take S4.out [0] (by rfl) (by decide))
      clear S4
      have hh := Bag.cs4 S5.out 0 rfl
      have f0 := hh.1; have f1 := hh.2.1; have f2 := hh.2.2.1; have f3 := hh.2.2.2; clear hh
      have hh := HKx.out _ S5.out.old
      have f4 := hh.1; have f5 := hh.2.1; have f6 := hh.2.2; clear hh
      go_wp2_with fail
      go_roundw
      case rel => exact ⟨k + 1, m + z0, by omega, by go_num, by first | rfl | (rw [hwa]; rfl) | (rw [hwa]; go_num) | go_num, by omega, And.intro (by rw [HS.out]) S5.out⟩
      case measure => simp [intOf]; omega
    · skip
      have hh := Bag.cs4 S2.out 0 rfl
      have f0 := hh.1; have f1 := hh.2.1; have f2 := hh.2.2.1; have f3 := hh.2.2.2; clear hh
      go_wp2_with fail
      go_ret
      have hk2 : k = N := by omega
      have HE := Lib.hid (show (coS_Store ss).take k = coS_Store ss from List.take_of_length_le (by rw [coS_len, ← HN.out]; omega))
      exact ⟨by have h1 := HMM.out; rw [HE.out] at h1; rw [← h1]; rfl, S2.out.old⟩
end Go.Proofs.Ytboefioalkjdaaa.L8

