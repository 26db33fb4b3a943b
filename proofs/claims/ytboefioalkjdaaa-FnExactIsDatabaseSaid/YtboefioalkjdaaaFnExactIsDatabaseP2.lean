/-
  What the law FnExactIsDatabase needs, laid by my program lawpack.py, part 2: the texts VItem, VStore, VIndexDef, VDatabase, L8Num, L8Fw, RegL, L6Sa, L6Sb, L5Rd, L7Sa, L6Se, L7Sb, L7Sc, L7Sd, one behind the other; each begins with its own words.
-/
import Derived.Test.YtboefioalkjdaaaFnExactIsDatabaseP1
set_option linter.unusedSimpArgs false
/-
  The exact laws' helpers for Item, and for slices of it: how such a value opens, its copy, its room, comparison, marks. Condition: a weight of at most 2^20 (2^50 for comparison and marks). (Written by my program gen_v.py.)
-/
namespace Go.Proofs.Ytboefioalkjdaaa.V
set_option maxRecDepth 100000
open Go.ChangeShapes Go.WideShapes Go.ChangeAt Go.RowKit Mem Sl Sv Bag
open L5 (markT)
set_option linter.unusedVariables false
set_option linter.unusedSimpArgs false
def co_Item : L6.LI → L6.It := L6.LI.con
def coS_Item : List L6.LI → List L6.It := L6.conI
theorem coS_Item_eq (xs : List L6.LI) : coS_Item xs = xs.map co_Item := rfl
def cl_Item (z : L6.LI) : List Value := [.int .i64 z.k.kind, .int .i64 z.k.n, .string z.k.text, .slice z.a z.l.length z.c]
def vv_Item (z : L6.LI) : Value := .agg #[.int .i64 z.k.kind, .int .i64 z.k.n, .string z.k.text, .slice z.a z.l.length z.c]
def rw_Item (z : L6.LI) : List RowS := rw_Record (⟨z.a, z.c, z.l⟩ : LRecord)
def wt_Item (c : L6.It) : Nat := wt_Key c.k + (wt_Record c.l)
theorem wt_Item_parts (z : L6.LI) : wt_Item (co_Item z) = wt_Key (co_Key z.k) + (wt_Record (co_Record (⟨z.a, z.c, z.l⟩ : LRecord))) := rfl
theorem cl_Item_len (z : L6.LI) : (cl_Item z).length = 4 := rfl
def row_Item (a : Option Addr) (c : Nat) (xs : List L6.LI) : RowS := ⟨72, 4, a, c, xs.length, xs.flatMap cl_Item⟩
def rws_Item : List L6.LI → List RowS := L6.rowsI
theorem rws_Item_eq (xs : List L6.LI) : rws_Item xs = xs.flatMap rw_Item := by
  show xs.map L6.LI.row = _
  induction xs with
  | nil => rfl
  | cons x xs ih => rw [List.map_cons, ih]; rfl
def rs_Item (a : Option Addr) (c : Nat) (xs : List L6.LI) : List RowS := row_Item a c xs :: rws_Item xs
theorem rws_Item_app (xs ys : List L6.LI) : rws_Item (xs ++ ys) = rws_Item xs ++ rws_Item ys := by rw [rws_Item_eq, rws_Item_eq, rws_Item_eq, List.flatMap_append]
def Wide_Item (z : L6.LI) : Prop := Wide_Key z.k ∧ Wide_Record (⟨z.a, z.c, z.l⟩ : LRecord)
section
variable {H : Type} {enc : TypeId × Value → H} {W : World} {b : Nat} {sp : Nat → Bool} {hd : Bool}
theorem trod_Item {fuel : Nat} {cs : List Value} {x : DataW H × List MemPlace} (h : DataW.trod enc Try.prog W b sp hd fuel 109 cs = some x) (hlt : ∀ p ∈ x.2, p.block < W.heap.size) : ∃ z : L6.LI, cs = cl_Item z ∧ RowsRd W W.heap.size (rw_Item z) ∧ Wide_Item z := by
  obtain ⟨xs, n, _, hx, hl, hlen, hf⟩ := DataW.trod_struct Try.underlying109 h
  have hlN : cs.length = 4 := hl.trans (by kernel_rfl)
  match cs, hlN with
  | [c0, c1, c2, c3], _ =>
    have h0 : DataW.trod enc Try.prog W b sp hd n 104 (List.take (Try.prog.cellsOf 104) (List.drop 0 [c0, c1, c2, c3])) = xs[0]? := hf 0 _ rfl
    rw [show Try.prog.cellsOf 104 = 3 by kernel_rfl, List.getElem?_eq_getElem (by rw [hlen]; decide)] at h0
    obtain ⟨x0, e0, r0, w0⟩ := trod_Key h0 (fun p hp => hlt p (by rw [hx]; exact List.mem_flatMap.2 ⟨_, List.getElem_mem (show 0 < xs.length by rw [hlen]; decide), hp⟩))
    have h1 : DataW.trod enc Try.prog W b sp hd n 107 (List.take (Try.prog.cellsOf 107) (List.drop 3 [c0, c1, c2, c3])) = xs[1]? := hf 1 _ rfl
    rw [show Try.prog.cellsOf 107 = 1 by kernel_rfl, List.getElem?_eq_getElem (by rw [hlen]; decide)] at h1
    obtain ⟨x1, e1, r1, w1⟩ := trod_Record h1 (fun p hp => hlt p (by rw [hx]; exact List.mem_flatMap.2 ⟨_, List.getElem_mem (show 1 < xs.length by rw [hlen]; decide), hp⟩))
    simp only [List.drop_succ_cons, List.drop_zero, List.take_succ_cons, List.take_zero, cl_Key, List.cons.injEq, and_true] at e0
    obtain ⟨rfl, rfl, rfl⟩ := e0
    simp only [List.drop_succ_cons, List.drop_zero, List.take_succ_cons, List.take_zero, cl_Record, List.cons.injEq, and_true] at e1
    subst e1
    exact ⟨⟨x0, x1.a, x1.c, x1.l⟩, rfl, r1, ⟨w0, w1⟩⟩
theorem trods_Item {fuel : Nat} {cs : List Value} {x : DataW H × List MemPlace} (h : DataW.trod enc Try.prog W b sp hd fuel 62 cs = some x) (hlt : ∀ p ∈ x.2, p.block < W.heap.size) :
    ∃ (a : Option Addr) (xs : List L6.LI) (c : Nat), cs = [.slice a xs.length c] ∧ (Reads W W.heap.size a (xs.flatMap cl_Item) ∧ xs.length ≤ c ∧ (a = none → c = 0)) ∧ RowsRd W W.heap.size (xs.flatMap rw_Item) ∧ xs.length ≤ maxLen ∧ ∀ z ∈ xs, Wide_Item z :=
  trods cl_Item 4 cl_Item_len (by decide) rw_Item Wide_Item 62 109 Try.underlying62 (by kernel_rfl) (fun h hl => trod_Item h hl) h hlt
end
set_option maxHeartbeats 4000000 in
theorem to_Item (z : L6.LI) (hf : wt_Item (co_Item z) ≤ 1048576) (w : World) (hr : RowsRd w w.heap.size (rw_Item z)) : Calls Try.prog 82 #[vv_Item z] w fun e w' => ∃ y : L6.LI, e = .returned (vv_Item y) ∧ co_Item y = co_Item z ∧ BagOwn w' w.heap.size (rw_Item y) ∧ Below w.heap.size w w' := by
  have hfp := hf
  rw [wt_Item_parts] at hfp
  have HC0 := Lib.hid (fun w' => to_Key z.k w')
  dsimp only [vv_Key] at HC0
  have HC1 := Lib.hid (fun w' (h : Below w.heap.size w w') => to_Record (⟨z.a, z.c, z.l⟩ : LRecord) (by omega) w' (((hr).below h).more h.size))
  try dsimp only [vv_Record] at HC1
  clear hfp hf hr
  unfold vv_Item
  have S1 := Lib.hid (show Sl.Sep w ((w.alloc (.cells #[.int .i64 z.k.kind, .int .i64 z.k.n, .string z.k.text, .slice z.a z.l.length z.c] 109)).alloc (.cells #[.int .i64 0, .int .i64 0, .string ⟨#[]⟩, .slice none 0 0] 72)) [L4.boxR w.heap.size 109 #[.int .i64 z.k.kind, .int .i64 z.k.n, .string z.k.text, .slice z.a z.l.length z.c], L4.boxR (w.heap.size + 1) 72 #[.int .i64 0, .int .i64 0, .string ⟨#[]⟩, .slice none 0 0]] from L4.push_box (L4.push_box (Sl.Sep.start w) 109 #[.int .i64 z.k.kind, .int .i64 z.k.n, .string z.k.text, .slice z.a z.l.length z.c] (w.heap.size) (by simp)) 72 #[.int .i64 0, .int .i64 0, .string ⟨#[]⟩, .slice none 0 0] (w.heap.size + 1) (by simp))
  obtain ⟨wa, hwa⟩ : ∃ u, u = ((w.alloc (.cells #[.int .i64 z.k.kind, .int .i64 z.k.n, .string z.k.text, .slice z.a z.l.length z.c] 109)).alloc (.cells #[.int .i64 0, .int .i64 0, .string ⟨#[]⟩, .slice none 0 0] 72)) := ⟨_, rfl⟩
  rw [← hwa] at S1
  go_enter Try.func82, Try.ntmps82
  go_upto_region 1 with fail
  rw [← hwa]
  clear hwa
  go_upto_region 2 with fail
  have S2 := Lib.hid (show Sl.Sep w _ [L4.boxR w.heap.size 109 #[.int .i64 z.k.kind, .int .i64 z.k.n, .string z.k.text, .slice z.a z.l.length z.c], L4.boxR (w.heap.size + 1) 72 #[.int .i64 0, .int .i64 0, .string ⟨#[]⟩, .slice none 0 0], L4.boxR wa.heap.size 72 #[.int .i64 0, .int .i64 0, .string ⟨#[]⟩, .slice none 0 0]] from L4.push_box S1.out 72 #[.int .i64 0, .int .i64 0, .string ⟨#[]⟩, .slice none 0 0] wa.heap.size rfl)
  clear S1
  obtain ⟨g1, hg⟩ : ∃ g', g' = wa.heap.size := ⟨_, rfl⟩
  rw [← hg] at S2 ⊢
  clear hg
  generalize wa.alloc (.cells #[.int .i64 0, .int .i64 0, .string ⟨#[]⟩, .slice none 0 0] 72) = w1 at S2 ⊢
  have hh := Bag.cs4 S2.out 0 rfl
  have f0 := hh.1; have f1 := hh.2.1; have f2 := hh.2.2.1; have f3 := hh.2.2.2; clear hh
  go_wp2_with fail
  go_at_call 96
  refine (HC0.out _).mono ?_
  rintro e w2 ⟨rfl, hb⟩
  clear f0 f1 f2 f3
  have S3 := Lib.hid (S2.out.keep hb)
  clear S2
  clear hb
  have hh := Bag.cs4 S3.out 0 rfl
  have f0 := hh.1; have f1 := hh.2.1; have f2 := hh.2.2.1; have f3 := hh.2.2.2; clear hh
  have hh := Bag.cs4 S3.out 2 rfl
  have f4 := hh.1; have f5 := hh.2.1; have f6 := hh.2.2.1; have f7 := hh.2.2.2; clear hh
  have z0 := Bag.free_at S3.out 2 rfl 0
  have z1 := Bag.free_at S3.out 2 rfl 1
  have z2 := Bag.free_at S3.out 2 rfl 2
  go_upto_region 3 with fail
  clear f0 f1 f2 f3 f4 f5 f6 f7 z0 z1 z2
  have S4 := Lib.hid (show Sl.Sep w _ [L4.boxR w.heap.size 109 #[.int .i64 z.k.kind, .int .i64 z.k.n, .string z.k.text, .slice z.a z.l.length z.c], L4.boxR (w.heap.size + 1) 72 #[.int .i64 0, .int .i64 0, .string ⟨#[]⟩, .slice none 0 0], L4.boxR g1 72 #[.int .i64 z.k.kind, .int .i64 z.k.n, .string z.k.text, .slice none 0 0]] from L5.put_box5 (L5.put_box5 (L5.put_box5 (S3.out) 2 rfl 0 (.int .i64 z.k.kind)) 2 rfl 1 (.int .i64 z.k.n)) 2 rfl 2 (.string z.k.text))
  clear S3
  have hh := Bag.cs4 S4.out 0 rfl
  have f0 := hh.1; have f1 := hh.2.1; have f2 := hh.2.2.1; have f3 := hh.2.2.2; clear hh
  go_wp2_with fail
  go_at_call 97
  refine (HC1.out _ S4.out.old).mono ?_
  rintro e w3 ⟨y1, rfl, hc1, ho, hb⟩
  clear f0 f1 f2 f3
  have S5 := Lib.hid (show Sl.Sep w _ [L4.boxR w.heap.size 109 #[.int .i64 z.k.kind, .int .i64 z.k.n, .string z.k.text, .slice z.a z.l.length z.c], L4.boxR (w.heap.size + 1) 72 #[.int .i64 0, .int .i64 0, .string ⟨#[]⟩, .slice none 0 0], L4.boxR g1 72 #[.int .i64 z.k.kind, .int .i64 z.k.n, .string z.k.text, .slice none 0 0], Bag.bag (rw_Record y1)] from Bag.push_bag S4.out hb ho)
  clear S4
  clear hb ho
  have HQ1 := Lib.hid hc1
  clear hc1
  try dsimp only [vv_Record]
  have hh := Bag.cs4 S5.out 0 rfl
  have f0 := hh.1; have f1 := hh.2.1; have f2 := hh.2.2.1; have f3 := hh.2.2.2; clear hh
  have hh := Bag.cs4 S5.out 2 rfl
  have f4 := hh.1; have f5 := hh.2.1; have f6 := hh.2.2.1; have f7 := hh.2.2.2; clear hh
  have z3 := Bag.free_at S5.out 2 rfl 3
  go_upto_region 4 with fail
  clear f0 f1 f2 f3 f4 f5 f6 f7 z3
  have S6 := Lib.hid (show Sl.Sep w _ [L4.boxR w.heap.size 109 #[.int .i64 z.k.kind, .int .i64 z.k.n, .string z.k.text, .slice z.a z.l.length z.c], L4.boxR (w.heap.size + 1) 72 #[.int .i64 0, .int .i64 0, .string ⟨#[]⟩, .slice none 0 0], L4.boxR g1 72 #[.int .i64 z.k.kind, .int .i64 z.k.n, .string z.k.text, .slice y1.a y1.l.length y1.c], Bag.bag (rw_Record y1)] from L5.put_box5 (S5.out) 2 rfl 3 (.slice y1.a y1.l.length y1.c))
  clear S5
  have hh := Bag.cs4 S6.out 1 rfl
  have f0 := hh.1; have f1 := hh.2.1; have f2 := hh.2.2.1; have f3 := hh.2.2.2; clear hh
  have hh := Bag.cs4 S6.out 2 rfl
  have f4 := hh.1; have f5 := hh.2.1; have f6 := hh.2.2.1; have f7 := hh.2.2.2; clear hh
  have hh := Bag.fs4 S6.out 1 rfl
  have z0 := hh.1; have z1 := hh.2.1; have z2 := hh.2.2.1; have z3 := hh.2.2.2; clear hh
  go_wp2_with fail
  clear f0 f1 f2 f3 f4 f5 f6 f7 z0 z1 z2 z3
  have S7 := Lib.hid (show Sl.Sep w _ [L4.boxR w.heap.size 109 #[.int .i64 z.k.kind, .int .i64 z.k.n, .string z.k.text, .slice z.a z.l.length z.c], L4.boxR (w.heap.size + 1) 72 #[.int .i64 z.k.kind, .int .i64 z.k.n, .string z.k.text, .slice y1.a y1.l.length y1.c], L4.boxR g1 72 #[.int .i64 z.k.kind, .int .i64 z.k.n, .string z.k.text, .slice y1.a y1.l.length y1.c], Bag.bag (rw_Record y1)] from L5.put_box5 (L5.put_box5 (L5.put_box5 (L5.put_box5 (S6.out) 1 rfl 0 (.int .i64 z.k.kind)) 1 rfl 1 (.int .i64 z.k.n)) 1 rfl 2 (.string z.k.text)) 1 rfl 3 (.slice y1.a y1.l.length y1.c))
  clear S6
  have hh := Bag.cs4 S7.out 1 rfl
  have f0 := hh.1; have f1 := hh.2.1; have f2 := hh.2.2.1; have f3 := hh.2.2.2; clear hh
  refine bodyPost_ret (v := .agg #[.int .i64 z.k.kind, .int .i64 z.k.n, .string z.k.text, .slice y1.a y1.l.length y1.c]) (by simp [results, Try.results82, go_sem, *]) rfl ?_
  clear f0 f1 f2 f3
  refine ⟨⟨z.k, y1.a, y1.c, y1.l⟩, rfl, ?_, Bag.bag_from S7.out 3 rfl, S7.out.old⟩
  show (⟨z.k, y1.l⟩ : L6.It) = ⟨z.k, z.l⟩
  rw [show y1.l = z.l from HQ1.out]
theorem info_Item : ∃ i, Try.prog.info? 72 = some i ∧ i.zero = some (.agg #[.int .i64 0, .int .i64 0, .string ⟨#[]⟩, .slice none 0 0]) ∧ i.size = 4 ∧ i.bytes = 56 := Ex.infoOf _ _ _ _ (by kernel_rfl)
set_option maxHeartbeats 4000000 in
theorem to_ItemS (a : Option Addr) (c : Nat) (xs : List L6.LI) (hf : wsum wt_Item (coS_Item xs) ≤ 1048576) (w : World) (hr : Reads w w.heap.size a (xs.flatMap cl_Item)) (hx : RowsRd w w.heap.size (rws_Item xs)) :
    Calls Try.prog 67 #[.slice a xs.length c] w fun e w' => ∃ a' c' ys, e = .returned (.slice a' ys.length c') ∧ coS_Item ys = coS_Item xs ∧ BagOwn w' w.heap.size (rs_Item a' c' ys) ∧ Below w.heap.size w w' := by
  obtain ⟨i0, hi1, hi2, hi3, hi4⟩ := info_Item
  have HI := Lib.hid (And.intro hi1 (And.intro hi2 (And.intro hi3 hi4)))
  clear hi1 hi2 hi3 hi4
  rw [coS_Item_eq] at hf
  have HR := Lib.hid (fun w' (h : Below w.heap.size w w') => hr.below h)
  have HX := Lib.hid (fun w' (h : Below w.heap.size w w') => (hx.below h).more h.size)
  have HF := Lib.hid hf
  have hl : xs.length ≤ 1048576 := by have := wsum_len wt_Item (xs.map co_Item); rw [List.length_map] at this; omega
  obtain ⟨N, hN⟩ : ∃ n, n = xs.length := ⟨_, rfl⟩
  rw [← hN] at hl ⊢
  have hl' : (N : Int) ≤ 1048576 := by omega
  have HN := Lib.hid hN
  clear hN hr hx hf
  obtain ⟨Z, hZ⟩ : ∃ Z, Z = (madeCells (Value.agg #[.int .i64 0, .int .i64 0, .string ⟨#[]⟩, .slice none 0 0]).cells (N * 4)).toList := ⟨_, rfl⟩
  have HZ := Lib.hid (show Z.length = N * 4 by rw [hZ]; simp [madeCells])
  have HZD := Lib.hid hZ
  clear hZ
  have S1 := Lib.hid (show Sl.Sep w w [] from Sl.Sep.start w)
  go_enter Try.func67, Try.ntmps67
  go_upto_region 2 with (at_make; refine Run.wpList_make_s S1.out rfl _ _ 42 rfl 72 i0 (.agg #[.int .i64 0, .int .i64 0, .string ⟨#[]⟩, .slice none 0 0]) 4 Try.underlying42 HI.out.1 HI.out.2.1 HI.out.2.2.1 _ _ N rfl rfl (by rw [HI.out.2.2.2]; omega) (by unfold maxLen; omega) ?_; intro w1 S')
  obtain ⟨g1, hg⟩ : ∃ g', g' = w.heap.size := ⟨_, rfl⟩
  rw [← hg] at S' ⊢
  clear hg
  have S2 := Lib.hid (show Sl.Sep w _ [Sv.ownV 72 4 (some ⟨g1, 0, none⟩) N N (([] : List L6.LI).flatMap cl_Item ++ Z)] from (by have h := S'; rw [← HZD.out] at h; exact h))
  clear S1
  clear S'
  have S3 := Lib.hid (show Sl.Sep w _ [Sv.ownV 72 4 (some ⟨g1, 0, none⟩) N N (([] : List L6.LI).flatMap cl_Item ++ Z), Bag.bag (rws_Item [])] from Bag.push_bag S2.out (Below.refl _ _) (by rw [rws_Item_eq]; exact Bag.BagOwn.nil _ _))
  clear S2
  go_wp2_with fail
  go_loopw [4] (fun i wr => ∃ (k : Nat) (ys : List L6.LI) (Zs : List Value), k ≤ N ∧ i = .int .i64 k ∧ Hid ((ys.map co_Item = (xs.take k).map co_Item ∧ ys.length = k ∧ Zs.length = (N - k) * 4) ∧ Sl.Sep w wr [Sv.ownV 72 4 (some ⟨g1, 0, none⟩) N N (ys.flatMap cl_Item ++ Zs), Bag.bag (rws_Item ys)])) (fun i _ => N - (intOf i).toNat)
  case atStart => exact ⟨0, [], Z, Nat.zero_le _, rfl, And.intro ⟨rfl, rfl, HZ.out⟩ S3.out⟩
  case round =>
    obtain ⟨k, ys, Zs, hk, rfl, hrel⟩ := hrel
    have HC := Lib.hid hrel.out.1
    have S4 := Lib.hid hrel.out.2
    clear hrel S3
    by_cases hlt : (k : Int) < (N : Int)
    · skip
      have hkl : k < xs.length := by have := HN.out; omega
      obtain ⟨x, hx⟩ : ∃ x, xs[k]? = some x := ⟨_, List.getElem?_eq_getElem hkl⟩
      obtain ⟨ad, e'⟩ := el_some cl_Item_len (by decide) (HR.out _ S4.out.old) hkl
      subst e'
      have HK := Lib.hid (fun w' (h : Below w.heap.size w w') => el4 cl_Item_len (HR.out _ h) hx rfl)
      have HTX := Lib.hid (take_next hx)
      have HL := Lib.hid (show (ys.flatMap cl_Item).length = k * 4 ∧ k * 4 + 4 ≤ (ys.flatMap cl_Item ++ Zs).length ∧ 4 ≤ Zs.length from by have h1 := HC.out.2.1; have h2 := HC.out.2.2; rw [List.length_append, flat_len cl_Item_len, h1, h2]; omega)
      have HCI := Lib.hid (fun w' (h : Below w.heap.size w w') => to_Item x (by have h1 := wsum_mem (f := wt_Item) (List.mem_map.2 ⟨x, List.mem_of_getElem? hx, rfl⟩ : co_Item x ∈ xs.map co_Item); have h2 := HF.out; omega) w' (rd_el (rw_ := rw_Item) (by rw [← rws_Item_eq]; exact HX.out w' h) hx))
      dsimp only [vv_Item] at HCI
      clear hx
      have hh := HK.out _ S4.out.old
      have f0 := hh.1; have f1 := hh.2.1; have f2 := hh.2.2.1; have f3 := hh.2.2.2; clear hh
      go_wp2_with fail
      go_at_call 82
      refine (HCI.out _ S4.out.old).mono ?_
      rintro e w2 ⟨y, rfl, hcy, ho, hb⟩
      clear f0 f1 f2 f3
      have S5 := Lib.hid (show Sl.Sep w _ [Sv.ownV 72 4 (some ⟨g1, 0, none⟩) N N (ys.flatMap cl_Item ++ Zs), Bag.bag (rws_Item ys), Bag.bag (rw_Item y)] from Bag.push_bag S4.out hb ho)
      clear S4
      clear hb ho
      have HCY := Lib.hid hcy
      clear hcy
      try dsimp only [vv_Item]
      have q0 := (Sv.own_at S5.out 0 rfl).cell (k * 4) (by have := HL.out.2.1; omega)
      have z0 := (Sv.own_at S5.out 0 rfl).free (k * 4)
      have q1 := (Sv.own_at S5.out 0 rfl).cell (k * 4 + 1) (by have := HL.out.2.1; omega)
      have z1 := (Sv.own_at S5.out 0 rfl).free (k * 4 + 1)
      have q2 := (Sv.own_at S5.out 0 rfl).cell (k * 4 + 2) (by have := HL.out.2.1; omega)
      have z2 := (Sv.own_at S5.out 0 rfl).free (k * 4 + 2)
      have q3 := (Sv.own_at S5.out 0 rfl).cell (k * 4 + 3) (by have := HL.out.2.1; omega)
      have z3 := (Sv.own_at S5.out 0 rfl).free (k * 4 + 3)
      go_wp2_with fail
      clear q0 z0 q1 z1 q2 z2 q3 z3
      have S6 := Lib.hid (show Sl.Sep w (World.setCells w2 g1 (k * 4) [.int .i64 y.k.kind, .int .i64 y.k.n, .string y.k.text, .slice y.a y.l.length y.c]) [Sv.ownV 72 4 (some ⟨g1, 0, none⟩) N N ((ys ++ [y]).flatMap cl_Item ++ Zs.drop 4), Bag.bag (rws_Item ys), Bag.bag (rw_Item y)] from (by have h := Run.put_run S5.out 0 rfl (k * 4) [.int .i64 y.k.kind, .int .i64 y.k.n, .string y.k.text, .slice y.a y.l.length y.c] (by have := HL.out.2.1; simpa using this); rw [Run.over_at _ _ _ _ HL.out.1 (by have := HL.out.2.2; simpa using this)] at h; rw [List.flatMap_append, List.append_assoc]; exact h))
      clear S5
      have S7 := Lib.hid (show Sl.Sep w _ [Sv.ownV 72 4 (some ⟨g1, 0, none⟩) N N ((ys ++ [y]).flatMap cl_Item ++ Zs.drop 4), Bag.bag (rws_Item ys ++ (rw_Item y)), Bag.bag ([])] from Bag.bag_join S6.out 1 2 (by decide) rfl rfl)
      clear S6
      have S8 := Lib.hid (show Sl.Sep w _ [Sv.ownV 72 4 (some ⟨g1, 0, none⟩) N N ((ys ++ [y]).flatMap cl_Item ++ Zs.drop 4), Bag.bag (rws_Item ys ++ (rw_Item y))] from Bag.take S7.out [0, 1] (by rfl) (by decide))
      clear S7
      go_roundw
      case rel =>
        refine ⟨k + 1, ys ++ [y], Zs.drop 4, by omega, by go_num, And.intro ⟨?_, ?_, ?_⟩ ?_⟩
        · rw [HTX.out, List.map_append, List.map_append, HC.out.1]; rw [show [y].map co_Item = [x].map co_Item from congrArg (fun u => [u]) HCY.out]
        · rw [List.length_append, HC.out.2.1]; rfl
        · rw [List.length_drop, HC.out.2.2]; omega
        · rw [rws_Item_app]; rw [show rws_Item [y] = rw_Item y from by rw [rws_Item_eq]; simp]; exact S8.out
      case measure => simp [intOf]; omega
    · skip
      obtain rfl : k = N := by omega
      go_wp2_with fail
      go_ret
      obtain ⟨hc1, hc2, hc3⟩ := HC.out
      have hZs : Zs = [] := List.eq_nil_of_length_eq_zero (by rw [hc3]; omega)
      have hcon : ys.map co_Item = xs.map co_Item := by rw [hc1, List.take_of_length_le (by have := HN.out; omega)]
      have S90 := Lib.hid (Bag.bag_of_one S4.out 0 (r := row_Item (some ⟨g1, 0, none⟩) k ys) (by unfold RowS.res row_Item; dsimp only; rw [hZs, List.append_nil, hc2]; rfl))
      have S91 := Lib.hid (Bag.bag_join S90.out 0 1 (by decide) rfl rfl)
      have hb := Bag.bag_from S91.out 0 rfl
      subst hc2
      exact ⟨_, _, ys, rfl, by rw [coS_Item_eq, coS_Item_eq]; exact hcon, hb, S91.out.old⟩
set_option maxHeartbeats 4000000 in
theorem sz_Item (z : L6.LI) (q : Int) (hw : Wide_Item z) (hq0 : -1 ≤ q) (hq1 : q ≤ 1048576) (w : World) (hr : RowsRd w w.heap.size (rw_Item z)) : Calls Try.prog 80 #[vv_Item z, .int .i64 q] w fun e w' => e = .returned (.int .i64 (lft q (wt_Item (co_Item z)))) ∧ Below w.heap.size w w' := by
  have HS0 := Lib.hid (fun (m : Int) (h0 : -1 ≤ m) (h1 : m ≤ 1048576) w' => sz_Key z.k m (hw.1) h0 h1 w')
  dsimp only [vv_Key] at HS0
  have HS1 := Lib.hid (fun (m : Int) (h0 : -1 ≤ m) (h1 : m ≤ 1048576) w' (h : Below w.heap.size w w') => sz_Record (⟨z.a, z.c, z.l⟩ : LRecord) m (hw.2) h0 h1 w' (((hr).below h).more h.size))
  try dsimp only [vv_Record] at HS1
  have HW := Lib.hid (wt_Item_parts z)
  clear hw hr
  unfold vv_Item
  have S1 := Lib.hid (show Sl.Sep w (w.alloc (.cells #[.int .i64 z.k.kind, .int .i64 z.k.n, .string z.k.text, .slice z.a z.l.length z.c] 109)) [L4.boxR w.heap.size 109 #[.int .i64 z.k.kind, .int .i64 z.k.n, .string z.k.text, .slice z.a z.l.length z.c]] from L4.push_box (Sl.Sep.start w) 109 #[.int .i64 z.k.kind, .int .i64 z.k.n, .string z.k.text, .slice z.a z.l.length z.c] (w.heap.size) (by simp))
  obtain ⟨wa, hwa⟩ : ∃ u, u = (w.alloc (.cells #[.int .i64 z.k.kind, .int .i64 z.k.n, .string z.k.text, .slice z.a z.l.length z.c] 109)) := ⟨_, rfl⟩
  rw [← hwa] at S1
  go_enter Try.func80, Try.ntmps80
  go_upto_region 1 with fail
  rw [← hwa]
  clear hwa
  have hh := Bag.cs4 S1.out 0 rfl
  have f0 := hh.1; have f1 := hh.2.1; have f2 := hh.2.2.1; have f3 := hh.2.2.2; clear hh
  obtain ⟨u0, hu⟩ : ∃ u, lft q (wt_Key (co_Key z.k)) = u := ⟨_, rfl⟩
  have hc0 := lft_cases hu
  have hr0 := lft_range (q := q) (wt_Key (co_Key z.k)) (by omega)
  rw [hu] at hr0
  have HCU := HS0.out q (by omega) (by omega)
  simp only [hu] at HCU
  replace HCU := Lib.hid HCU
  clear hu
  go_wp2_with fail
  go_at_call 94
  refine (HCU.out _).mono ?_
  rintro e w1 ⟨rfl, hb⟩
  clear f0 f1 f2 f3
  have S2 := Lib.hid (S1.out.keep hb)
  clear S1
  clear hb
  have hh := Bag.cs4 S2.out 0 rfl
  have f0 := hh.1; have f1 := hh.2.1; have f2 := hh.2.2.1; have f3 := hh.2.2.2; clear hh
  clear HCU
  by_cases hn0 : u0 < 0
  · have hm1 : u0 = -1 := by omega
    subst hm1
    go_wp2_with fail
    go_ret
    exact ⟨by rw [HW.out, lft_neg (by omega)] <;> rfl, S2.out.old⟩
  · skip
    obtain ⟨u1, hu⟩ : ∃ u, lft u0 (wt_Record (co_Record (⟨z.a, z.c, z.l⟩ : LRecord))) = u := ⟨_, rfl⟩
    have hc1 := lft_cases hu
    have hr1 := lft_range (q := u0) (wt_Record (co_Record (⟨z.a, z.c, z.l⟩ : LRecord))) (by omega)
    rw [hu] at hr1
    have HCU := HS1.out u0 (by omega) (by omega)
    simp only [hu] at HCU
    replace HCU := Lib.hid HCU
    clear hu
    go_wp2_with fail
    go_at_call 95
    refine (HCU.out _ S2.out.old).mono ?_
    rintro e w2 ⟨rfl, hb⟩
    clear f0 f1 f2 f3
    have S3 := Lib.hid (S2.out.keep hb)
    clear S2
    clear hb
    have hh := Bag.cs4 S3.out 0 rfl
    have f0 := hh.1; have f1 := hh.2.1; have f2 := hh.2.2.1; have f3 := hh.2.2.2; clear hh
    clear HCU
    by_cases hn1 : u1 < 0
    · have hm1 : u1 = -1 := by omega
      subst hm1
      go_wp2_with fail
      go_ret
      exact ⟨by rw [HW.out, lft_neg (by omega)] <;> rfl, S3.out.old⟩
    · skip
      go_wp2_with fail
      go_ret
      exact ⟨by rw [HW.out, lft_pos (by omega)] <;> first | rfl | (refine congrArg (fun i => Ending.returned (.int .i64 i)) ?_; omega), S3.out.old⟩
set_option maxHeartbeats 4000000 in
theorem sz_ItemS (a : Option Addr) (c : Nat) (xs : List L6.LI) (q : Int) (hw : ∀ x ∈ xs, Wide_Item x) (hm : xs.length ≤ maxLen) (hq0 : -1 ≤ q) (hq1 : q ≤ 1048576) (w : World) (hr : Reads w w.heap.size a (xs.flatMap cl_Item)) (hx : RowsRd w w.heap.size (rws_Item xs)) :
    Calls Try.prog 62 #[.slice a xs.length c, .int .i64 q] w fun e w' => e = .returned (.int .i64 (lft q (wsum wt_Item (coS_Item xs)))) ∧ Below w.heap.size w w' := by
  have HR := Lib.hid (fun w' (h : Below w.heap.size w w') => hr.below h)
  have HX := Lib.hid (fun w' (h : Below w.heap.size w w') => (hx.below h).more h.size)
  have HWD := Lib.hid hw
  have HW := Lib.hid (show wsum wt_Item (coS_Item xs) = xs.length + fsum (fun x => wt_Item (co_Item x)) xs from by rw [coS_Item_eq, wsum_map])
  obtain ⟨N, hN⟩ : ∃ n, n = xs.length := ⟨_, rfl⟩
  rw [← hN] at hm HW ⊢
  have HN := Lib.hid hN
  have hm' : (N : Int) ≤ 9223372036854775807 := by unfold maxLen at hm; omega
  clear hN hr hx hw hm
  have S1 := Lib.hid (show Sl.Sep w w [] from Sl.Sep.start w)
  by_cases hneg : q - (N : Int) < 0
  · skip
    go_enter Try.func62, Try.ntmps62
    go_wp2_with fail
    go_ret
    exact ⟨by rw [HW.out, lft_neg (by omega)] <;> rfl, Below.refl _ _⟩
  · skip
    go_enter Try.func62, Try.ntmps62
    go_wp2_with fail
    go_loopw [1, 5] (fun lv i wr => ∃ (k : Nat) (m : Int), k ≤ N ∧ i = .int .i64 k ∧ lv = .int .i64 m ∧ 0 ≤ m ∧ m ≤ 1048576 ∧ Hid (m = q - N - (fsum (fun x => wt_Item (co_Item x)) (xs.take k) : Int) ∧ Sl.Sep w wr [])) (fun _ i _ => N - (intOf i).toNat)
    case atStart => exact ⟨0, q - N, Nat.zero_le _, rfl, rfl, by omega, by omega, And.intro (by rw [List.take_zero, fsum_nil]; omega) S1.out⟩
    case round =>
      obtain ⟨k, m, hk, rfl, rfl, hm0, hm1, hrel⟩ := hrel
      have HA := Lib.hid hrel.out.1
      have S2 := Lib.hid hrel.out.2
      clear hrel S1
      by_cases hlt : (k : Int) < (N : Int)
      · skip
        have hkl : k < xs.length := by have := HN.out; omega
        obtain ⟨x, hx⟩ : ∃ x, xs[k]? = some x := ⟨_, List.getElem?_eq_getElem hkl⟩
        obtain ⟨ad, e'⟩ := el_some cl_Item_len (by decide) (HR.out _ S2.out.old) (List.getElem?_eq_some_iff.1 hx).1
        subst e'
        have HK := Lib.hid (fun w' (h : Below w.heap.size w w') => el4 cl_Item_len (HR.out _ h) hx rfl)
        have HAT := Lib.hid (fsum_at (f := (fun x => wt_Item (co_Item x))) hx)
        have HTK := Lib.hid (fsum_take (f := (fun x => wt_Item (co_Item x))) hx)
        try dsimp only at HAT HTK
        obtain ⟨fx, hfx⟩ : ∃ u, wt_Item (co_Item x) = u := ⟨_, rfl⟩
        rw [hfx] at HAT HTK
        obtain ⟨u, hu⟩ : ∃ u, lft m fx = u := ⟨_, rfl⟩
        have hcu := lft_cases hu
        have hru := lft_range (q := m) fx (by omega)
        rw [hu] at hru
        have HSI := fun w' (h : Below w.heap.size w w') => sz_Item x m (HWD.out x (List.mem_of_getElem? hx)) (by omega) hm1 w' (rd_el (rw_ := rw_Item) (by rw [← rws_Item_eq]; exact HX.out w' h) hx)
        rw [hfx, hu] at HSI
        dsimp only [vv_Item] at HSI
        replace HSI := Lib.hid HSI
        clear hfx hu hx
        have hh := HK.out _ S2.out.old
        have f0 := hh.1; have f1 := hh.2.1; have f2 := hh.2.2.1; have f3 := hh.2.2.2; clear hh
        go_wp2_with fail
        go_at_call 80
        refine (HSI.out _ S2.out.old).mono ?_
        rintro e w1 ⟨rfl, hb⟩
        clear f0 f1 f2 f3
        have S3 := Lib.hid (S2.out.keep hb)
        clear S2
        clear hb
        by_cases h0 : u < 0
        · have hm1' : u = -1 := by omega
          subst hm1'
          go_wp2_with fail
          go_ret
          exact ⟨by rw [HW.out, lft_neg (by have := HA.out; have := HAT.out; omega)] <;> rfl, S3.out.old⟩
        · skip
          go_wp2_with fail
          go_roundw
          case rel => exact ⟨k + 1, u, by omega, by go_num, rfl, by omega, by omega, And.intro (by rw [HTK.out]; have := HA.out; omega) S3.out⟩
          case measure => simp [intOf]; omega
      · skip
        obtain rfl : k = N := by omega
        have HT := HA.out
        rw [List.take_of_length_le (Nat.le_of_eq HN.out.symm)] at HT
        go_wp2_with fail
        go_ret
        exact ⟨by rw [HW.out, lft_pos (by omega)] <;> first | rfl | (refine congrArg (fun i => Ending.returned (.int .i64 i)) ?_; omega), S2.out.old⟩
set_option maxHeartbeats 4000000 in
theorem eq_Item (y z : L6.LI) (hc : co_Item y = co_Item z) (hf : wt_Item (co_Item y) ≤ 1125899906842624) (w : World) (hr : RowsRd w w.heap.size (rw_Item y)) (hr2 : RowsRd w w.heap.size (rw_Item z)) : Calls Try.prog 90 #[vv_Item y, vv_Item z] w fun e w' => e = .returned (.bool true) ∧ Below w.heap.size w w' := by
  have hfp := hf
  rw [wt_Item_parts] at hfp
  have ee0 : z.k = y.k := (show y.k = z.k from congrArg L6.It.k (hc)).symm
  have ee1 : z.l.length = y.l.length := (congrArg List.length (show y.l = z.l from congrArg L6.It.l (hc))).symm
  have HE0 := Lib.hid (fun w' => eq_Key y.k w')
  dsimp only [vv_Key] at HE0
  have HE1 := Lib.hid (fun w' (h : Below w.heap.size w w') => eq_Record (⟨y.a, y.c, y.l⟩ : LRecord) (⟨z.a, z.c, z.l⟩ : LRecord) (by have h := congrArg L6.It.l hc; exact h) (by omega) w' (((hr).below h).more h.size) (((hr2).below h).more h.size))
  try dsimp only [vv_Record] at HE1
  simp only [ee0, ee1] at HE1
  have hv : vv_Item z = .agg #[.int .i64 y.k.kind, .int .i64 y.k.n, .string y.k.text, .slice z.a y.l.length z.c] := by unfold vv_Item; simp only [ee0, ee1]
  rw [hv]
  clear hv hfp hf hc hr hr2 ee0 ee1
  unfold vv_Item
  have S1 := Lib.hid (show Sl.Sep w ((w.alloc (.cells #[.int .i64 y.k.kind, .int .i64 y.k.n, .string y.k.text, .slice y.a y.l.length y.c] 72)).alloc (.cells #[.int .i64 y.k.kind, .int .i64 y.k.n, .string y.k.text, .slice z.a y.l.length z.c] 72)) [L4.boxR w.heap.size 72 #[.int .i64 y.k.kind, .int .i64 y.k.n, .string y.k.text, .slice y.a y.l.length y.c], L4.boxR (w.heap.size + 1) 72 #[.int .i64 y.k.kind, .int .i64 y.k.n, .string y.k.text, .slice z.a y.l.length z.c]] from L4.push_box (L4.push_box (Sl.Sep.start w) 72 #[.int .i64 y.k.kind, .int .i64 y.k.n, .string y.k.text, .slice y.a y.l.length y.c] (w.heap.size) (by simp)) 72 #[.int .i64 y.k.kind, .int .i64 y.k.n, .string y.k.text, .slice z.a y.l.length z.c] (w.heap.size + 1) (by simp))
  obtain ⟨wa, hwa⟩ : ∃ u, u = ((w.alloc (.cells #[.int .i64 y.k.kind, .int .i64 y.k.n, .string y.k.text, .slice y.a y.l.length y.c] 72)).alloc (.cells #[.int .i64 y.k.kind, .int .i64 y.k.n, .string y.k.text, .slice z.a y.l.length z.c] 72)) := ⟨_, rfl⟩
  rw [← hwa] at S1
  go_enter Try.func90, Try.ntmps90
  go_upto_region 1 with fail
  rw [← hwa]
  clear hwa
  have hh := Bag.cs4 S1.out 0 rfl
  have f0 := hh.1; have f1 := hh.2.1; have f2 := hh.2.2.1; have f3 := hh.2.2.2; clear hh
  have hh := Bag.cs4 S1.out 1 rfl
  have f4 := hh.1; have f5 := hh.2.1; have f6 := hh.2.2.1; have f7 := hh.2.2.2; clear hh
  go_wp2_with fail
  go_at_call 108
  refine (HE0.out _).mono ?_
  rintro e w1 ⟨rfl, hb⟩
  clear f0 f1 f2 f3 f4 f5 f6 f7
  have S2 := Lib.hid (S1.out.keep hb)
  clear S1
  clear hb
  have hh := Bag.cs4 S2.out 0 rfl
  have f0 := hh.1; have f1 := hh.2.1; have f2 := hh.2.2.1; have f3 := hh.2.2.2; clear hh
  have hh := Bag.cs4 S2.out 1 rfl
  have f4 := hh.1; have f5 := hh.2.1; have f6 := hh.2.2.1; have f7 := hh.2.2.2; clear hh
  go_wp2_with fail
  go_at_call 109
  refine (HE1.out _ S2.out.old).mono ?_
  rintro e w2 ⟨rfl, hb⟩
  clear f0 f1 f2 f3 f4 f5 f6 f7
  have S3 := Lib.hid (S2.out.keep hb)
  clear S2
  clear hb
  have hh := Bag.cs4 S3.out 0 rfl
  have f0 := hh.1; have f1 := hh.2.1; have f2 := hh.2.2.1; have f3 := hh.2.2.2; clear hh
  have hh := Bag.cs4 S3.out 1 rfl
  have f4 := hh.1; have f5 := hh.2.1; have f6 := hh.2.2.1; have f7 := hh.2.2.2; clear hh
  go_wp2_with fail
  go_ret
  exact ⟨rfl, S3.out.old⟩
set_option maxHeartbeats 4000000 in
theorem eq_ItemS (a a2 : Option Addr) (c c2 : Nat) (xs xs2 : List L6.LI) (hc : coS_Item xs = coS_Item xs2) (hf : wsum wt_Item (coS_Item xs) ≤ 1125899906842624) (w : World) (hr : Reads w w.heap.size a (xs.flatMap cl_Item)) (hx : RowsRd w w.heap.size (rws_Item xs)) (hr2 : Reads w w.heap.size a2 (xs2.flatMap cl_Item)) (hx2 : RowsRd w w.heap.size (rws_Item xs2)) :
    Calls Try.prog 73 #[.slice a xs.length c, .slice a2 xs2.length c2] w fun e w' => e = .returned (.bool true) ∧ Below w.heap.size w w' := by
  have hlen : xs2.length = xs.length := by have h := congrArg List.length hc; rw [coS_Item_eq, coS_Item_eq, List.length_map, List.length_map] at h; exact h.symm
  have hl : xs.length ≤ 1125899906842624 := by have := wsum_len wt_Item (coS_Item xs); rw [coS_Item_eq, List.length_map] at this; rw [coS_Item_eq] at hf; omega
  have HR := Lib.hid (fun w' (h : Below w.heap.size w w') => hr.below h)
  have HR2 := Lib.hid (fun w' (h : Below w.heap.size w w') => hr2.below h)
  have HX := Lib.hid (fun w' (h : Below w.heap.size w w') => (hx.below h).more h.size)
  have HX2 := Lib.hid (fun w' (h : Below w.heap.size w w') => (hx2.below h).more h.size)
  rw [coS_Item_eq] at hf
  have HF := Lib.hid hf
  have HS := Lib.hid (show xs.map co_Item = xs2.map co_Item from by rw [← coS_Item_eq, ← coS_Item_eq]; exact hc)
  obtain ⟨N, hN⟩ : ∃ n, n = xs.length := ⟨_, rfl⟩
  rw [hlen, ← hN]
  rw [← hN] at hl
  have hl' : (N : Int) ≤ 1125899906842624 := by omega
  have HN := Lib.hid hN
  clear hN hr hr2 hx hx2 hf hc hlen
  have S1 := Lib.hid (show Sl.Sep w w [] from Sl.Sep.start w)
  go_enter Try.func73, Try.ntmps73
  go_wp2_with fail
  go_loopw [5] (fun i wr => ∃ k : Nat, k ≤ N ∧ i = .int .i64 k ∧ Hid (Sl.Sep w wr [])) (fun i _ => N - (intOf i).toNat)
  case atStart => exact ⟨0, Nat.zero_le _, rfl, S1.out⟩
  case round =>
    obtain ⟨k, hk, rfl, hrel⟩ := hrel
    have S2 := Lib.hid hrel.out
    clear hrel S1
    by_cases hlt : (k : Int) < (N : Int)
    · skip
      have hkl : k < xs.length := by have := HN.out; omega
      obtain ⟨x, hx⟩ : ∃ x, xs[k]? = some x := ⟨_, List.getElem?_eq_getElem hkl⟩
      obtain ⟨ad, e'⟩ := el_some cl_Item_len (by decide) (HR.out _ S2.out.old) (List.getElem?_eq_some_iff.1 hx).1
      subst e'
      have HK := Lib.hid (fun w' (h : Below w.heap.size w w') => el4 cl_Item_len (HR.out _ h) hx rfl)
      obtain ⟨x2, hx2, hcx⟩ := map_same HS.out hx
      obtain ⟨ad2, e'⟩ := el_some cl_Item_len (by decide) (HR2.out _ S2.out.old) (List.getElem?_eq_some_iff.1 hx2).1
      subst e'
      have HK2 := Lib.hid (fun w' (h : Below w.heap.size w w') => el4 cl_Item_len (HR2.out _ h) hx2 rfl)
      have ee0 : x2.k = x.k := (show x.k = x2.k from congrArg L6.It.k (hcx.symm)).symm
      have ee1 : x2.l.length = x.l.length := (congrArg List.length (show x.l = x2.l from congrArg L6.It.l (hcx.symm))).symm
      have HEQ := fun w' (h : Below w.heap.size w w') => eq_Item x x2 hcx.symm (by have h1 := wsum_mem (f := wt_Item) (List.mem_map.2 ⟨x, List.mem_of_getElem? hx, rfl⟩ : co_Item x ∈ xs.map co_Item); have h2 := HF.out; omega) w' (rd_el (rw_ := rw_Item) (by rw [← rws_Item_eq]; exact HX.out w' h) hx) (rd_el (rw_ := rw_Item) (by rw [← rws_Item_eq]; exact HX2.out w' h) hx2)
      dsimp only [vv_Item] at HEQ
      try dsimp only [cl_Item] at HK2
      simp only [ee0, ee1] at HEQ HK2
      replace HEQ := Lib.hid HEQ
      clear hcx ee0 ee1
      try dsimp only [vv_Item] at HEQ
      clear hx hx2
      go_upto_region 6 with fail
      refine wp_region_held_drew (S := (fun w' => (World.cell? w' (ad.add (k * 4)) = some (.int .i64 x.k.kind) ∧ World.cell? w' (⟨(ad.add (k * 4)).block, (ad.add (k * 4)).off + 1, none⟩) = some (.int .i64 x.k.n) ∧ World.cell? w' (⟨(ad.add (k * 4)).block, (ad.add (k * 4)).off + 2, none⟩) = some (.string x.k.text) ∧ World.cell? w' (⟨(ad.add (k * 4)).block, (ad.add (k * 4)).off + 3, none⟩) = some (.slice x.a x.l.length x.c)) ∧ (World.cell? w' (ad2.add (k * 4)) = some (.int .i64 x.k.kind) ∧ World.cell? w' (⟨(ad2.add (k * 4)).block, (ad2.add (k * 4)).off + 1, none⟩) = some (.int .i64 x.k.n) ∧ World.cell? w' (⟨(ad2.add (k * 4)).block, (ad2.add (k * 4)).off + 2, none⟩) = some (.string x.k.text) ∧ World.cell? w' (⟨(ad2.add (k * 4)).block, (ad2.add (k * 4)).off + 3, none⟩) = some (.slice x2.a x.l.length x2.c)))) (by kernel_rfl) ⟨HK.out _ (Bag.drew1 S2.out).old, HK2.out _ (Bag.drew1 S2.out).old⟩ (fun hS => ?_)
      have S3 := Lib.hid (show Sl.Sep w _ [] from Bag.drew1 S2.out)
      clear S2
      generalize World.drew _ = w1 at hS S3 ⊢
      refine tk 0 rfl ?_
      try simp only [zp0, zp1, zp2, zp3, zp4]
      refine tk 1 rfl ?_
      try simp only [zp0, zp1, zp2, zp3, zp4]
      refine tk 2 rfl ?_
      try simp only [zp0, zp1, zp2, zp3, zp4]
      refine tk 3 rfl ?_
      try simp only [zp0, zp1, zp2, zp3, zp4]
      refine tk 4 rfl ?_
      try simp only [zp0, zp1, zp2, zp3, zp4]
      refine tk 5 rfl ?_
      try simp only [zp0, zp1, zp2, zp3, zp4]
      refine tk 6 rfl ?_
      try simp only [zp0, zp1, zp2, zp3, zp4]
      refine tk 7 rfl ?_
      try simp only [zp0, zp1, zp2, zp3, zp4]
      refine Reg.one_op (i := 8) rfl (by kernel_rfl) (fun K hK => ?_)
      go_simp
      go_at_call 90
      refine (HEQ.out _ S3.out.old).mono ?_
      rintro e w2 ⟨rfl, hb⟩
      have S4 := Lib.hid (S3.out.keep hb)
      clear S3
      clear hb
      go_wp2_with fail
      refine hK.out _ _ ⟨HK.out _ S4.out.old, HK2.out _ S4.out.old⟩ (fun hS => ?_)
      clear hK K
      try simp only [zp0, zp1, zp2, zp3, zp4]
      refine tk 9 rfl ?_
      try simp only [zp0, zp1, zp2, zp3, zp4]
      refine wpAnyH_done (by kernel_rfl) ?_ _
      have hh := HK.out _ S4.out.old
      have f0 := hh.1; have f1 := hh.2.1; have f2 := hh.2.2.1; have f3 := hh.2.2.2; clear hh
      have hh := HK2.out _ S4.out.old
      have f4 := hh.1; have f5 := hh.2.1; have f6 := hh.2.2.1; have f7 := hh.2.2.2; clear hh
      go_wp2_with fail
      go_roundw
      case rel => exact ⟨k + 1, by omega, by go_num, S4.out⟩
      case measure => simp [intOf]; omega
    · skip
      go_wp2_with fail
      go_ret
      exact ⟨rfl, S2.out.old⟩
end Go.Proofs.Ytboefioalkjdaaa.V

/-
  The exact laws' helpers for Store, and for slices of it: how such a value opens, its copy, its room, comparison, marks. Condition: a weight of at most 2^20 (2^50 for comparison and marks). (Written by my program gen_v.py.)
-/
namespace Go.Proofs.Ytboefioalkjdaaa.V
set_option maxRecDepth 100000
open Go.ChangeShapes Go.WideShapes Go.ChangeAt Go.RowKit Mem Sl Sv Bag
open L5 (markT)
set_option linter.unusedVariables false
set_option linter.unusedSimpArgs false
def co_Store : L6.LS → L6.S6 := L6.LS.con
def coS_Store (xs : List L6.LS) : List L6.S6 := xs.map co_Store
theorem coS_Store_eq (xs : List L6.LS) : coS_Store xs = xs.map co_Store := rfl
def cl_Store (z : L6.LS) : List Value := [.string z.name, .slice z.a z.xs.length z.c, .int .i64 z.auto]
def vv_Store (z : L6.LS) : Value := .agg #[.string z.name, .slice z.a z.xs.length z.c, .int .i64 z.auto]
def rw_Store (z : L6.LS) : List RowS := rs_Item z.a z.c z.xs
def wt_Store (c : L6.S6) : Nat := c.name.size + (wsum wt_Item c.items)
theorem wt_Store_parts (z : L6.LS) : wt_Store (co_Store z) = z.name.size + (wsum wt_Item (coS_Item z.xs)) := rfl
theorem cl_Store_len (z : L6.LS) : (cl_Store z).length = 3 := rfl
def row_Store (a : Option Addr) (c : Nat) (xs : List L6.LS) : RowS := ⟨44, 3, a, c, xs.length, xs.flatMap cl_Store⟩
def rws_Store (xs : List L6.LS) : List RowS := xs.flatMap rw_Store
theorem rws_Store_eq (xs : List L6.LS) : rws_Store xs = xs.flatMap rw_Store := rfl
def rs_Store (a : Option Addr) (c : Nat) (xs : List L6.LS) : List RowS := row_Store a c xs :: rws_Store xs
theorem rws_Store_app (xs ys : List L6.LS) : rws_Store (xs ++ ys) = rws_Store xs ++ rws_Store ys := by rw [rws_Store_eq, rws_Store_eq, rws_Store_eq, List.flatMap_append]
def Wide_Store (z : L6.LS) : Prop := z.name.size ≤ maxLen ∧ (z.xs.length ≤ maxLen ∧ ∀ x ∈ z.xs, Wide_Item x) ∧ (-9223372036854775808 ≤ z.auto ∧ z.auto ≤ 9223372036854775807)
section
variable {H : Type} {enc : TypeId × Value → H} {W : World} {b : Nat} {sp : Nat → Bool} {hd : Bool}
theorem trod_Store {fuel : Nat} {cs : List Value} {x : DataW H × List MemPlace} (h : DataW.trod enc Try.prog W b sp hd fuel 64 cs = some x) (hlt : ∀ p ∈ x.2, p.block < W.heap.size) : ∃ z : L6.LS, cs = cl_Store z ∧ RowsRd W W.heap.size (rw_Store z) ∧ Wide_Store z := by
  obtain ⟨xs, n, _, hx, hl, hlen, hf⟩ := DataW.trod_struct Try.underlying64 h
  have hlN : cs.length = 3 := hl.trans (by kernel_rfl)
  match cs, hlN with
  | [c0, c1, c2], _ =>
    have h0 : DataW.trod enc Try.prog W b sp hd n 9 (List.take (Try.prog.cellsOf 9) (List.drop 0 [c0, c1, c2])) = xs[0]? := hf 0 _ rfl
    rw [show Try.prog.cellsOf 9 = 1 by kernel_rfl, List.getElem?_eq_getElem (by rw [hlen]; decide)] at h0
    obtain ⟨x0, e0, _, w0⟩ := DataW.trod_string Try.underlying9 h0
    have h1 : DataW.trod enc Try.prog W b sp hd n 62 (List.take (Try.prog.cellsOf 62) (List.drop 1 [c0, c1, c2])) = xs[1]? := hf 1 _ rfl
    rw [show Try.prog.cellsOf 62 = 1 by kernel_rfl, List.getElem?_eq_getElem (by rw [hlen]; decide)] at h1
    obtain ⟨a1, x1, c1', e1, r1, v1, l1, w1⟩ := trods_Item h1 (fun p hp => hlt p (by rw [hx]; exact List.mem_flatMap.2 ⟨_, List.getElem_mem (show 1 < xs.length by rw [hlen]; decide), hp⟩))
    have h2 : DataW.trod enc Try.prog W b sp hd n 3 (List.take (Try.prog.cellsOf 3) (List.drop 2 [c0, c1, c2])) = xs[2]? := hf 2 _ rfl
    rw [show Try.prog.cellsOf 3 = 1 by kernel_rfl, List.getElem?_eq_getElem (by rw [hlen]; decide)] at h2
    obtain ⟨x2, e2, _, w2⟩ := DataW.trod_int Try.underlying3 h2
    simp only [List.drop_succ_cons, List.drop_zero, List.take_succ_cons, List.take_zero, List.cons.injEq, and_true] at e0
    subst e0
    simp only [List.drop_succ_cons, List.drop_zero, List.take_succ_cons, List.take_zero, List.cons.injEq, and_true] at e1
    subst e1
    simp only [List.drop_succ_cons, List.drop_zero, List.take_succ_cons, List.take_zero, List.cons.injEq, and_true] at e2
    subst e2
    exact ⟨⟨x0, a1, c1', x1, x2⟩, rfl, rd_cons ⟨r1.1, r1.2.1, r1.2.2⟩ (by rw [rws_Item_eq]; exact v1), ⟨w0, ⟨l1, w1⟩, Law.wf_i64 w2⟩⟩
theorem trods_Store {fuel : Nat} {cs : List Value} {x : DataW H × List MemPlace} (h : DataW.trod enc Try.prog W b sp hd fuel 22 cs = some x) (hlt : ∀ p ∈ x.2, p.block < W.heap.size) :
    ∃ (a : Option Addr) (xs : List L6.LS) (c : Nat), cs = [.slice a xs.length c] ∧ (Reads W W.heap.size a (xs.flatMap cl_Store) ∧ xs.length ≤ c ∧ (a = none → c = 0)) ∧ RowsRd W W.heap.size (xs.flatMap rw_Store) ∧ xs.length ≤ maxLen ∧ ∀ z ∈ xs, Wide_Store z :=
  trods cl_Store 3 cl_Store_len (by decide) rw_Store Wide_Store 22 64 Try.underlying22 (by kernel_rfl) (fun h hl => trod_Store h hl) h hlt
end
set_option maxHeartbeats 4000000 in
theorem to_Store (z : L6.LS) (hf : wt_Store (co_Store z) ≤ 1048576) (w : World) (hr : RowsRd w w.heap.size (rw_Store z)) : Calls Try.prog 47 #[vv_Store z] w fun e w' => ∃ y : L6.LS, e = .returned (vv_Store y) ∧ co_Store y = co_Store z ∧ BagOwn w' w.heap.size (rw_Store y) ∧ Below w.heap.size w w' := by
  have hfp := hf
  rw [wt_Store_parts] at hfp
  have HC1 := Lib.hid (fun w' (h : Below w.heap.size w w') => to_ItemS z.a z.c z.xs (by omega) w' (((rd_head hr).reads.below h).more h.size) (((rd_tail hr).below h).more h.size))
  clear hfp hf hr
  unfold vv_Store
  have S1 := Lib.hid (show Sl.Sep w ((w.alloc (.cells #[.string z.name, .slice z.a z.xs.length z.c, .int .i64 z.auto] 64)).alloc (.cells #[.string ⟨#[]⟩, .slice none 0 0, .int .i64 0] 44)) [L4.boxR w.heap.size 64 #[.string z.name, .slice z.a z.xs.length z.c, .int .i64 z.auto], L4.boxR (w.heap.size + 1) 44 #[.string ⟨#[]⟩, .slice none 0 0, .int .i64 0]] from L4.push_box (L4.push_box (Sl.Sep.start w) 64 #[.string z.name, .slice z.a z.xs.length z.c, .int .i64 z.auto] (w.heap.size) (by simp)) 44 #[.string ⟨#[]⟩, .slice none 0 0, .int .i64 0] (w.heap.size + 1) (by simp))
  obtain ⟨wa, hwa⟩ : ∃ u, u = ((w.alloc (.cells #[.string z.name, .slice z.a z.xs.length z.c, .int .i64 z.auto] 64)).alloc (.cells #[.string ⟨#[]⟩, .slice none 0 0, .int .i64 0] 44)) := ⟨_, rfl⟩
  rw [← hwa] at S1
  go_enter Try.func47, Try.ntmps47
  go_upto_region 1 with fail
  rw [← hwa]
  clear hwa
  go_upto_region 2 with fail
  have S2 := Lib.hid (show Sl.Sep w _ [L4.boxR w.heap.size 64 #[.string z.name, .slice z.a z.xs.length z.c, .int .i64 z.auto], L4.boxR (w.heap.size + 1) 44 #[.string ⟨#[]⟩, .slice none 0 0, .int .i64 0], L4.boxR wa.heap.size 44 #[.string ⟨#[]⟩, .slice none 0 0, .int .i64 0]] from L4.push_box S1.out 44 #[.string ⟨#[]⟩, .slice none 0 0, .int .i64 0] wa.heap.size rfl)
  clear S1
  obtain ⟨g1, hg⟩ : ∃ g', g' = wa.heap.size := ⟨_, rfl⟩
  rw [← hg] at S2 ⊢
  clear hg
  generalize wa.alloc (.cells #[.string ⟨#[]⟩, .slice none 0 0, .int .i64 0] 44) = w1 at S2 ⊢
  have hh := Bag.cs3 S2.out 0 rfl
  have f0 := hh.1; have f1 := hh.2.1; have f2 := hh.2.2; clear hh
  have hh := Bag.cs3 S2.out 2 rfl
  have f3 := hh.1; have f4 := hh.2.1; have f5 := hh.2.2; clear hh
  have z0 := Bag.free_at S2.out 2 rfl 0
  go_upto_region 3 with fail
  clear f0 f1 f2 f3 f4 f5 z0
  have S3 := Lib.hid (show Sl.Sep w _ [L4.boxR w.heap.size 64 #[.string z.name, .slice z.a z.xs.length z.c, .int .i64 z.auto], L4.boxR (w.heap.size + 1) 44 #[.string ⟨#[]⟩, .slice none 0 0, .int .i64 0], L4.boxR g1 44 #[.string z.name, .slice none 0 0, .int .i64 0]] from L5.put_box5 (S2.out) 2 rfl 0 (.string z.name))
  clear S2
  have hh := Bag.cs3 S3.out 0 rfl
  have f0 := hh.1; have f1 := hh.2.1; have f2 := hh.2.2; clear hh
  go_wp2_with fail
  go_at_call 67
  refine (HC1.out _ S3.out.old).mono ?_
  rintro e w2 ⟨a1', c1', y1, rfl, hc1, ho, hb⟩
  clear f0 f1 f2
  have S4 := Lib.hid (show Sl.Sep w _ [L4.boxR w.heap.size 64 #[.string z.name, .slice z.a z.xs.length z.c, .int .i64 z.auto], L4.boxR (w.heap.size + 1) 44 #[.string ⟨#[]⟩, .slice none 0 0, .int .i64 0], L4.boxR g1 44 #[.string z.name, .slice none 0 0, .int .i64 0], Bag.bag (rs_Item a1' c1' y1)] from Bag.push_bag S3.out hb ho)
  clear S3
  clear hb ho
  have HQ1 := Lib.hid hc1
  clear hc1
  have hh := Bag.cs3 S4.out 0 rfl
  have f0 := hh.1; have f1 := hh.2.1; have f2 := hh.2.2; clear hh
  have hh := Bag.cs3 S4.out 2 rfl
  have f3 := hh.1; have f4 := hh.2.1; have f5 := hh.2.2; clear hh
  have z1 := Bag.free_at S4.out 2 rfl 1
  go_upto_region 4 with fail
  clear f0 f1 f2 f3 f4 f5 z1
  have S5 := Lib.hid (show Sl.Sep w _ [L4.boxR w.heap.size 64 #[.string z.name, .slice z.a z.xs.length z.c, .int .i64 z.auto], L4.boxR (w.heap.size + 1) 44 #[.string ⟨#[]⟩, .slice none 0 0, .int .i64 0], L4.boxR g1 44 #[.string z.name, .slice a1' y1.length c1', .int .i64 0], Bag.bag (rs_Item a1' c1' y1)] from L5.put_box5 (S4.out) 2 rfl 1 (.slice a1' y1.length c1'))
  clear S4
  have hh := Bag.cs3 S5.out 0 rfl
  have f0 := hh.1; have f1 := hh.2.1; have f2 := hh.2.2; clear hh
  have hh := Bag.cs3 S5.out 2 rfl
  have f3 := hh.1; have f4 := hh.2.1; have f5 := hh.2.2; clear hh
  have z2 := Bag.free_at S5.out 2 rfl 2
  go_upto_region 5 with fail
  clear f0 f1 f2 f3 f4 f5 z2
  have S6 := Lib.hid (show Sl.Sep w _ [L4.boxR w.heap.size 64 #[.string z.name, .slice z.a z.xs.length z.c, .int .i64 z.auto], L4.boxR (w.heap.size + 1) 44 #[.string ⟨#[]⟩, .slice none 0 0, .int .i64 0], L4.boxR g1 44 #[.string z.name, .slice a1' y1.length c1', .int .i64 z.auto], Bag.bag (rs_Item a1' c1' y1)] from L5.put_box5 (S5.out) 2 rfl 2 (.int .i64 z.auto))
  clear S5
  have hh := Bag.cs3 S6.out 1 rfl
  have f0 := hh.1; have f1 := hh.2.1; have f2 := hh.2.2; clear hh
  have hh := Bag.cs3 S6.out 2 rfl
  have f3 := hh.1; have f4 := hh.2.1; have f5 := hh.2.2; clear hh
  have hh := Bag.fs3 S6.out 1 rfl
  have z0 := hh.1; have z1 := hh.2.1; have z2 := hh.2.2; clear hh
  go_wp2_with fail
  clear f0 f1 f2 f3 f4 f5 z0 z1 z2
  have S7 := Lib.hid (show Sl.Sep w _ [L4.boxR w.heap.size 64 #[.string z.name, .slice z.a z.xs.length z.c, .int .i64 z.auto], L4.boxR (w.heap.size + 1) 44 #[.string z.name, .slice a1' y1.length c1', .int .i64 z.auto], L4.boxR g1 44 #[.string z.name, .slice a1' y1.length c1', .int .i64 z.auto], Bag.bag (rs_Item a1' c1' y1)] from L5.put_box5 (L5.put_box5 (L5.put_box5 (S6.out) 1 rfl 0 (.string z.name)) 1 rfl 1 (.slice a1' y1.length c1')) 1 rfl 2 (.int .i64 z.auto))
  clear S6
  have hh := Bag.cs3 S7.out 1 rfl
  have f0 := hh.1; have f1 := hh.2.1; have f2 := hh.2.2; clear hh
  refine bodyPost_ret (v := .agg #[.string z.name, .slice a1' y1.length c1', .int .i64 z.auto]) (by simp [results, Try.results47, go_sem, *]) rfl ?_
  clear f0 f1 f2
  refine ⟨⟨z.name, a1', c1', y1, z.auto⟩, rfl, ?_, Bag.bag_from S7.out 3 rfl, S7.out.old⟩
  show (⟨z.name, coS_Item y1, z.auto⟩ : L6.S6) = (⟨z.name, coS_Item z.xs, z.auto⟩ : L6.S6)
  rw [HQ1.out]
theorem info_Store : ∃ i, Try.prog.info? 44 = some i ∧ i.zero = some (.agg #[.string ⟨#[]⟩, .slice none 0 0, .int .i64 0]) ∧ i.size = 3 ∧ i.bytes = 48 := Ex.infoOf _ _ _ _ (by kernel_rfl)
set_option maxHeartbeats 4000000 in
theorem to_StoreS (a : Option Addr) (c : Nat) (xs : List L6.LS) (hf : wsum wt_Store (coS_Store xs) ≤ 1048576) (w : World) (hr : Reads w w.heap.size a (xs.flatMap cl_Store)) (hx : RowsRd w w.heap.size (rws_Store xs)) :
    Calls Try.prog 24 #[.slice a xs.length c] w fun e w' => ∃ a' c' ys, e = .returned (.slice a' ys.length c') ∧ coS_Store ys = coS_Store xs ∧ BagOwn w' w.heap.size (rs_Store a' c' ys) ∧ Below w.heap.size w w' := by
  obtain ⟨i0, hi1, hi2, hi3, hi4⟩ := info_Store
  have HI := Lib.hid (And.intro hi1 (And.intro hi2 (And.intro hi3 hi4)))
  clear hi1 hi2 hi3 hi4
  rw [coS_Store_eq] at hf
  have HR := Lib.hid (fun w' (h : Below w.heap.size w w') => hr.below h)
  have HX := Lib.hid (fun w' (h : Below w.heap.size w w') => (hx.below h).more h.size)
  have HF := Lib.hid hf
  have hl : xs.length ≤ 1048576 := by have := wsum_len wt_Store (xs.map co_Store); rw [List.length_map] at this; omega
  obtain ⟨N, hN⟩ : ∃ n, n = xs.length := ⟨_, rfl⟩
  rw [← hN] at hl ⊢
  have hl' : (N : Int) ≤ 1048576 := by omega
  have HN := Lib.hid hN
  clear hN hr hx hf
  obtain ⟨Z, hZ⟩ : ∃ Z, Z = (madeCells (Value.agg #[.string ⟨#[]⟩, .slice none 0 0, .int .i64 0]).cells (N * 3)).toList := ⟨_, rfl⟩
  have HZ := Lib.hid (show Z.length = N * 3 by rw [hZ]; simp [madeCells])
  have HZD := Lib.hid hZ
  clear hZ
  have S1 := Lib.hid (show Sl.Sep w w [] from Sl.Sep.start w)
  go_enter Try.func24, Try.ntmps24
  go_upto_region 2 with (at_make; refine Run.wpList_make_s S1.out rfl _ _ 28 rfl 44 i0 (.agg #[.string ⟨#[]⟩, .slice none 0 0, .int .i64 0]) 3 Try.underlying28 HI.out.1 HI.out.2.1 HI.out.2.2.1 _ _ N rfl rfl (by rw [HI.out.2.2.2]; omega) (by unfold maxLen; omega) ?_; intro w1 S')
  obtain ⟨g1, hg⟩ : ∃ g', g' = w.heap.size := ⟨_, rfl⟩
  rw [← hg] at S' ⊢
  clear hg
  have S2 := Lib.hid (show Sl.Sep w _ [Sv.ownV 44 3 (some ⟨g1, 0, none⟩) N N (([] : List L6.LS).flatMap cl_Store ++ Z)] from (by have h := S'; rw [← HZD.out] at h; exact h))
  clear S1
  clear S'
  have S3 := Lib.hid (show Sl.Sep w _ [Sv.ownV 44 3 (some ⟨g1, 0, none⟩) N N (([] : List L6.LS).flatMap cl_Store ++ Z), Bag.bag (rws_Store [])] from Bag.push_bag S2.out (Below.refl _ _) (by rw [rws_Store_eq]; exact Bag.BagOwn.nil _ _))
  clear S2
  go_wp2_with fail
  go_loopw [4] (fun i wr => ∃ (k : Nat) (ys : List L6.LS) (Zs : List Value), k ≤ N ∧ i = .int .i64 k ∧ Hid ((ys.map co_Store = (xs.take k).map co_Store ∧ ys.length = k ∧ Zs.length = (N - k) * 3) ∧ Sl.Sep w wr [Sv.ownV 44 3 (some ⟨g1, 0, none⟩) N N (ys.flatMap cl_Store ++ Zs), Bag.bag (rws_Store ys)])) (fun i _ => N - (intOf i).toNat)
  case atStart => exact ⟨0, [], Z, Nat.zero_le _, rfl, And.intro ⟨rfl, rfl, HZ.out⟩ S3.out⟩
  case round =>
    obtain ⟨k, ys, Zs, hk, rfl, hrel⟩ := hrel
    have HC := Lib.hid hrel.out.1
    have S4 := Lib.hid hrel.out.2
    clear hrel S3
    by_cases hlt : (k : Int) < (N : Int)
    · skip
      have hkl : k < xs.length := by have := HN.out; omega
      obtain ⟨x, hx⟩ : ∃ x, xs[k]? = some x := ⟨_, List.getElem?_eq_getElem hkl⟩
      obtain ⟨ad, e'⟩ := el_some cl_Store_len (by decide) (HR.out _ S4.out.old) hkl
      subst e'
      have HK := Lib.hid (fun w' (h : Below w.heap.size w w') => el3 cl_Store_len (HR.out _ h) hx rfl)
      have HTX := Lib.hid (take_next hx)
      have HL := Lib.hid (show (ys.flatMap cl_Store).length = k * 3 ∧ k * 3 + 3 ≤ (ys.flatMap cl_Store ++ Zs).length ∧ 3 ≤ Zs.length from by have h1 := HC.out.2.1; have h2 := HC.out.2.2; rw [List.length_append, flat_len cl_Store_len, h1, h2]; omega)
      have HCI := Lib.hid (fun w' (h : Below w.heap.size w w') => to_Store x (by have h1 := wsum_mem (f := wt_Store) (List.mem_map.2 ⟨x, List.mem_of_getElem? hx, rfl⟩ : co_Store x ∈ xs.map co_Store); have h2 := HF.out; omega) w' (rd_el (rw_ := rw_Store) (by rw [← rws_Store_eq]; exact HX.out w' h) hx))
      dsimp only [vv_Store] at HCI
      clear hx
      have hh := HK.out _ S4.out.old
      have f0 := hh.1; have f1 := hh.2.1; have f2 := hh.2.2; clear hh
      go_wp2_with fail
      go_at_call 47
      refine (HCI.out _ S4.out.old).mono ?_
      rintro e w2 ⟨y, rfl, hcy, ho, hb⟩
      clear f0 f1 f2
      have S5 := Lib.hid (show Sl.Sep w _ [Sv.ownV 44 3 (some ⟨g1, 0, none⟩) N N (ys.flatMap cl_Store ++ Zs), Bag.bag (rws_Store ys), Bag.bag (rw_Store y)] from Bag.push_bag S4.out hb ho)
      clear S4
      clear hb ho
      have HCY := Lib.hid hcy
      clear hcy
      try dsimp only [vv_Store]
      have q0 := (Sv.own_at S5.out 0 rfl).cell (k * 3) (by have := HL.out.2.1; omega)
      have z0 := (Sv.own_at S5.out 0 rfl).free (k * 3)
      have q1 := (Sv.own_at S5.out 0 rfl).cell (k * 3 + 1) (by have := HL.out.2.1; omega)
      have z1 := (Sv.own_at S5.out 0 rfl).free (k * 3 + 1)
      have q2 := (Sv.own_at S5.out 0 rfl).cell (k * 3 + 2) (by have := HL.out.2.1; omega)
      have z2 := (Sv.own_at S5.out 0 rfl).free (k * 3 + 2)
      go_wp2_with fail
      clear q0 z0 q1 z1 q2 z2
      have S6 := Lib.hid (show Sl.Sep w (World.setCells w2 g1 (k * 3) [.string y.name, .slice y.a y.xs.length y.c, .int .i64 y.auto]) [Sv.ownV 44 3 (some ⟨g1, 0, none⟩) N N ((ys ++ [y]).flatMap cl_Store ++ Zs.drop 3), Bag.bag (rws_Store ys), Bag.bag (rw_Store y)] from (by have h := Run.put_run S5.out 0 rfl (k * 3) [.string y.name, .slice y.a y.xs.length y.c, .int .i64 y.auto] (by have := HL.out.2.1; simpa using this); rw [Run.over_at _ _ _ _ HL.out.1 (by have := HL.out.2.2; simpa using this)] at h; rw [List.flatMap_append, List.append_assoc]; exact h))
      clear S5
      have S7 := Lib.hid (show Sl.Sep w _ [Sv.ownV 44 3 (some ⟨g1, 0, none⟩) N N ((ys ++ [y]).flatMap cl_Store ++ Zs.drop 3), Bag.bag (rws_Store ys ++ (rw_Store y)), Bag.bag ([])] from Bag.bag_join S6.out 1 2 (by decide) rfl rfl)
      clear S6
      have S8 := Lib.hid (show Sl.Sep w _ [Sv.ownV 44 3 (some ⟨g1, 0, none⟩) N N ((ys ++ [y]).flatMap cl_Store ++ Zs.drop 3), Bag.bag (rws_Store ys ++ (rw_Store y))] from Bag.take S7.out [0, 1] (by rfl) (by decide))
      clear S7
      go_roundw
      case rel =>
        refine ⟨k + 1, ys ++ [y], Zs.drop 3, by omega, by go_num, And.intro ⟨?_, ?_, ?_⟩ ?_⟩
        · rw [HTX.out, List.map_append, List.map_append, HC.out.1]; rw [show [y].map co_Store = [x].map co_Store from congrArg (fun u => [u]) HCY.out]
        · rw [List.length_append, HC.out.2.1]; rfl
        · rw [List.length_drop, HC.out.2.2]; omega
        · rw [rws_Store_app]; rw [show rws_Store [y] = rw_Store y from by rw [rws_Store_eq]; simp]; exact S8.out
      case measure => simp [intOf]; omega
    · skip
      obtain rfl : k = N := by omega
      go_wp2_with fail
      go_ret
      obtain ⟨hc1, hc2, hc3⟩ := HC.out
      have hZs : Zs = [] := List.eq_nil_of_length_eq_zero (by rw [hc3]; omega)
      have hcon : ys.map co_Store = xs.map co_Store := by rw [hc1, List.take_of_length_le (by have := HN.out; omega)]
      have S90 := Lib.hid (Bag.bag_of_one S4.out 0 (r := row_Store (some ⟨g1, 0, none⟩) k ys) (by unfold RowS.res row_Store; dsimp only; rw [hZs, List.append_nil, hc2]; rfl))
      have S91 := Lib.hid (Bag.bag_join S90.out 0 1 (by decide) rfl rfl)
      have hb := Bag.bag_from S91.out 0 rfl
      subst hc2
      exact ⟨_, _, ys, rfl, by rw [coS_Store_eq, coS_Store_eq]; exact hcon, hb, S91.out.old⟩
set_option maxHeartbeats 4000000 in
theorem sz_Store (z : L6.LS) (q : Int) (hw : Wide_Store z) (hq0 : -1 ≤ q) (hq1 : q ≤ 1048576) (w : World) (hr : RowsRd w w.heap.size (rw_Store z)) : Calls Try.prog 40 #[vv_Store z, .int .i64 q] w fun e w' => e = .returned (.int .i64 (lft q (wt_Store (co_Store z)))) ∧ Below w.heap.size w w' := by
  have hs0 : (z.name.size : Int) ≤ 9223372036854775807 := by have h : z.name.size ≤ maxLen := hw.1; unfold maxLen at h; omega
  have HS1 := Lib.hid (fun (m : Int) (h0 : -1 ≤ m) (h1 : m ≤ 1048576) w' (h : Below w.heap.size w w') => sz_ItemS z.a z.c z.xs m hw.2.1.2 hw.2.1.1 h0 h1 w' (((rd_head hr).reads.below h).more h.size) (((rd_tail hr).below h).more h.size))
  have HW := Lib.hid (wt_Store_parts z)
  clear hw hr
  unfold vv_Store
  have S1 := Lib.hid (show Sl.Sep w (w.alloc (.cells #[.string z.name, .slice z.a z.xs.length z.c, .int .i64 z.auto] 64)) [L4.boxR w.heap.size 64 #[.string z.name, .slice z.a z.xs.length z.c, .int .i64 z.auto]] from L4.push_box (Sl.Sep.start w) 64 #[.string z.name, .slice z.a z.xs.length z.c, .int .i64 z.auto] (w.heap.size) (by simp))
  obtain ⟨wa, hwa⟩ : ∃ u, u = (w.alloc (.cells #[.string z.name, .slice z.a z.xs.length z.c, .int .i64 z.auto] 64)) := ⟨_, rfl⟩
  rw [← hwa] at S1
  go_enter Try.func40, Try.ntmps40
  go_upto_region 1 with fail
  rw [← hwa]
  clear hwa
  have hh := Bag.cs3 S1.out 0 rfl
  have f0 := hh.1; have f1 := hh.2.1; have f2 := hh.2.2; clear hh
  by_cases hn0 : q - (z.name.size : Int) < 0
  · skip
    go_wp2_with fail
    go_ret
    exact ⟨by rw [HW.out, lft_neg (by omega)] <;> rfl, S1.out.old⟩
  · skip
    obtain ⟨u1, hu⟩ : ∃ u, lft (q - (z.name.size : Int)) (wsum wt_Item (coS_Item z.xs)) = u := ⟨_, rfl⟩
    have hc1 := lft_cases hu
    have hr1 := lft_range (q := (q - (z.name.size : Int))) (wsum wt_Item (coS_Item z.xs)) (by omega)
    rw [hu] at hr1
    have HCU := HS1.out (q - (z.name.size : Int)) (by omega) (by omega)
    simp only [hu] at HCU
    replace HCU := Lib.hid HCU
    clear hu
    go_wp2_with fail
    go_at_call 62
    refine (HCU.out _ S1.out.old).mono ?_
    rintro e w1 ⟨rfl, hb⟩
    clear f0 f1 f2
    have S2 := Lib.hid (S1.out.keep hb)
    clear S1
    clear hb
    have hh := Bag.cs3 S2.out 0 rfl
    have f0 := hh.1; have f1 := hh.2.1; have f2 := hh.2.2; clear hh
    clear HCU
    by_cases hn1 : u1 < 0
    · have hm1 : u1 = -1 := by omega
      subst hm1
      go_wp2_with fail
      go_ret
      exact ⟨by rw [HW.out, lft_neg (by omega)] <;> rfl, S2.out.old⟩
    · skip
      go_wp2_with fail
      go_ret
      exact ⟨by rw [HW.out, lft_pos (by omega)] <;> first | rfl | (refine congrArg (fun i => Ending.returned (.int .i64 i)) ?_; omega), S2.out.old⟩
set_option maxHeartbeats 4000000 in
theorem sz_StoreS (a : Option Addr) (c : Nat) (xs : List L6.LS) (q : Int) (hw : ∀ x ∈ xs, Wide_Store x) (hm : xs.length ≤ maxLen) (hq0 : -1 ≤ q) (hq1 : q ≤ 1048576) (w : World) (hr : Reads w w.heap.size a (xs.flatMap cl_Store)) (hx : RowsRd w w.heap.size (rws_Store xs)) :
    Calls Try.prog 18 #[.slice a xs.length c, .int .i64 q] w fun e w' => e = .returned (.int .i64 (lft q (wsum wt_Store (coS_Store xs)))) ∧ Below w.heap.size w w' := by
  have HR := Lib.hid (fun w' (h : Below w.heap.size w w') => hr.below h)
  have HX := Lib.hid (fun w' (h : Below w.heap.size w w') => (hx.below h).more h.size)
  have HWD := Lib.hid hw
  have HW := Lib.hid (show wsum wt_Store (coS_Store xs) = xs.length + fsum (fun x => wt_Store (co_Store x)) xs from by rw [coS_Store_eq, wsum_map])
  obtain ⟨N, hN⟩ : ∃ n, n = xs.length := ⟨_, rfl⟩
  rw [← hN] at hm HW ⊢
  have HN := Lib.hid hN
  have hm' : (N : Int) ≤ 9223372036854775807 := by unfold maxLen at hm; omega
  clear hN hr hx hw hm
  have S1 := Lib.hid (show Sl.Sep w w [] from Sl.Sep.start w)
  by_cases hneg : q - (N : Int) < 0
  · skip
    go_enter Try.func18, Try.ntmps18
    go_wp2_with fail
    go_ret
    exact ⟨by rw [HW.out, lft_neg (by omega)] <;> rfl, Below.refl _ _⟩
  · skip
    go_enter Try.func18, Try.ntmps18
    go_wp2_with fail
    go_loopw [1, 5] (fun lv i wr => ∃ (k : Nat) (m : Int), k ≤ N ∧ i = .int .i64 k ∧ lv = .int .i64 m ∧ 0 ≤ m ∧ m ≤ 1048576 ∧ Hid (m = q - N - (fsum (fun x => wt_Store (co_Store x)) (xs.take k) : Int) ∧ Sl.Sep w wr [])) (fun _ i _ => N - (intOf i).toNat)
    case atStart => exact ⟨0, q - N, Nat.zero_le _, rfl, rfl, by omega, by omega, And.intro (by rw [List.take_zero, fsum_nil]; omega) S1.out⟩
    case round =>
      obtain ⟨k, m, hk, rfl, rfl, hm0, hm1, hrel⟩ := hrel
      have HA := Lib.hid hrel.out.1
      have S2 := Lib.hid hrel.out.2
      clear hrel S1
      by_cases hlt : (k : Int) < (N : Int)
      · skip
        have hkl : k < xs.length := by have := HN.out; omega
        obtain ⟨x, hx⟩ : ∃ x, xs[k]? = some x := ⟨_, List.getElem?_eq_getElem hkl⟩
        obtain ⟨ad, e'⟩ := el_some cl_Store_len (by decide) (HR.out _ S2.out.old) (List.getElem?_eq_some_iff.1 hx).1
        subst e'
        have HK := Lib.hid (fun w' (h : Below w.heap.size w w') => el3 cl_Store_len (HR.out _ h) hx rfl)
        have HAT := Lib.hid (fsum_at (f := (fun x => wt_Store (co_Store x))) hx)
        have HTK := Lib.hid (fsum_take (f := (fun x => wt_Store (co_Store x))) hx)
        try dsimp only at HAT HTK
        obtain ⟨fx, hfx⟩ : ∃ u, wt_Store (co_Store x) = u := ⟨_, rfl⟩
        rw [hfx] at HAT HTK
        obtain ⟨u, hu⟩ : ∃ u, lft m fx = u := ⟨_, rfl⟩
        have hcu := lft_cases hu
        have hru := lft_range (q := m) fx (by omega)
        rw [hu] at hru
        have HSI := fun w' (h : Below w.heap.size w w') => sz_Store x m (HWD.out x (List.mem_of_getElem? hx)) (by omega) hm1 w' (rd_el (rw_ := rw_Store) (by rw [← rws_Store_eq]; exact HX.out w' h) hx)
        rw [hfx, hu] at HSI
        dsimp only [vv_Store] at HSI
        replace HSI := Lib.hid HSI
        clear hfx hu hx
        have hh := HK.out _ S2.out.old
        have f0 := hh.1; have f1 := hh.2.1; have f2 := hh.2.2; clear hh
        go_wp2_with fail
        go_at_call 40
        refine (HSI.out _ S2.out.old).mono ?_
        rintro e w1 ⟨rfl, hb⟩
        clear f0 f1 f2
        have S3 := Lib.hid (S2.out.keep hb)
        clear S2
        clear hb
        by_cases h0 : u < 0
        · have hm1' : u = -1 := by omega
          subst hm1'
          go_wp2_with fail
          go_ret
          exact ⟨by rw [HW.out, lft_neg (by have := HA.out; have := HAT.out; omega)] <;> rfl, S3.out.old⟩
        · skip
          go_wp2_with fail
          go_roundw
          case rel => exact ⟨k + 1, u, by omega, by go_num, rfl, by omega, by omega, And.intro (by rw [HTK.out]; have := HA.out; omega) S3.out⟩
          case measure => simp [intOf]; omega
      · skip
        obtain rfl : k = N := by omega
        have HT := HA.out
        rw [List.take_of_length_le (Nat.le_of_eq HN.out.symm)] at HT
        go_wp2_with fail
        go_ret
        exact ⟨by rw [HW.out, lft_pos (by omega)] <;> first | rfl | (refine congrArg (fun i => Ending.returned (.int .i64 i)) ?_; omega), S2.out.old⟩
set_option maxHeartbeats 4000000 in
theorem eq_Store (y z : L6.LS) (hc : co_Store y = co_Store z) (hf : wt_Store (co_Store y) ≤ 1125899906842624) (w : World) (hr : RowsRd w w.heap.size (rw_Store y)) (hr2 : RowsRd w w.heap.size (rw_Store z)) : Calls Try.prog 53 #[vv_Store y, vv_Store z] w fun e w' => e = .returned (.bool true) ∧ Below w.heap.size w w' := by
  have hfp := hf
  rw [wt_Store_parts] at hfp
  have ee0 : z.name = y.name := (show y.name = z.name from congrArg L6.S6.name (hc)).symm
  have ee1 : z.xs.length = y.xs.length := (by have h := congrArg List.length (show coS_Item y.xs = coS_Item z.xs from congrArg L6.S6.items (hc)); rw [coS_Item_eq, coS_Item_eq, List.length_map, List.length_map] at h; exact h.symm)
  have ee2 : z.auto = y.auto := (show y.auto = z.auto from congrArg L6.S6.auto (hc)).symm
  have HE1 := Lib.hid (fun w' (h : Below w.heap.size w w') => eq_ItemS y.a z.a y.c z.c y.xs z.xs (congrArg L6.S6.items hc) (by omega) w' (((rd_head hr).reads.below h).more h.size) (((rd_tail hr).below h).more h.size) (((rd_head hr2).reads.below h).more h.size) (((rd_tail hr2).below h).more h.size))
  simp only [ee0, ee1, ee2] at HE1
  have hv : vv_Store z = .agg #[.string y.name, .slice z.a y.xs.length z.c, .int .i64 y.auto] := by unfold vv_Store; simp only [ee0, ee1, ee2]
  rw [hv]
  clear hv hfp hf hc hr hr2 ee0 ee1 ee2
  unfold vv_Store
  have S1 := Lib.hid (show Sl.Sep w ((w.alloc (.cells #[.string y.name, .slice y.a y.xs.length y.c, .int .i64 y.auto] 44)).alloc (.cells #[.string y.name, .slice z.a y.xs.length z.c, .int .i64 y.auto] 44)) [L4.boxR w.heap.size 44 #[.string y.name, .slice y.a y.xs.length y.c, .int .i64 y.auto], L4.boxR (w.heap.size + 1) 44 #[.string y.name, .slice z.a y.xs.length z.c, .int .i64 y.auto]] from L4.push_box (L4.push_box (Sl.Sep.start w) 44 #[.string y.name, .slice y.a y.xs.length y.c, .int .i64 y.auto] (w.heap.size) (by simp)) 44 #[.string y.name, .slice z.a y.xs.length z.c, .int .i64 y.auto] (w.heap.size + 1) (by simp))
  obtain ⟨wa, hwa⟩ : ∃ u, u = ((w.alloc (.cells #[.string y.name, .slice y.a y.xs.length y.c, .int .i64 y.auto] 44)).alloc (.cells #[.string y.name, .slice z.a y.xs.length z.c, .int .i64 y.auto] 44)) := ⟨_, rfl⟩
  rw [← hwa] at S1
  go_enter Try.func53, Try.ntmps53
  go_upto_region 1 with fail
  rw [← hwa]
  clear hwa
  have hh := Bag.cs3 S1.out 0 rfl
  have f0 := hh.1; have f1 := hh.2.1; have f2 := hh.2.2; clear hh
  have hh := Bag.cs3 S1.out 1 rfl
  have f3 := hh.1; have f4 := hh.2.1; have f5 := hh.2.2; clear hh
  go_wp2_with fail
  go_at_call 73
  refine (HE1.out _ S1.out.old).mono ?_
  rintro e w1 ⟨rfl, hb⟩
  clear f0 f1 f2 f3 f4 f5
  have S2 := Lib.hid (S1.out.keep hb)
  clear S1
  clear hb
  have hh := Bag.cs3 S2.out 0 rfl
  have f0 := hh.1; have f1 := hh.2.1; have f2 := hh.2.2; clear hh
  have hh := Bag.cs3 S2.out 1 rfl
  have f3 := hh.1; have f4 := hh.2.1; have f5 := hh.2.2; clear hh
  go_wp2_with fail
  go_ret
  exact ⟨rfl, S2.out.old⟩
set_option maxHeartbeats 4000000 in
theorem eq_StoreS (a a2 : Option Addr) (c c2 : Nat) (xs xs2 : List L6.LS) (hc : coS_Store xs = coS_Store xs2) (hf : wsum wt_Store (coS_Store xs) ≤ 1125899906842624) (w : World) (hr : Reads w w.heap.size a (xs.flatMap cl_Store)) (hx : RowsRd w w.heap.size (rws_Store xs)) (hr2 : Reads w w.heap.size a2 (xs2.flatMap cl_Store)) (hx2 : RowsRd w w.heap.size (rws_Store xs2)) :
    Calls Try.prog 30 #[.slice a xs.length c, .slice a2 xs2.length c2] w fun e w' => e = .returned (.bool true) ∧ Below w.heap.size w w' := by
  have hlen : xs2.length = xs.length := by have h := congrArg List.length hc; rw [coS_Store_eq, coS_Store_eq, List.length_map, List.length_map] at h; exact h.symm
  have hl : xs.length ≤ 1125899906842624 := by have := wsum_len wt_Store (coS_Store xs); rw [coS_Store_eq, List.length_map] at this; rw [coS_Store_eq] at hf; omega
  have HR := Lib.hid (fun w' (h : Below w.heap.size w w') => hr.below h)
  have HR2 := Lib.hid (fun w' (h : Below w.heap.size w w') => hr2.below h)
  have HX := Lib.hid (fun w' (h : Below w.heap.size w w') => (hx.below h).more h.size)
  have HX2 := Lib.hid (fun w' (h : Below w.heap.size w w') => (hx2.below h).more h.size)
  rw [coS_Store_eq] at hf
  have HF := Lib.hid hf
  have HS := Lib.hid (show xs.map co_Store = xs2.map co_Store from by rw [← coS_Store_eq, ← coS_Store_eq]; exact hc)
  obtain ⟨N, hN⟩ : ∃ n, n = xs.length := ⟨_, rfl⟩
  rw [hlen, ← hN]
  rw [← hN] at hl
  have hl' : (N : Int) ≤ 1125899906842624 := by omega
  have HN := Lib.hid hN
  clear hN hr hr2 hx hx2 hf hc hlen
  have S1 := Lib.hid (show Sl.Sep w w [] from Sl.Sep.start w)
  go_enter Try.func30, Try.ntmps30
  go_wp2_with fail
  go_loopw [5] (fun i wr => ∃ k : Nat, k ≤ N ∧ i = .int .i64 k ∧ Hid (Sl.Sep w wr [])) (fun i _ => N - (intOf i).toNat)
  case atStart => exact ⟨0, Nat.zero_le _, rfl, S1.out⟩
  case round =>
    obtain ⟨k, hk, rfl, hrel⟩ := hrel
    have S2 := Lib.hid hrel.out
    clear hrel S1
    by_cases hlt : (k : Int) < (N : Int)
    · skip
      have hkl : k < xs.length := by have := HN.out; omega
      obtain ⟨x, hx⟩ : ∃ x, xs[k]? = some x := ⟨_, List.getElem?_eq_getElem hkl⟩
      obtain ⟨ad, e'⟩ := el_some cl_Store_len (by decide) (HR.out _ S2.out.old) (List.getElem?_eq_some_iff.1 hx).1
      subst e'
      have HK := Lib.hid (fun w' (h : Below w.heap.size w w') => el3 cl_Store_len (HR.out _ h) hx rfl)
      obtain ⟨x2, hx2, hcx⟩ := map_same HS.out hx
      obtain ⟨ad2, e'⟩ := el_some cl_Store_len (by decide) (HR2.out _ S2.out.old) (List.getElem?_eq_some_iff.1 hx2).1
      subst e'
      have HK2 := Lib.hid (fun w' (h : Below w.heap.size w w') => el3 cl_Store_len (HR2.out _ h) hx2 rfl)
      have ee0 : x2.name = x.name := (show x.name = x2.name from congrArg L6.S6.name (hcx.symm)).symm
      have ee1 : x2.xs.length = x.xs.length := (by have h := congrArg List.length (show coS_Item x.xs = coS_Item x2.xs from congrArg L6.S6.items (hcx.symm)); rw [coS_Item_eq, coS_Item_eq, List.length_map, List.length_map] at h; exact h.symm)
      have ee2 : x2.auto = x.auto := (show x.auto = x2.auto from congrArg L6.S6.auto (hcx.symm)).symm
      have HEQ := fun w' (h : Below w.heap.size w w') => eq_Store x x2 hcx.symm (by have h1 := wsum_mem (f := wt_Store) (List.mem_map.2 ⟨x, List.mem_of_getElem? hx, rfl⟩ : co_Store x ∈ xs.map co_Store); have h2 := HF.out; omega) w' (rd_el (rw_ := rw_Store) (by rw [← rws_Store_eq]; exact HX.out w' h) hx) (rd_el (rw_ := rw_Store) (by rw [← rws_Store_eq]; exact HX2.out w' h) hx2)
      dsimp only [vv_Store] at HEQ
      try dsimp only [cl_Store] at HK2
      simp only [ee0, ee1, ee2] at HEQ HK2
      replace HEQ := Lib.hid HEQ
      clear hcx ee0 ee1 ee2
      try dsimp only [vv_Store] at HEQ
      clear hx hx2
      go_upto_region 6 with fail
      refine wp_region_held_drew (S := (fun w' => (World.cell? w' (ad.add (k * 3)) = some (.string x.name) ∧ World.cell? w' (⟨(ad.add (k * 3)).block, (ad.add (k * 3)).off + 1, none⟩) = some (.slice x.a x.xs.length x.c) ∧ World.cell? w' (⟨(ad.add (k * 3)).block, (ad.add (k * 3)).off + 2, none⟩) = some (.int .i64 x.auto)) ∧ (World.cell? w' (ad2.add (k * 3)) = some (.string x.name) ∧ World.cell? w' (⟨(ad2.add (k * 3)).block, (ad2.add (k * 3)).off + 1, none⟩) = some (.slice x2.a x.xs.length x2.c) ∧ World.cell? w' (⟨(ad2.add (k * 3)).block, (ad2.add (k * 3)).off + 2, none⟩) = some (.int .i64 x.auto)))) (by kernel_rfl) ⟨HK.out _ (Bag.drew1 S2.out).old, HK2.out _ (Bag.drew1 S2.out).old⟩ (fun hS => ?_)
      have S3 := Lib.hid (show Sl.Sep w _ [] from Bag.drew1 S2.out)
      clear S2
      generalize World.drew _ = w1 at hS S3 ⊢
      refine tk 0 rfl ?_
      try simp only [zp0, zp1, zp2, zp3, zp4]
      refine tk 1 rfl ?_
      try simp only [zp0, zp1, zp2, zp3, zp4]
      refine tk 2 rfl ?_
      try simp only [zp0, zp1, zp2, zp3, zp4]
      refine tk 3 rfl ?_
      try simp only [zp0, zp1, zp2, zp3, zp4]
      refine tk 4 rfl ?_
      try simp only [zp0, zp1, zp2, zp3, zp4]
      refine tk 5 rfl ?_
      try simp only [zp0, zp1, zp2, zp3, zp4]
      refine tk 6 rfl ?_
      try simp only [zp0, zp1, zp2, zp3, zp4]
      refine tk 7 rfl ?_
      try simp only [zp0, zp1, zp2, zp3, zp4]
      refine Reg.one_op (i := 8) rfl (by kernel_rfl) (fun K hK => ?_)
      go_simp
      go_at_call 53
      refine (HEQ.out _ S3.out.old).mono ?_
      rintro e w2 ⟨rfl, hb⟩
      have S4 := Lib.hid (S3.out.keep hb)
      clear S3
      clear hb
      go_wp2_with fail
      refine hK.out _ _ ⟨HK.out _ S4.out.old, HK2.out _ S4.out.old⟩ (fun hS => ?_)
      clear hK K
      try simp only [zp0, zp1, zp2, zp3, zp4]
      refine tk 9 rfl ?_
      try simp only [zp0, zp1, zp2, zp3, zp4]
      refine wpAnyH_done (by kernel_rfl) ?_ _
      have hh := HK.out _ S4.out.old
      have f0 := hh.1; have f1 := hh.2.1; have f2 := hh.2.2; clear hh
      have hh := HK2.out _ S4.out.old
      have f3 := hh.1; have f4 := hh.2.1; have f5 := hh.2.2; clear hh
      go_wp2_with fail
      go_roundw
      case rel => exact ⟨k + 1, by omega, by go_num, S4.out⟩
      case measure => simp [intOf]; omega
    · skip
      go_wp2_with fail
      go_ret
      exact ⟨rfl, S2.out.old⟩
end Go.Proofs.Ytboefioalkjdaaa.V

/-
  The exact laws' helpers for IndexDef, and for slices of it: how such a value opens, its copy, its room, comparison, marks. Condition: a weight of at most 2^20 (2^50 for comparison and marks). (Written by my program gen_v.py.)
-/
namespace Go.Proofs.Ytboefioalkjdaaa.V
set_option maxRecDepth 100000
open Go.ChangeShapes Go.WideShapes Go.ChangeAt Go.RowKit Mem Sl Sv Bag
open L5 (markT)
set_option linter.unusedVariables false
set_option linter.unusedSimpArgs false
structure X_IndexDef where
  f_Store : ByteArray
  f_Field : ByteArray
def co_IndexDef (z : X_IndexDef) : X_IndexDef := z
def coS_IndexDef (xs : List X_IndexDef) : List X_IndexDef := xs
theorem coS_IndexDef_eq (xs : List X_IndexDef) : coS_IndexDef xs = xs.map co_IndexDef := (List.map_id' xs).symm
def cl_IndexDef (z : X_IndexDef) : List Value := [.string z.f_Store, .string z.f_Field]
def vv_IndexDef (z : X_IndexDef) : Value := .agg #[.string z.f_Store, .string z.f_Field]
def rw_IndexDef (z : X_IndexDef) : List RowS := []
def wt_IndexDef (c : X_IndexDef) : Nat := c.f_Store.size + (c.f_Field.size)
theorem wt_IndexDef_parts (z : X_IndexDef) : wt_IndexDef (co_IndexDef z) = z.f_Store.size + (z.f_Field.size) := rfl
theorem cl_IndexDef_len (z : X_IndexDef) : (cl_IndexDef z).length = 2 := rfl
def row_IndexDef (a : Option Addr) (c : Nat) (xs : List X_IndexDef) : RowS := ⟨46, 2, a, c, xs.length, xs.flatMap cl_IndexDef⟩
def rws_IndexDef (_ : List X_IndexDef) : List RowS := []
theorem rws_IndexDef_eq (xs : List X_IndexDef) : rws_IndexDef xs = xs.flatMap rw_IndexDef := by
  show [] = _
  induction xs with
  | nil => rfl
  | cons x xs ih => rw [List.flatMap_cons, ← ih]; rfl
def rs_IndexDef (a : Option Addr) (c : Nat) (xs : List X_IndexDef) : List RowS := row_IndexDef a c xs :: rws_IndexDef xs
def Wide_IndexDef (z : X_IndexDef) : Prop := z.f_Store.size ≤ maxLen ∧ z.f_Field.size ≤ maxLen
section
variable {H : Type} {enc : TypeId × Value → H} {W : World} {b : Nat} {sp : Nat → Bool} {hd : Bool}
theorem trod_IndexDef {fuel : Nat} {cs : List Value} {x : DataW H × List MemPlace} (h : DataW.trod enc Try.prog W b sp hd fuel 66 cs = some x) (hlt : ∀ p ∈ x.2, p.block < W.heap.size) : ∃ z : X_IndexDef, cs = cl_IndexDef z ∧ RowsRd W W.heap.size (rw_IndexDef z) ∧ Wide_IndexDef z := by
  obtain ⟨xs, n, _, hx, hl, hlen, hf⟩ := DataW.trod_struct Try.underlying66 h
  have hlN : cs.length = 2 := hl.trans (by kernel_rfl)
  match cs, hlN with
  | [c0, c1], _ =>
    have h0 : DataW.trod enc Try.prog W b sp hd n 9 (List.take (Try.prog.cellsOf 9) (List.drop 0 [c0, c1])) = xs[0]? := hf 0 _ rfl
    rw [show Try.prog.cellsOf 9 = 1 by kernel_rfl, List.getElem?_eq_getElem (by rw [hlen]; decide)] at h0
    obtain ⟨x0, e0, _, w0⟩ := DataW.trod_string Try.underlying9 h0
    have h1 : DataW.trod enc Try.prog W b sp hd n 9 (List.take (Try.prog.cellsOf 9) (List.drop 1 [c0, c1])) = xs[1]? := hf 1 _ rfl
    rw [show Try.prog.cellsOf 9 = 1 by kernel_rfl, List.getElem?_eq_getElem (by rw [hlen]; decide)] at h1
    obtain ⟨x1, e1, _, w1⟩ := DataW.trod_string Try.underlying9 h1
    simp only [List.drop_succ_cons, List.drop_zero, List.take_succ_cons, List.take_zero, List.cons.injEq, and_true] at e0
    subst e0
    simp only [List.drop_succ_cons, List.drop_zero, List.take_succ_cons, List.take_zero, List.cons.injEq, and_true] at e1
    subst e1
    exact ⟨⟨x0, x1⟩, rfl, rd_nil _ _, ⟨w0, w1⟩⟩
theorem trods_IndexDef {fuel : Nat} {cs : List Value} {x : DataW H × List MemPlace} (h : DataW.trod enc Try.prog W b sp hd fuel 23 cs = some x) (hlt : ∀ p ∈ x.2, p.block < W.heap.size) :
    ∃ (a : Option Addr) (xs : List X_IndexDef) (c : Nat), cs = [.slice a xs.length c] ∧ (Reads W W.heap.size a (xs.flatMap cl_IndexDef) ∧ xs.length ≤ c ∧ (a = none → c = 0)) ∧ RowsRd W W.heap.size (xs.flatMap rw_IndexDef) ∧ xs.length ≤ maxLen ∧ ∀ z ∈ xs, Wide_IndexDef z :=
  trods cl_IndexDef 2 cl_IndexDef_len (by decide) rw_IndexDef Wide_IndexDef 23 66 Try.underlying23 (by kernel_rfl) (fun h hl => trod_IndexDef h hl) h hlt
end
set_option maxHeartbeats 4000000 in
theorem to_IndexDef (z : X_IndexDef) (w : World) : Calls Try.prog 48 #[vv_IndexDef z] w fun e w' => e = .returned (vv_IndexDef z) ∧ Below w.heap.size w w' := by
  unfold vv_IndexDef
  have S1 := Lib.hid (show Sl.Sep w ((w.alloc (.cells #[.string z.f_Store, .string z.f_Field] 66)).alloc (.cells #[.string ⟨#[]⟩, .string ⟨#[]⟩] 46)) [L4.boxR w.heap.size 66 #[.string z.f_Store, .string z.f_Field], L4.boxR (w.heap.size + 1) 46 #[.string ⟨#[]⟩, .string ⟨#[]⟩]] from L4.push_box (L4.push_box (Sl.Sep.start w) 66 #[.string z.f_Store, .string z.f_Field] (w.heap.size) (by simp)) 46 #[.string ⟨#[]⟩, .string ⟨#[]⟩] (w.heap.size + 1) (by simp))
  obtain ⟨wa, hwa⟩ : ∃ u, u = ((w.alloc (.cells #[.string z.f_Store, .string z.f_Field] 66)).alloc (.cells #[.string ⟨#[]⟩, .string ⟨#[]⟩] 46)) := ⟨_, rfl⟩
  rw [← hwa] at S1
  go_enter Try.func48, Try.ntmps48
  go_upto_region 1 with fail
  rw [← hwa]
  clear hwa
  go_upto_region 2 with fail
  have S2 := Lib.hid (show Sl.Sep w _ [L4.boxR w.heap.size 66 #[.string z.f_Store, .string z.f_Field], L4.boxR (w.heap.size + 1) 46 #[.string ⟨#[]⟩, .string ⟨#[]⟩], L4.boxR wa.heap.size 46 #[.string ⟨#[]⟩, .string ⟨#[]⟩]] from L4.push_box S1.out 46 #[.string ⟨#[]⟩, .string ⟨#[]⟩] wa.heap.size rfl)
  clear S1
  obtain ⟨g1, hg⟩ : ∃ g', g' = wa.heap.size := ⟨_, rfl⟩
  rw [← hg] at S2 ⊢
  clear hg
  generalize wa.alloc (.cells #[.string ⟨#[]⟩, .string ⟨#[]⟩] 46) = w1 at S2 ⊢
  have hh := Bag.cs2 S2.out 0 rfl
  have f0 := hh.1; have f1 := hh.2; clear hh
  have hh := Bag.cs2 S2.out 2 rfl
  have f2 := hh.1; have f3 := hh.2; clear hh
  have z0 := Bag.free_at S2.out 2 rfl 0
  go_upto_region 3 with fail
  clear f0 f1 f2 f3 z0
  have S3 := Lib.hid (show Sl.Sep w _ [L4.boxR w.heap.size 66 #[.string z.f_Store, .string z.f_Field], L4.boxR (w.heap.size + 1) 46 #[.string ⟨#[]⟩, .string ⟨#[]⟩], L4.boxR g1 46 #[.string z.f_Store, .string ⟨#[]⟩]] from L5.put_box5 (S2.out) 2 rfl 0 (.string z.f_Store))
  clear S2
  have hh := Bag.cs2 S3.out 0 rfl
  have f0 := hh.1; have f1 := hh.2; clear hh
  have hh := Bag.cs2 S3.out 2 rfl
  have f2 := hh.1; have f3 := hh.2; clear hh
  have z1 := Bag.free_at S3.out 2 rfl 1
  go_upto_region 4 with fail
  clear f0 f1 f2 f3 z1
  have S4 := Lib.hid (show Sl.Sep w _ [L4.boxR w.heap.size 66 #[.string z.f_Store, .string z.f_Field], L4.boxR (w.heap.size + 1) 46 #[.string ⟨#[]⟩, .string ⟨#[]⟩], L4.boxR g1 46 #[.string z.f_Store, .string z.f_Field]] from L5.put_box5 (S3.out) 2 rfl 1 (.string z.f_Field))
  clear S3
  have hh := Bag.cs2 S4.out 1 rfl
  have f0 := hh.1; have f1 := hh.2; clear hh
  have hh := Bag.cs2 S4.out 2 rfl
  have f2 := hh.1; have f3 := hh.2; clear hh
  have hh := Bag.fs2 S4.out 1 rfl
  have z0 := hh.1; have z1 := hh.2; clear hh
  go_wp2_with fail
  clear f0 f1 f2 f3 z0 z1
  have S5 := Lib.hid (show Sl.Sep w _ [L4.boxR w.heap.size 66 #[.string z.f_Store, .string z.f_Field], L4.boxR (w.heap.size + 1) 46 #[.string z.f_Store, .string z.f_Field], L4.boxR g1 46 #[.string z.f_Store, .string z.f_Field]] from L5.put_box5 (L5.put_box5 (S4.out) 1 rfl 0 (.string z.f_Store)) 1 rfl 1 (.string z.f_Field))
  clear S4
  have hh := Bag.cs2 S5.out 1 rfl
  have f0 := hh.1; have f1 := hh.2; clear hh
  refine bodyPost_ret (v := .agg #[.string z.f_Store, .string z.f_Field]) (by simp [results, Try.results48, go_sem, *]) rfl ?_
  clear f0 f1
  exact ⟨rfl, S5.out.old⟩
theorem info_IndexDef : ∃ i, Try.prog.info? 46 = some i ∧ i.zero = some (.agg #[.string ⟨#[]⟩, .string ⟨#[]⟩]) ∧ i.size = 2 ∧ i.bytes = 32 := Ex.infoOf _ _ _ _ (by kernel_rfl)
set_option maxHeartbeats 4000000 in
theorem to_IndexDefS (a : Option Addr) (c : Nat) (xs : List X_IndexDef) (hf : wsum wt_IndexDef (coS_IndexDef xs) ≤ 1048576) (w : World) (hr : Reads w w.heap.size a (xs.flatMap cl_IndexDef)) (hx : RowsRd w w.heap.size (rws_IndexDef xs)) :
    Calls Try.prog 25 #[.slice a xs.length c] w fun e w' => ∃ a' c' ys, e = .returned (.slice a' ys.length c') ∧ coS_IndexDef ys = coS_IndexDef xs ∧ BagOwn w' w.heap.size (rs_IndexDef a' c' ys) ∧ Below w.heap.size w w' := by
  obtain ⟨i0, hi1, hi2, hi3, hi4⟩ := info_IndexDef
  have HI := Lib.hid (And.intro hi1 (And.intro hi2 (And.intro hi3 hi4)))
  clear hi1 hi2 hi3 hi4
  rw [coS_IndexDef_eq] at hf
  have HR := Lib.hid (fun w' (h : Below w.heap.size w w') => hr.below h)
  have HX := Lib.hid (fun w' (h : Below w.heap.size w w') => (hx.below h).more h.size)
  have HF := Lib.hid hf
  have hl : xs.length ≤ 1048576 := by have := wsum_len wt_IndexDef (xs.map co_IndexDef); rw [List.length_map] at this; omega
  obtain ⟨N, hN⟩ : ∃ n, n = xs.length := ⟨_, rfl⟩
  rw [← hN] at hl ⊢
  have hl' : (N : Int) ≤ 1048576 := by omega
  have HN := Lib.hid hN
  clear hN hr hx hf
  obtain ⟨Z, hZ⟩ : ∃ Z, Z = (madeCells (Value.agg #[.string ⟨#[]⟩, .string ⟨#[]⟩]).cells (N * 2)).toList := ⟨_, rfl⟩
  have HZ := Lib.hid (show Z.length = N * 2 by rw [hZ]; simp [madeCells])
  have HZD := Lib.hid hZ
  clear hZ
  have S1 := Lib.hid (show Sl.Sep w w [] from Sl.Sep.start w)
  go_enter Try.func25, Try.ntmps25
  go_upto_region 2 with (at_make; refine Run.wpList_make_s S1.out rfl _ _ 29 rfl 46 i0 (.agg #[.string ⟨#[]⟩, .string ⟨#[]⟩]) 2 Try.underlying29 HI.out.1 HI.out.2.1 HI.out.2.2.1 _ _ N rfl rfl (by rw [HI.out.2.2.2]; omega) (by unfold maxLen; omega) ?_; intro w1 S')
  obtain ⟨g1, hg⟩ : ∃ g', g' = w.heap.size := ⟨_, rfl⟩
  rw [← hg] at S' ⊢
  clear hg
  have S2 := Lib.hid (show Sl.Sep w _ [Sv.ownV 46 2 (some ⟨g1, 0, none⟩) N N (([] : List X_IndexDef).flatMap cl_IndexDef ++ Z)] from (by have h := S'; rw [← HZD.out] at h; exact h))
  clear S1
  clear S'
  have S3 := Lib.hid (show Sl.Sep w _ [Sv.ownV 46 2 (some ⟨g1, 0, none⟩) N N (([] : List X_IndexDef).flatMap cl_IndexDef ++ Z), Bag.bag (rws_IndexDef [])] from Bag.push_bag S2.out (Below.refl _ _) (by rw [rws_IndexDef_eq]; exact Bag.BagOwn.nil _ _))
  clear S2
  go_wp2_with fail
  go_loopw [4] (fun i wr => ∃ (k : Nat) (ys : List X_IndexDef) (Zs : List Value), k ≤ N ∧ i = .int .i64 k ∧ Hid ((ys.map co_IndexDef = (xs.take k).map co_IndexDef ∧ ys.length = k ∧ Zs.length = (N - k) * 2) ∧ Sl.Sep w wr [Sv.ownV 46 2 (some ⟨g1, 0, none⟩) N N (ys.flatMap cl_IndexDef ++ Zs), Bag.bag (rws_IndexDef ys)])) (fun i _ => N - (intOf i).toNat)
  case atStart => exact ⟨0, [], Z, Nat.zero_le _, rfl, And.intro ⟨rfl, rfl, HZ.out⟩ S3.out⟩
  case round =>
    obtain ⟨k, ys, Zs, hk, rfl, hrel⟩ := hrel
    have HC := Lib.hid hrel.out.1
    have S4 := Lib.hid hrel.out.2
    clear hrel S3
    by_cases hlt : (k : Int) < (N : Int)
    · skip
      have hkl : k < xs.length := by have := HN.out; omega
      obtain ⟨x, hx⟩ : ∃ x, xs[k]? = some x := ⟨_, List.getElem?_eq_getElem hkl⟩
      obtain ⟨ad, e'⟩ := el_some cl_IndexDef_len (by decide) (HR.out _ S4.out.old) hkl
      subst e'
      have HK := Lib.hid (fun w' (h : Below w.heap.size w w') => el2 cl_IndexDef_len (HR.out _ h) hx rfl)
      have HTX := Lib.hid (take_next hx)
      have HL := Lib.hid (show (ys.flatMap cl_IndexDef).length = k * 2 ∧ k * 2 + 2 ≤ (ys.flatMap cl_IndexDef ++ Zs).length ∧ 2 ≤ Zs.length from by have h1 := HC.out.2.1; have h2 := HC.out.2.2; rw [List.length_append, flat_len cl_IndexDef_len, h1, h2]; omega)
      have HCI := Lib.hid (fun w' => to_IndexDef x w')
      dsimp only [vv_IndexDef] at HCI
      clear hx
      have hh := HK.out _ S4.out.old
      have f0 := hh.1; have f1 := hh.2; clear hh
      go_wp2_with fail
      go_at_call 48
      refine (HCI.out _).mono ?_
      rintro e w2 ⟨rfl, hb⟩
      clear f0 f1
      have S5 := Lib.hid (S4.out.keep hb)
      clear S4
      clear hb
      have q0 := (Sv.own_at S5.out 0 rfl).cell (k * 2) (by have := HL.out.2.1; omega)
      have z0 := (Sv.own_at S5.out 0 rfl).free (k * 2)
      have q1 := (Sv.own_at S5.out 0 rfl).cell (k * 2 + 1) (by have := HL.out.2.1; omega)
      have z1 := (Sv.own_at S5.out 0 rfl).free (k * 2 + 1)
      go_wp2_with fail
      clear q0 z0 q1 z1
      have S6 := Lib.hid (show Sl.Sep w (World.setCells w2 g1 (k * 2) [.string x.f_Store, .string x.f_Field]) [Sv.ownV 46 2 (some ⟨g1, 0, none⟩) N N ((ys ++ [x]).flatMap cl_IndexDef ++ Zs.drop 2), Bag.bag (rws_IndexDef ys)] from (by have h := Run.put_run S5.out 0 rfl (k * 2) [.string x.f_Store, .string x.f_Field] (by have := HL.out.2.1; simpa using this); rw [Run.over_at _ _ _ _ HL.out.1 (by have := HL.out.2.2; simpa using this)] at h; rw [List.flatMap_append, List.append_assoc]; exact h))
      clear S5
      have S7 := Lib.hid (show Sl.Sep w _ [Sv.ownV 46 2 (some ⟨g1, 0, none⟩) N N ((ys ++ [x]).flatMap cl_IndexDef ++ Zs.drop 2), Bag.bag (rws_IndexDef ys)] from Bag.take S6.out [0, 1] (by rfl) (by decide))
      clear S6
      go_roundw
      case rel =>
        refine ⟨k + 1, ys ++ [x], Zs.drop 2, by omega, by go_num, And.intro ⟨?_, ?_, ?_⟩ ?_⟩
        · rw [HTX.out, List.map_append, List.map_append, HC.out.1]
        · rw [List.length_append, HC.out.2.1]; rfl
        · rw [List.length_drop, HC.out.2.2]; omega
        · exact S7.out
      case measure => simp [intOf]; omega
    · skip
      obtain rfl : k = N := by omega
      go_wp2_with fail
      go_ret
      obtain ⟨hc1, hc2, hc3⟩ := HC.out
      have hZs : Zs = [] := List.eq_nil_of_length_eq_zero (by rw [hc3]; omega)
      have hcon : ys.map co_IndexDef = xs.map co_IndexDef := by rw [hc1, List.take_of_length_le (by have := HN.out; omega)]
      have S90 := Lib.hid (Bag.bag_of_one S4.out 0 (r := row_IndexDef (some ⟨g1, 0, none⟩) k ys) (by unfold RowS.res row_IndexDef; dsimp only; rw [hZs, List.append_nil, hc2]; rfl))
      have S91 := Lib.hid (Bag.bag_join S90.out 0 1 (by decide) rfl rfl)
      have hb := Bag.bag_from S91.out 0 rfl
      subst hc2
      exact ⟨_, _, ys, rfl, by rw [coS_IndexDef_eq, coS_IndexDef_eq]; exact hcon, hb, S91.out.old⟩
set_option maxHeartbeats 4000000 in
theorem sz_IndexDef (z : X_IndexDef) (q : Int) (hw : Wide_IndexDef z) (hq0 : -1 ≤ q) (hq1 : q ≤ 1048576) (w : World) : Calls Try.prog 41 #[vv_IndexDef z, .int .i64 q] w fun e w' => e = .returned (.int .i64 (lft q (wt_IndexDef (co_IndexDef z)))) ∧ Below w.heap.size w w' := by
  have hs0 : (z.f_Store.size : Int) ≤ 9223372036854775807 := by have h : z.f_Store.size ≤ maxLen := hw.1; unfold maxLen at h; omega
  have hs1 : (z.f_Field.size : Int) ≤ 9223372036854775807 := by have h : z.f_Field.size ≤ maxLen := hw.2; unfold maxLen at h; omega
  have HW := Lib.hid (wt_IndexDef_parts z)
  clear hw
  unfold vv_IndexDef
  have S1 := Lib.hid (show Sl.Sep w (w.alloc (.cells #[.string z.f_Store, .string z.f_Field] 66)) [L4.boxR w.heap.size 66 #[.string z.f_Store, .string z.f_Field]] from L4.push_box (Sl.Sep.start w) 66 #[.string z.f_Store, .string z.f_Field] (w.heap.size) (by simp))
  obtain ⟨wa, hwa⟩ : ∃ u, u = (w.alloc (.cells #[.string z.f_Store, .string z.f_Field] 66)) := ⟨_, rfl⟩
  rw [← hwa] at S1
  go_enter Try.func41, Try.ntmps41
  go_upto_region 1 with fail
  rw [← hwa]
  clear hwa
  have hh := Bag.cs2 S1.out 0 rfl
  have f0 := hh.1; have f1 := hh.2; clear hh
  by_cases hn0 : q - (z.f_Store.size : Int) < 0
  · skip
    go_wp2_with fail
    go_ret
    exact ⟨by rw [HW.out, lft_neg (by omega)] <;> rfl, S1.out.old⟩
  · skip
    by_cases hn1 : (q - (z.f_Store.size : Int)) - (z.f_Field.size : Int) < 0
    · skip
      go_wp2_with fail
      go_ret
      exact ⟨by rw [HW.out, lft_neg (by omega)] <;> rfl, S1.out.old⟩
    · skip
      go_wp2_with fail
      go_ret
      exact ⟨by rw [HW.out, lft_pos (by omega)] <;> first | rfl | (refine congrArg (fun i => Ending.returned (.int .i64 i)) ?_; omega), S1.out.old⟩
set_option maxHeartbeats 4000000 in
theorem sz_IndexDefS (a : Option Addr) (c : Nat) (xs : List X_IndexDef) (q : Int) (hw : ∀ x ∈ xs, Wide_IndexDef x) (hm : xs.length ≤ maxLen) (hq0 : -1 ≤ q) (hq1 : q ≤ 1048576) (w : World) (hr : Reads w w.heap.size a (xs.flatMap cl_IndexDef)) (hx : RowsRd w w.heap.size (rws_IndexDef xs)) :
    Calls Try.prog 19 #[.slice a xs.length c, .int .i64 q] w fun e w' => e = .returned (.int .i64 (lft q (wsum wt_IndexDef (coS_IndexDef xs)))) ∧ Below w.heap.size w w' := by
  have HR := Lib.hid (fun w' (h : Below w.heap.size w w') => hr.below h)
  have HX := Lib.hid (fun w' (h : Below w.heap.size w w') => (hx.below h).more h.size)
  have HWD := Lib.hid hw
  have HW := Lib.hid (show wsum wt_IndexDef (coS_IndexDef xs) = xs.length + fsum (fun x => wt_IndexDef (co_IndexDef x)) xs from by rw [coS_IndexDef_eq, wsum_map])
  obtain ⟨N, hN⟩ : ∃ n, n = xs.length := ⟨_, rfl⟩
  rw [← hN] at hm HW ⊢
  have HN := Lib.hid hN
  have hm' : (N : Int) ≤ 9223372036854775807 := by unfold maxLen at hm; omega
  clear hN hr hx hw hm
  have S1 := Lib.hid (show Sl.Sep w w [] from Sl.Sep.start w)
  by_cases hneg : q - (N : Int) < 0
  · skip
    go_enter Try.func19, Try.ntmps19
    go_wp2_with fail
    go_ret
    exact ⟨by rw [HW.out, lft_neg (by omega)] <;> rfl, Below.refl _ _⟩
  · skip
    go_enter Try.func19, Try.ntmps19
    go_wp2_with fail
    go_loopw [1, 5] (fun lv i wr => ∃ (k : Nat) (m : Int), k ≤ N ∧ i = .int .i64 k ∧ lv = .int .i64 m ∧ 0 ≤ m ∧ m ≤ 1048576 ∧ Hid (m = q - N - (fsum (fun x => wt_IndexDef (co_IndexDef x)) (xs.take k) : Int) ∧ Sl.Sep w wr [])) (fun _ i _ => N - (intOf i).toNat)
    case atStart => exact ⟨0, q - N, Nat.zero_le _, rfl, rfl, by omega, by omega, And.intro (by rw [List.take_zero, fsum_nil]; omega) S1.out⟩
    case round =>
      obtain ⟨k, m, hk, rfl, rfl, hm0, hm1, hrel⟩ := hrel
      have HA := Lib.hid hrel.out.1
      have S2 := Lib.hid hrel.out.2
      clear hrel S1
      by_cases hlt : (k : Int) < (N : Int)
      · skip
        have hkl : k < xs.length := by have := HN.out; omega
        obtain ⟨x, hx⟩ : ∃ x, xs[k]? = some x := ⟨_, List.getElem?_eq_getElem hkl⟩
        obtain ⟨ad, e'⟩ := el_some cl_IndexDef_len (by decide) (HR.out _ S2.out.old) (List.getElem?_eq_some_iff.1 hx).1
        subst e'
        have HK := Lib.hid (fun w' (h : Below w.heap.size w w') => el2 cl_IndexDef_len (HR.out _ h) hx rfl)
        have HAT := Lib.hid (fsum_at (f := (fun x => wt_IndexDef (co_IndexDef x))) hx)
        have HTK := Lib.hid (fsum_take (f := (fun x => wt_IndexDef (co_IndexDef x))) hx)
        try dsimp only at HAT HTK
        obtain ⟨fx, hfx⟩ : ∃ u, wt_IndexDef (co_IndexDef x) = u := ⟨_, rfl⟩
        rw [hfx] at HAT HTK
        obtain ⟨u, hu⟩ : ∃ u, lft m fx = u := ⟨_, rfl⟩
        have hcu := lft_cases hu
        have hru := lft_range (q := m) fx (by omega)
        rw [hu] at hru
        have HSI := fun w' => sz_IndexDef x m (HWD.out x (List.mem_of_getElem? hx)) (by omega) hm1 w'
        rw [hfx, hu] at HSI
        dsimp only [vv_IndexDef] at HSI
        replace HSI := Lib.hid HSI
        clear hfx hu hx
        have hh := HK.out _ S2.out.old
        have f0 := hh.1; have f1 := hh.2; clear hh
        go_wp2_with fail
        go_at_call 41
        refine (HSI.out _).mono ?_
        rintro e w1 ⟨rfl, hb⟩
        clear f0 f1
        have S3 := Lib.hid (S2.out.keep hb)
        clear S2
        clear hb
        by_cases h0 : u < 0
        · have hm1' : u = -1 := by omega
          subst hm1'
          go_wp2_with fail
          go_ret
          exact ⟨by rw [HW.out, lft_neg (by have := HA.out; have := HAT.out; omega)] <;> rfl, S3.out.old⟩
        · skip
          go_wp2_with fail
          go_roundw
          case rel => exact ⟨k + 1, u, by omega, by go_num, rfl, by omega, by omega, And.intro (by rw [HTK.out]; have := HA.out; omega) S3.out⟩
          case measure => simp [intOf]; omega
      · skip
        obtain rfl : k = N := by omega
        have HT := HA.out
        rw [List.take_of_length_le (Nat.le_of_eq HN.out.symm)] at HT
        go_wp2_with fail
        go_ret
        exact ⟨by rw [HW.out, lft_pos (by omega)] <;> first | rfl | (refine congrArg (fun i => Ending.returned (.int .i64 i)) ?_; omega), S2.out.old⟩
set_option maxHeartbeats 4000000 in
theorem eq_IndexDef (z : X_IndexDef) (w : World) : Calls Try.prog 54 #[vv_IndexDef z, vv_IndexDef z] w fun e w' => e = .returned (.bool true) ∧ Below w.heap.size w w' := by
  unfold vv_IndexDef
  have S1 := Lib.hid (show Sl.Sep w ((w.alloc (.cells #[.string z.f_Store, .string z.f_Field] 46)).alloc (.cells #[.string z.f_Store, .string z.f_Field] 46)) [L4.boxR w.heap.size 46 #[.string z.f_Store, .string z.f_Field], L4.boxR (w.heap.size + 1) 46 #[.string z.f_Store, .string z.f_Field]] from L4.push_box (L4.push_box (Sl.Sep.start w) 46 #[.string z.f_Store, .string z.f_Field] (w.heap.size) (by simp)) 46 #[.string z.f_Store, .string z.f_Field] (w.heap.size + 1) (by simp))
  obtain ⟨wa, hwa⟩ : ∃ u, u = ((w.alloc (.cells #[.string z.f_Store, .string z.f_Field] 46)).alloc (.cells #[.string z.f_Store, .string z.f_Field] 46)) := ⟨_, rfl⟩
  rw [← hwa] at S1
  go_enter Try.func54, Try.ntmps54
  go_upto_region 1 with fail
  rw [← hwa]
  clear hwa
  have hh := Bag.cs2 S1.out 0 rfl
  have f0 := hh.1; have f1 := hh.2; clear hh
  have hh := Bag.cs2 S1.out 1 rfl
  have f2 := hh.1; have f3 := hh.2; clear hh
  go_wp2_with fail
  go_ret
  exact ⟨rfl, S1.out.old⟩
set_option maxHeartbeats 4000000 in
theorem eq_IndexDefS (a a2 : Option Addr) (c c2 : Nat) (xs xs2 : List X_IndexDef) (hc : coS_IndexDef xs = coS_IndexDef xs2) (hf : wsum wt_IndexDef (coS_IndexDef xs) ≤ 1125899906842624) (w : World) (hr : Reads w w.heap.size a (xs.flatMap cl_IndexDef)) (hx : RowsRd w w.heap.size (rws_IndexDef xs)) (hr2 : Reads w w.heap.size a2 (xs2.flatMap cl_IndexDef)) (hx2 : RowsRd w w.heap.size (rws_IndexDef xs2)) :
    Calls Try.prog 31 #[.slice a xs.length c, .slice a2 xs2.length c2] w fun e w' => e = .returned (.bool true) ∧ Below w.heap.size w w' := by
  have hlen : xs2.length = xs.length := by have h := congrArg List.length hc; rw [coS_IndexDef_eq, coS_IndexDef_eq, List.length_map, List.length_map] at h; exact h.symm
  have hl : xs.length ≤ 1125899906842624 := by have := wsum_len wt_IndexDef (coS_IndexDef xs); rw [coS_IndexDef_eq, List.length_map] at this; rw [coS_IndexDef_eq] at hf; omega
  have HR := Lib.hid (fun w' (h : Below w.heap.size w w') => hr.below h)
  have HR2 := Lib.hid (fun w' (h : Below w.heap.size w w') => hr2.below h)
  have HX := Lib.hid (fun w' (h : Below w.heap.size w w') => (hx.below h).more h.size)
  have HX2 := Lib.hid (fun w' (h : Below w.heap.size w w') => (hx2.below h).more h.size)
  rw [coS_IndexDef_eq] at hf
  have HF := Lib.hid hf
  have HS := Lib.hid (show xs.map co_IndexDef = xs2.map co_IndexDef from by rw [← coS_IndexDef_eq, ← coS_IndexDef_eq]; exact hc)
  obtain ⟨N, hN⟩ : ∃ n, n = xs.length := ⟨_, rfl⟩
  rw [hlen, ← hN]
  rw [← hN] at hl
  have hl' : (N : Int) ≤ 1125899906842624 := by omega
  have HN := Lib.hid hN
  clear hN hr hr2 hx hx2 hf hc hlen
  have S1 := Lib.hid (show Sl.Sep w w [] from Sl.Sep.start w)
  go_enter Try.func31, Try.ntmps31
  go_wp2_with fail
  go_loopw [5] (fun i wr => ∃ k : Nat, k ≤ N ∧ i = .int .i64 k ∧ Hid (Sl.Sep w wr [])) (fun i _ => N - (intOf i).toNat)
  case atStart => exact ⟨0, Nat.zero_le _, rfl, S1.out⟩
  case round =>
    obtain ⟨k, hk, rfl, hrel⟩ := hrel
    have S2 := Lib.hid hrel.out
    clear hrel S1
    by_cases hlt : (k : Int) < (N : Int)
    · skip
      have hkl : k < xs.length := by have := HN.out; omega
      obtain ⟨x, hx⟩ : ∃ x, xs[k]? = some x := ⟨_, List.getElem?_eq_getElem hkl⟩
      obtain ⟨ad, e'⟩ := el_some cl_IndexDef_len (by decide) (HR.out _ S2.out.old) (List.getElem?_eq_some_iff.1 hx).1
      subst e'
      have HK := Lib.hid (fun w' (h : Below w.heap.size w w') => el2 cl_IndexDef_len (HR.out _ h) hx rfl)
      obtain ⟨x2, hx2, hcx⟩ := map_same HS.out hx
      obtain ⟨ad2, e'⟩ := el_some cl_IndexDef_len (by decide) (HR2.out _ S2.out.old) (List.getElem?_eq_some_iff.1 hx2).1
      subst e'
      have HK2 := Lib.hid (fun w' (h : Below w.heap.size w w') => el2 cl_IndexDef_len (HR2.out _ h) hx2 rfl)
      have hxx : x2 = x := hcx
      rw [hxx] at HK2
      have HEQ := Lib.hid (fun w' => eq_IndexDef x w')
      clear hcx hxx
      try dsimp only [vv_IndexDef] at HEQ
      clear hx hx2
      go_upto_region 6 with fail
      refine wp_region_held_drew (S := (fun w' => (World.cell? w' (ad.add (k * 2)) = some (.string x.f_Store) ∧ World.cell? w' (⟨(ad.add (k * 2)).block, (ad.add (k * 2)).off + 1, none⟩) = some (.string x.f_Field)) ∧ (World.cell? w' (ad2.add (k * 2)) = some (.string x.f_Store) ∧ World.cell? w' (⟨(ad2.add (k * 2)).block, (ad2.add (k * 2)).off + 1, none⟩) = some (.string x.f_Field)))) (by kernel_rfl) ⟨HK.out _ (Bag.drew1 S2.out).old, HK2.out _ (Bag.drew1 S2.out).old⟩ (fun hS => ?_)
      have S3 := Lib.hid (show Sl.Sep w _ [] from Bag.drew1 S2.out)
      clear S2
      generalize World.drew _ = w1 at hS S3 ⊢
      refine tk 0 rfl ?_
      try simp only [zp0, zp1, zp2, zp3, zp4]
      refine tk 1 rfl ?_
      try simp only [zp0, zp1, zp2, zp3, zp4]
      refine tk 2 rfl ?_
      try simp only [zp0, zp1, zp2, zp3, zp4]
      refine tk 3 rfl ?_
      try simp only [zp0, zp1, zp2, zp3, zp4]
      refine tk 4 rfl ?_
      try simp only [zp0, zp1, zp2, zp3, zp4]
      refine tk 5 rfl ?_
      try simp only [zp0, zp1, zp2, zp3, zp4]
      refine tk 6 rfl ?_
      try simp only [zp0, zp1, zp2, zp3, zp4]
      refine tk 7 rfl ?_
      try simp only [zp0, zp1, zp2, zp3, zp4]
      refine Reg.one_op (i := 8) rfl (by kernel_rfl) (fun K hK => ?_)
      go_simp
      go_at_call 54
      refine (HEQ.out _).mono ?_
      rintro e w2 ⟨rfl, hb⟩
      have S4 := Lib.hid (S3.out.keep hb)
      clear S3
      clear hb
      go_wp2_with fail
      refine hK.out _ _ ⟨HK.out _ S4.out.old, HK2.out _ S4.out.old⟩ (fun hS => ?_)
      clear hK K
      try simp only [zp0, zp1, zp2, zp3, zp4]
      refine tk 9 rfl ?_
      try simp only [zp0, zp1, zp2, zp3, zp4]
      refine wpAnyH_done (by kernel_rfl) ?_ _
      have hh := HK.out _ S4.out.old
      have f0 := hh.1; have f1 := hh.2; clear hh
      have hh := HK2.out _ S4.out.old
      have f2 := hh.1; have f3 := hh.2; clear hh
      go_wp2_with fail
      go_roundw
      case rel => exact ⟨k + 1, by omega, by go_num, S4.out⟩
      case measure => simp [intOf]; omega
    · skip
      go_wp2_with fail
      go_ret
      exact ⟨rfl, S2.out.old⟩
end Go.Proofs.Ytboefioalkjdaaa.V

/-
  The exact laws' helpers for Database, and for slices of it: how such a value opens, its copy, its room, comparison, marks. Condition: a weight of at most 2^20 (2^50 for comparison and marks). (Written by my program gen_v.py.)
-/
namespace Go.Proofs.Ytboefioalkjdaaa.V
set_option maxRecDepth 100000
open Go.ChangeShapes Go.WideShapes Go.ChangeAt Go.RowKit Mem Sl Sv Bag
open L5 (markT)
set_option linter.unusedVariables false
set_option linter.unusedSimpArgs false
structure X_Database where
  f_Name : ByteArray
  f_Version : Int
  f_Stores : List L6.S6
  f_Unique : List X_IndexDef
structure Y_Database where
  f_Name : ByteArray
  f_Version : Int
  f_Stores_a : Option Addr
  f_Stores_c : Nat
  f_Stores : List L6.LS
  f_Unique_a : Option Addr
  f_Unique_c : Nat
  f_Unique : List X_IndexDef
def co_Database (z : Y_Database) : X_Database := ⟨z.f_Name, z.f_Version, coS_Store z.f_Stores, coS_IndexDef z.f_Unique⟩
def cl_Database (z : Y_Database) : List Value := [.string z.f_Name, .int .i64 z.f_Version, .slice z.f_Stores_a z.f_Stores.length z.f_Stores_c, .slice z.f_Unique_a z.f_Unique.length z.f_Unique_c]
def cs_Database (z : Y_Database) : Array Value := #[.string z.f_Name, .int .i64 z.f_Version, .slice z.f_Stores_a z.f_Stores.length z.f_Stores_c, .slice z.f_Unique_a z.f_Unique.length z.f_Unique_c]
def vv_Database (z : Y_Database) : Value := .agg #[.string z.f_Name, .int .i64 z.f_Version, .slice z.f_Stores_a z.f_Stores.length z.f_Stores_c, .slice z.f_Unique_a z.f_Unique.length z.f_Unique_c]
def rw_Database (z : Y_Database) : List RowS := rs_Store z.f_Stores_a z.f_Stores_c z.f_Stores ++ (rs_IndexDef z.f_Unique_a z.f_Unique_c z.f_Unique)
def wt_Database (c : X_Database) : Nat := c.f_Name.size + (wsum wt_Store c.f_Stores + (wsum wt_IndexDef c.f_Unique))
theorem wt_Database_parts (z : Y_Database) : wt_Database (co_Database z) = z.f_Name.size + (wsum wt_Store (coS_Store z.f_Stores) + (wsum wt_IndexDef (coS_IndexDef z.f_Unique))) := rfl
def Wide_Database (z : Y_Database) : Prop := z.f_Name.size ≤ maxLen ∧ (-9223372036854775808 ≤ z.f_Version ∧ z.f_Version ≤ 9223372036854775807) ∧ (z.f_Stores.length ≤ maxLen ∧ ∀ x ∈ z.f_Stores, Wide_Store x) ∧ (z.f_Unique.length ≤ maxLen ∧ ∀ x ∈ z.f_Unique, Wide_IndexDef x)
section
variable {H : Type} {enc : TypeId × Value → H} {W : World} {b : Nat} {sp : Nat → Bool} {hd : Bool}
theorem trod_Database {fuel : Nat} {cs : List Value} {x : DataW H × List MemPlace} (h : DataW.trod enc Try.prog W b sp hd fuel 25 cs = some x) (hlt : ∀ p ∈ x.2, p.block < W.heap.size) : ∃ z : Y_Database, cs = cl_Database z ∧ RowsRd W W.heap.size (rw_Database z) ∧ Wide_Database z := by
  obtain ⟨xs, n, _, hx, hl, hlen, hf⟩ := DataW.trod_struct Try.underlying25 h
  have hlN : cs.length = 4 := hl.trans (by kernel_rfl)
  match cs, hlN with
  | [c0, c1, c2, c3], _ =>
    have h0 : DataW.trod enc Try.prog W b sp hd n 9 (List.take (Try.prog.cellsOf 9) (List.drop 0 [c0, c1, c2, c3])) = xs[0]? := hf 0 _ rfl
    rw [show Try.prog.cellsOf 9 = 1 by kernel_rfl, List.getElem?_eq_getElem (by rw [hlen]; decide)] at h0
    obtain ⟨x0, e0, _, w0⟩ := DataW.trod_string Try.underlying9 h0
    have h1 : DataW.trod enc Try.prog W b sp hd n 3 (List.take (Try.prog.cellsOf 3) (List.drop 1 [c0, c1, c2, c3])) = xs[1]? := hf 1 _ rfl
    rw [show Try.prog.cellsOf 3 = 1 by kernel_rfl, List.getElem?_eq_getElem (by rw [hlen]; decide)] at h1
    obtain ⟨x1, e1, _, w1⟩ := DataW.trod_int Try.underlying3 h1
    have h2 : DataW.trod enc Try.prog W b sp hd n 22 (List.take (Try.prog.cellsOf 22) (List.drop 2 [c0, c1, c2, c3])) = xs[2]? := hf 2 _ rfl
    rw [show Try.prog.cellsOf 22 = 1 by kernel_rfl, List.getElem?_eq_getElem (by rw [hlen]; decide)] at h2
    obtain ⟨a2, x2, c2', e2, r2, v2, l2, w2⟩ := trods_Store h2 (fun p hp => hlt p (by rw [hx]; exact List.mem_flatMap.2 ⟨_, List.getElem_mem (show 2 < xs.length by rw [hlen]; decide), hp⟩))
    have h3 : DataW.trod enc Try.prog W b sp hd n 23 (List.take (Try.prog.cellsOf 23) (List.drop 3 [c0, c1, c2, c3])) = xs[3]? := hf 3 _ rfl
    rw [show Try.prog.cellsOf 23 = 1 by kernel_rfl, List.getElem?_eq_getElem (by rw [hlen]; decide)] at h3
    obtain ⟨a3, x3, c3', e3, r3, v3, l3, w3⟩ := trods_IndexDef h3 (fun p hp => hlt p (by rw [hx]; exact List.mem_flatMap.2 ⟨_, List.getElem_mem (show 3 < xs.length by rw [hlen]; decide), hp⟩))
    simp only [List.drop_succ_cons, List.drop_zero, List.take_succ_cons, List.take_zero, List.cons.injEq, and_true] at e0
    subst e0
    simp only [List.drop_succ_cons, List.drop_zero, List.take_succ_cons, List.take_zero, List.cons.injEq, and_true] at e1
    subst e1
    simp only [List.drop_succ_cons, List.drop_zero, List.take_succ_cons, List.take_zero, List.cons.injEq, and_true] at e2
    subst e2
    simp only [List.drop_succ_cons, List.drop_zero, List.take_succ_cons, List.take_zero, List.cons.injEq, and_true] at e3
    subst e3
    exact ⟨⟨x0, x1, a2, c2', x2, a3, c3', x3⟩, rfl, rd_app (rd_cons ⟨r2.1, r2.2.1, r2.2.2⟩ (by rw [rws_Store_eq]; exact v2)) (rd_cons ⟨r3.1, r3.2.1, r3.2.2⟩ (by rw [rws_IndexDef_eq]; exact v3)), ⟨w0, Law.wf_i64 w1, ⟨l2, w2⟩, ⟨l3, w3⟩⟩⟩
theorem open_Database {b0 : Nat} {v : Value} {d : DataW H} {ps : List MemPlace} (hval : Value.okWide Try.prog W .any b0 25 v) (h0 : DataW.Trod enc Try.prog W b sp hd 25 v d ps) (hlt : ∀ p ∈ ps, p.block < W.heap.size) : ∃ z : Y_Database, v = vv_Database z ∧ RowsRd W W.heap.size (rw_Database z) ∧ Wide_Database z := by
  obtain ⟨cs, rfl, _⟩ := okWide_struct Try.underlying25 hval
  obtain ⟨fuel, hf0⟩ := h0
  obtain ⟨z, e, h1, h2⟩ := trod_Database hf0 hlt
  obtain ⟨l⟩ := cs
  exact ⟨z, by rw [show l = cl_Database z from e]; rfl, h1, h2⟩
end
set_option maxHeartbeats 4000000 in
theorem to_Database (z : Y_Database) (hf : wt_Database (co_Database z) ≤ 1048576) (w : World) (hr : RowsRd w w.heap.size (rw_Database z)) : Calls Try.prog 9 #[vv_Database z] w fun e w' => ∃ y : Y_Database, e = .returned (vv_Database y) ∧ co_Database y = co_Database z ∧ BagOwn w' w.heap.size (rw_Database y) ∧ Below w.heap.size w w' := by
  have hfp := hf
  rw [wt_Database_parts] at hfp
  have HC2 := Lib.hid (fun w' (h : Below w.heap.size w w') => to_StoreS z.f_Stores_a z.f_Stores_c z.f_Stores (by omega) w' (((rd_head (rd_left hr)).reads.below h).more h.size) (((rd_tail (rd_left hr)).below h).more h.size))
  have HC3 := Lib.hid (fun w' (h : Below w.heap.size w w') => to_IndexDefS z.f_Unique_a z.f_Unique_c z.f_Unique (by omega) w' (((rd_head (rd_right hr)).reads.below h).more h.size) (((rd_tail (rd_right hr)).below h).more h.size))
  clear hfp hf hr
  unfold vv_Database
  have S1 := Lib.hid (show Sl.Sep w ((w.alloc (.cells #[.string z.f_Name, .int .i64 z.f_Version, .slice z.f_Stores_a z.f_Stores.length z.f_Stores_c, .slice z.f_Unique_a z.f_Unique.length z.f_Unique_c] 25)).alloc (.cells #[.string ⟨#[]⟩, .int .i64 0, .slice none 0 0, .slice none 0 0] 31)) [L4.boxR w.heap.size 25 #[.string z.f_Name, .int .i64 z.f_Version, .slice z.f_Stores_a z.f_Stores.length z.f_Stores_c, .slice z.f_Unique_a z.f_Unique.length z.f_Unique_c], L4.boxR (w.heap.size + 1) 31 #[.string ⟨#[]⟩, .int .i64 0, .slice none 0 0, .slice none 0 0]] from L4.push_box (L4.push_box (Sl.Sep.start w) 25 #[.string z.f_Name, .int .i64 z.f_Version, .slice z.f_Stores_a z.f_Stores.length z.f_Stores_c, .slice z.f_Unique_a z.f_Unique.length z.f_Unique_c] (w.heap.size) (by simp)) 31 #[.string ⟨#[]⟩, .int .i64 0, .slice none 0 0, .slice none 0 0] (w.heap.size + 1) (by simp))
  obtain ⟨wa, hwa⟩ : ∃ u, u = ((w.alloc (.cells #[.string z.f_Name, .int .i64 z.f_Version, .slice z.f_Stores_a z.f_Stores.length z.f_Stores_c, .slice z.f_Unique_a z.f_Unique.length z.f_Unique_c] 25)).alloc (.cells #[.string ⟨#[]⟩, .int .i64 0, .slice none 0 0, .slice none 0 0] 31)) := ⟨_, rfl⟩
  rw [← hwa] at S1
  go_enter Try.func9, Try.ntmps9
  go_upto_region 1 with fail
  rw [← hwa]
  clear hwa
  go_upto_region 2 with fail
  have S2 := Lib.hid (show Sl.Sep w _ [L4.boxR w.heap.size 25 #[.string z.f_Name, .int .i64 z.f_Version, .slice z.f_Stores_a z.f_Stores.length z.f_Stores_c, .slice z.f_Unique_a z.f_Unique.length z.f_Unique_c], L4.boxR (w.heap.size + 1) 31 #[.string ⟨#[]⟩, .int .i64 0, .slice none 0 0, .slice none 0 0], L4.boxR wa.heap.size 31 #[.string ⟨#[]⟩, .int .i64 0, .slice none 0 0, .slice none 0 0]] from L4.push_box S1.out 31 #[.string ⟨#[]⟩, .int .i64 0, .slice none 0 0, .slice none 0 0] wa.heap.size rfl)
  clear S1
  obtain ⟨g1, hg⟩ : ∃ g', g' = wa.heap.size := ⟨_, rfl⟩
  rw [← hg] at S2 ⊢
  clear hg
  generalize wa.alloc (.cells #[.string ⟨#[]⟩, .int .i64 0, .slice none 0 0, .slice none 0 0] 31) = w1 at S2 ⊢
  have hh := Bag.cs4 S2.out 0 rfl
  have f0 := hh.1; have f1 := hh.2.1; have f2 := hh.2.2.1; have f3 := hh.2.2.2; clear hh
  have hh := Bag.cs4 S2.out 2 rfl
  have f4 := hh.1; have f5 := hh.2.1; have f6 := hh.2.2.1; have f7 := hh.2.2.2; clear hh
  have z0 := Bag.free_at S2.out 2 rfl 0
  go_upto_region 3 with fail
  clear f0 f1 f2 f3 f4 f5 f6 f7 z0
  have S3 := Lib.hid (show Sl.Sep w _ [L4.boxR w.heap.size 25 #[.string z.f_Name, .int .i64 z.f_Version, .slice z.f_Stores_a z.f_Stores.length z.f_Stores_c, .slice z.f_Unique_a z.f_Unique.length z.f_Unique_c], L4.boxR (w.heap.size + 1) 31 #[.string ⟨#[]⟩, .int .i64 0, .slice none 0 0, .slice none 0 0], L4.boxR g1 31 #[.string z.f_Name, .int .i64 0, .slice none 0 0, .slice none 0 0]] from L5.put_box5 (S2.out) 2 rfl 0 (.string z.f_Name))
  clear S2
  have hh := Bag.cs4 S3.out 0 rfl
  have f0 := hh.1; have f1 := hh.2.1; have f2 := hh.2.2.1; have f3 := hh.2.2.2; clear hh
  have hh := Bag.cs4 S3.out 2 rfl
  have f4 := hh.1; have f5 := hh.2.1; have f6 := hh.2.2.1; have f7 := hh.2.2.2; clear hh
  have z1 := Bag.free_at S3.out 2 rfl 1
  go_upto_region 4 with fail
  clear f0 f1 f2 f3 f4 f5 f6 f7 z1
  have S4 := Lib.hid (show Sl.Sep w _ [L4.boxR w.heap.size 25 #[.string z.f_Name, .int .i64 z.f_Version, .slice z.f_Stores_a z.f_Stores.length z.f_Stores_c, .slice z.f_Unique_a z.f_Unique.length z.f_Unique_c], L4.boxR (w.heap.size + 1) 31 #[.string ⟨#[]⟩, .int .i64 0, .slice none 0 0, .slice none 0 0], L4.boxR g1 31 #[.string z.f_Name, .int .i64 z.f_Version, .slice none 0 0, .slice none 0 0]] from L5.put_box5 (S3.out) 2 rfl 1 (.int .i64 z.f_Version))
  clear S3
  have hh := Bag.cs4 S4.out 0 rfl
  have f0 := hh.1; have f1 := hh.2.1; have f2 := hh.2.2.1; have f3 := hh.2.2.2; clear hh
  go_wp2_with fail
  go_at_call 24
  refine (HC2.out _ S4.out.old).mono ?_
  rintro e w2 ⟨a2', c2', y2, rfl, hc2, ho, hb⟩
  clear f0 f1 f2 f3
  have S5 := Lib.hid (show Sl.Sep w _ [L4.boxR w.heap.size 25 #[.string z.f_Name, .int .i64 z.f_Version, .slice z.f_Stores_a z.f_Stores.length z.f_Stores_c, .slice z.f_Unique_a z.f_Unique.length z.f_Unique_c], L4.boxR (w.heap.size + 1) 31 #[.string ⟨#[]⟩, .int .i64 0, .slice none 0 0, .slice none 0 0], L4.boxR g1 31 #[.string z.f_Name, .int .i64 z.f_Version, .slice none 0 0, .slice none 0 0], Bag.bag (rs_Store a2' c2' y2)] from Bag.push_bag S4.out hb ho)
  clear S4
  clear hb ho
  have HQ2 := Lib.hid hc2
  clear hc2
  have hh := Bag.cs4 S5.out 0 rfl
  have f0 := hh.1; have f1 := hh.2.1; have f2 := hh.2.2.1; have f3 := hh.2.2.2; clear hh
  have hh := Bag.cs4 S5.out 2 rfl
  have f4 := hh.1; have f5 := hh.2.1; have f6 := hh.2.2.1; have f7 := hh.2.2.2; clear hh
  have z2 := Bag.free_at S5.out 2 rfl 2
  go_upto_region 5 with fail
  clear f0 f1 f2 f3 f4 f5 f6 f7 z2
  have S6 := Lib.hid (show Sl.Sep w _ [L4.boxR w.heap.size 25 #[.string z.f_Name, .int .i64 z.f_Version, .slice z.f_Stores_a z.f_Stores.length z.f_Stores_c, .slice z.f_Unique_a z.f_Unique.length z.f_Unique_c], L4.boxR (w.heap.size + 1) 31 #[.string ⟨#[]⟩, .int .i64 0, .slice none 0 0, .slice none 0 0], L4.boxR g1 31 #[.string z.f_Name, .int .i64 z.f_Version, .slice a2' y2.length c2', .slice none 0 0], Bag.bag (rs_Store a2' c2' y2)] from L5.put_box5 (S5.out) 2 rfl 2 (.slice a2' y2.length c2'))
  clear S5
  have hh := Bag.cs4 S6.out 0 rfl
  have f0 := hh.1; have f1 := hh.2.1; have f2 := hh.2.2.1; have f3 := hh.2.2.2; clear hh
  go_wp2_with fail
  go_at_call 25
  refine (HC3.out _ S6.out.old).mono ?_
  rintro e w3 ⟨a3', c3', y3, rfl, hc3, ho, hb⟩
  clear f0 f1 f2 f3
  have S7 := Lib.hid (show Sl.Sep w _ [L4.boxR w.heap.size 25 #[.string z.f_Name, .int .i64 z.f_Version, .slice z.f_Stores_a z.f_Stores.length z.f_Stores_c, .slice z.f_Unique_a z.f_Unique.length z.f_Unique_c], L4.boxR (w.heap.size + 1) 31 #[.string ⟨#[]⟩, .int .i64 0, .slice none 0 0, .slice none 0 0], L4.boxR g1 31 #[.string z.f_Name, .int .i64 z.f_Version, .slice a2' y2.length c2', .slice none 0 0], Bag.bag (rs_Store a2' c2' y2), Bag.bag (rs_IndexDef a3' c3' y3)] from Bag.push_bag S6.out hb ho)
  clear S6
  clear hb ho
  have HQ3 := Lib.hid hc3
  clear hc3
  have hh := Bag.cs4 S7.out 0 rfl
  have f0 := hh.1; have f1 := hh.2.1; have f2 := hh.2.2.1; have f3 := hh.2.2.2; clear hh
  have hh := Bag.cs4 S7.out 2 rfl
  have f4 := hh.1; have f5 := hh.2.1; have f6 := hh.2.2.1; have f7 := hh.2.2.2; clear hh
  have z3 := Bag.free_at S7.out 2 rfl 3
  go_upto_region 6 with fail
  clear f0 f1 f2 f3 f4 f5 f6 f7 z3
  have S8 := Lib.hid (show Sl.Sep w _ [L4.boxR w.heap.size 25 #[.string z.f_Name, .int .i64 z.f_Version, .slice z.f_Stores_a z.f_Stores.length z.f_Stores_c, .slice z.f_Unique_a z.f_Unique.length z.f_Unique_c], L4.boxR (w.heap.size + 1) 31 #[.string ⟨#[]⟩, .int .i64 0, .slice none 0 0, .slice none 0 0], L4.boxR g1 31 #[.string z.f_Name, .int .i64 z.f_Version, .slice a2' y2.length c2', .slice a3' y3.length c3'], Bag.bag (rs_Store a2' c2' y2), Bag.bag (rs_IndexDef a3' c3' y3)] from L5.put_box5 (S7.out) 2 rfl 3 (.slice a3' y3.length c3'))
  clear S7
  have hh := Bag.cs4 S8.out 1 rfl
  have f0 := hh.1; have f1 := hh.2.1; have f2 := hh.2.2.1; have f3 := hh.2.2.2; clear hh
  have hh := Bag.cs4 S8.out 2 rfl
  have f4 := hh.1; have f5 := hh.2.1; have f6 := hh.2.2.1; have f7 := hh.2.2.2; clear hh
  have hh := Bag.fs4 S8.out 1 rfl
  have z0 := hh.1; have z1 := hh.2.1; have z2 := hh.2.2.1; have z3 := hh.2.2.2; clear hh
  go_wp2_with fail
  clear f0 f1 f2 f3 f4 f5 f6 f7 z0 z1 z2 z3
  have S9 := Lib.hid (show Sl.Sep w _ [L4.boxR w.heap.size 25 #[.string z.f_Name, .int .i64 z.f_Version, .slice z.f_Stores_a z.f_Stores.length z.f_Stores_c, .slice z.f_Unique_a z.f_Unique.length z.f_Unique_c], L4.boxR (w.heap.size + 1) 31 #[.string z.f_Name, .int .i64 z.f_Version, .slice a2' y2.length c2', .slice a3' y3.length c3'], L4.boxR g1 31 #[.string z.f_Name, .int .i64 z.f_Version, .slice a2' y2.length c2', .slice a3' y3.length c3'], Bag.bag (rs_Store a2' c2' y2), Bag.bag (rs_IndexDef a3' c3' y3)] from L5.put_box5 (L5.put_box5 (L5.put_box5 (L5.put_box5 (S8.out) 1 rfl 0 (.string z.f_Name)) 1 rfl 1 (.int .i64 z.f_Version)) 1 rfl 2 (.slice a2' y2.length c2')) 1 rfl 3 (.slice a3' y3.length c3'))
  clear S8
  have hh := Bag.cs4 S9.out 1 rfl
  have f0 := hh.1; have f1 := hh.2.1; have f2 := hh.2.2.1; have f3 := hh.2.2.2; clear hh
  refine bodyPost_ret (v := .agg #[.string z.f_Name, .int .i64 z.f_Version, .slice a2' y2.length c2', .slice a3' y3.length c3']) (by simp [results, Try.results9, go_sem, *]) rfl ?_
  clear f0 f1 f2 f3
  have S10 := Lib.hid (show Sl.Sep w _ [L4.boxR w.heap.size 25 #[.string z.f_Name, .int .i64 z.f_Version, .slice z.f_Stores_a z.f_Stores.length z.f_Stores_c, .slice z.f_Unique_a z.f_Unique.length z.f_Unique_c], L4.boxR (w.heap.size + 1) 31 #[.string z.f_Name, .int .i64 z.f_Version, .slice a2' y2.length c2', .slice a3' y3.length c3'], L4.boxR g1 31 #[.string z.f_Name, .int .i64 z.f_Version, .slice a2' y2.length c2', .slice a3' y3.length c3'], Bag.bag ((rs_Store a2' c2' y2) ++ (rs_IndexDef a3' c3' y3)), Bag.bag ([])] from Bag.bag_join S9.out 3 4 (by decide) rfl rfl)
  clear S9
  refine ⟨⟨z.f_Name, z.f_Version, a2', c2', y2, a3', c3', y3⟩, rfl, ?_, Bag.bag_from S10.out 3 rfl, S10.out.old⟩
  show (⟨z.f_Name, z.f_Version, coS_Store y2, coS_IndexDef y3⟩ : X_Database) = (⟨z.f_Name, z.f_Version, coS_Store z.f_Stores, coS_IndexDef z.f_Unique⟩ : X_Database)
  rw [HQ2.out, HQ3.out]
set_option maxHeartbeats 4000000 in
theorem sz_Database (z : Y_Database) (q : Int) (hw : Wide_Database z) (hq0 : -1 ≤ q) (hq1 : q ≤ 1048576) (w : World) (hr : RowsRd w w.heap.size (rw_Database z)) : Calls Try.prog 7 #[vv_Database z, .int .i64 q] w fun e w' => e = .returned (.int .i64 (lft q (wt_Database (co_Database z)))) ∧ Below w.heap.size w w' := by
  have hs0 : (z.f_Name.size : Int) ≤ 9223372036854775807 := by have h : z.f_Name.size ≤ maxLen := hw.1; unfold maxLen at h; omega
  have HS2 := Lib.hid (fun (m : Int) (h0 : -1 ≤ m) (h1 : m ≤ 1048576) w' (h : Below w.heap.size w w') => sz_StoreS z.f_Stores_a z.f_Stores_c z.f_Stores m hw.2.2.1.2 hw.2.2.1.1 h0 h1 w' (((rd_head (rd_left hr)).reads.below h).more h.size) (((rd_tail (rd_left hr)).below h).more h.size))
  have HS3 := Lib.hid (fun (m : Int) (h0 : -1 ≤ m) (h1 : m ≤ 1048576) w' (h : Below w.heap.size w w') => sz_IndexDefS z.f_Unique_a z.f_Unique_c z.f_Unique m hw.2.2.2.2 hw.2.2.2.1 h0 h1 w' (((rd_head (rd_right hr)).reads.below h).more h.size) (((rd_tail (rd_right hr)).below h).more h.size))
  have HW := Lib.hid (wt_Database_parts z)
  clear hw hr
  unfold vv_Database
  have S1 := Lib.hid (show Sl.Sep w (w.alloc (.cells #[.string z.f_Name, .int .i64 z.f_Version, .slice z.f_Stores_a z.f_Stores.length z.f_Stores_c, .slice z.f_Unique_a z.f_Unique.length z.f_Unique_c] 25)) [L4.boxR w.heap.size 25 #[.string z.f_Name, .int .i64 z.f_Version, .slice z.f_Stores_a z.f_Stores.length z.f_Stores_c, .slice z.f_Unique_a z.f_Unique.length z.f_Unique_c]] from L4.push_box (Sl.Sep.start w) 25 #[.string z.f_Name, .int .i64 z.f_Version, .slice z.f_Stores_a z.f_Stores.length z.f_Stores_c, .slice z.f_Unique_a z.f_Unique.length z.f_Unique_c] (w.heap.size) (by simp))
  obtain ⟨wa, hwa⟩ : ∃ u, u = (w.alloc (.cells #[.string z.f_Name, .int .i64 z.f_Version, .slice z.f_Stores_a z.f_Stores.length z.f_Stores_c, .slice z.f_Unique_a z.f_Unique.length z.f_Unique_c] 25)) := ⟨_, rfl⟩
  rw [← hwa] at S1
  go_enter Try.func7, Try.ntmps7
  go_upto_region 1 with fail
  rw [← hwa]
  clear hwa
  have hh := Bag.cs4 S1.out 0 rfl
  have f0 := hh.1; have f1 := hh.2.1; have f2 := hh.2.2.1; have f3 := hh.2.2.2; clear hh
  by_cases hn0 : q - (z.f_Name.size : Int) < 0
  · skip
    go_wp2_with fail
    go_ret
    exact ⟨by rw [HW.out, lft_neg (by omega)] <;> rfl, S1.out.old⟩
  · skip
    obtain ⟨u2, hu⟩ : ∃ u, lft (q - (z.f_Name.size : Int)) (wsum wt_Store (coS_Store z.f_Stores)) = u := ⟨_, rfl⟩
    have hc2 := lft_cases hu
    have hr2 := lft_range (q := (q - (z.f_Name.size : Int))) (wsum wt_Store (coS_Store z.f_Stores)) (by omega)
    rw [hu] at hr2
    have HCU := HS2.out (q - (z.f_Name.size : Int)) (by omega) (by omega)
    simp only [hu] at HCU
    replace HCU := Lib.hid HCU
    clear hu
    go_wp2_with fail
    go_at_call 18
    refine (HCU.out _ S1.out.old).mono ?_
    rintro e w1 ⟨rfl, hb⟩
    clear f0 f1 f2 f3
    have S2 := Lib.hid (S1.out.keep hb)
    clear S1
    clear hb
    have hh := Bag.cs4 S2.out 0 rfl
    have f0 := hh.1; have f1 := hh.2.1; have f2 := hh.2.2.1; have f3 := hh.2.2.2; clear hh
    clear HCU
    by_cases hn2 : u2 < 0
    · have hm1 : u2 = -1 := by omega
      subst hm1
      go_wp2_with fail
      go_ret
      exact ⟨by rw [HW.out, lft_neg (by omega)] <;> rfl, S2.out.old⟩
    · skip
      obtain ⟨u3, hu⟩ : ∃ u, lft u2 (wsum wt_IndexDef (coS_IndexDef z.f_Unique)) = u := ⟨_, rfl⟩
      have hc3 := lft_cases hu
      have hr3 := lft_range (q := u2) (wsum wt_IndexDef (coS_IndexDef z.f_Unique)) (by omega)
      rw [hu] at hr3
      have HCU := HS3.out u2 (by omega) (by omega)
      simp only [hu] at HCU
      replace HCU := Lib.hid HCU
      clear hu
      go_wp2_with fail
      go_at_call 19
      refine (HCU.out _ S2.out.old).mono ?_
      rintro e w2 ⟨rfl, hb⟩
      clear f0 f1 f2 f3
      have S3 := Lib.hid (S2.out.keep hb)
      clear S2
      clear hb
      have hh := Bag.cs4 S3.out 0 rfl
      have f0 := hh.1; have f1 := hh.2.1; have f2 := hh.2.2.1; have f3 := hh.2.2.2; clear hh
      clear HCU
      by_cases hn3 : u3 < 0
      · have hm1 : u3 = -1 := by omega
        subst hm1
        go_wp2_with fail
        go_ret
        exact ⟨by rw [HW.out, lft_neg (by omega)] <;> rfl, S3.out.old⟩
      · skip
        go_wp2_with fail
        go_ret
        exact ⟨by rw [HW.out, lft_pos (by omega)] <;> first | rfl | (refine congrArg (fun i => Ending.returned (.int .i64 i)) ?_; omega), S3.out.old⟩
set_option maxHeartbeats 4000000 in
theorem eq_Database (y z : Y_Database) (hc : co_Database y = co_Database z) (hf : wt_Database (co_Database y) ≤ 1125899906842624) (w : World) (hr : RowsRd w w.heap.size (rw_Database y)) (hr2 : RowsRd w w.heap.size (rw_Database z)) : Calls Try.prog 11 #[vv_Database y, vv_Database z] w fun e w' => e = .returned (.bool true) ∧ Below w.heap.size w w' := by
  have hfp := hf
  rw [wt_Database_parts] at hfp
  have ee0 : z.f_Name = y.f_Name := (show y.f_Name = z.f_Name from congrArg X_Database.f_Name (hc)).symm
  have ee1 : z.f_Version = y.f_Version := (show y.f_Version = z.f_Version from congrArg X_Database.f_Version (hc)).symm
  have ee2 : z.f_Stores.length = y.f_Stores.length := (by have h := congrArg List.length (show coS_Store y.f_Stores = coS_Store z.f_Stores from congrArg X_Database.f_Stores (hc)); rw [coS_Store_eq, coS_Store_eq, List.length_map, List.length_map] at h; exact h.symm)
  have ee3 : z.f_Unique.length = y.f_Unique.length := (by have h := congrArg List.length (show coS_IndexDef y.f_Unique = coS_IndexDef z.f_Unique from congrArg X_Database.f_Unique (hc)); rw [coS_IndexDef_eq, coS_IndexDef_eq, List.length_map, List.length_map] at h; exact h.symm)
  have HE2 := Lib.hid (fun w' (h : Below w.heap.size w w') => eq_StoreS y.f_Stores_a z.f_Stores_a y.f_Stores_c z.f_Stores_c y.f_Stores z.f_Stores (congrArg X_Database.f_Stores hc) (by omega) w' (((rd_head (rd_left hr)).reads.below h).more h.size) (((rd_tail (rd_left hr)).below h).more h.size) (((rd_head (rd_left hr2)).reads.below h).more h.size) (((rd_tail (rd_left hr2)).below h).more h.size))
  simp only [ee0, ee1, ee2, ee3] at HE2
  have HE3 := Lib.hid (fun w' (h : Below w.heap.size w w') => eq_IndexDefS y.f_Unique_a z.f_Unique_a y.f_Unique_c z.f_Unique_c y.f_Unique z.f_Unique (congrArg X_Database.f_Unique hc) (by omega) w' (((rd_head (rd_right hr)).reads.below h).more h.size) (((rd_tail (rd_right hr)).below h).more h.size) (((rd_head (rd_right hr2)).reads.below h).more h.size) (((rd_tail (rd_right hr2)).below h).more h.size))
  simp only [ee0, ee1, ee2, ee3] at HE3
  have hv : vv_Database z = .agg #[.string y.f_Name, .int .i64 y.f_Version, .slice z.f_Stores_a y.f_Stores.length z.f_Stores_c, .slice z.f_Unique_a y.f_Unique.length z.f_Unique_c] := by unfold vv_Database; simp only [ee0, ee1, ee2, ee3]
  rw [hv]
  clear hv hfp hf hc hr hr2 ee0 ee1 ee2 ee3
  unfold vv_Database
  have S1 := Lib.hid (show Sl.Sep w ((w.alloc (.cells #[.string y.f_Name, .int .i64 y.f_Version, .slice y.f_Stores_a y.f_Stores.length y.f_Stores_c, .slice y.f_Unique_a y.f_Unique.length y.f_Unique_c] 31)).alloc (.cells #[.string y.f_Name, .int .i64 y.f_Version, .slice z.f_Stores_a y.f_Stores.length z.f_Stores_c, .slice z.f_Unique_a y.f_Unique.length z.f_Unique_c] 31)) [L4.boxR w.heap.size 31 #[.string y.f_Name, .int .i64 y.f_Version, .slice y.f_Stores_a y.f_Stores.length y.f_Stores_c, .slice y.f_Unique_a y.f_Unique.length y.f_Unique_c], L4.boxR (w.heap.size + 1) 31 #[.string y.f_Name, .int .i64 y.f_Version, .slice z.f_Stores_a y.f_Stores.length z.f_Stores_c, .slice z.f_Unique_a y.f_Unique.length z.f_Unique_c]] from L4.push_box (L4.push_box (Sl.Sep.start w) 31 #[.string y.f_Name, .int .i64 y.f_Version, .slice y.f_Stores_a y.f_Stores.length y.f_Stores_c, .slice y.f_Unique_a y.f_Unique.length y.f_Unique_c] (w.heap.size) (by simp)) 31 #[.string y.f_Name, .int .i64 y.f_Version, .slice z.f_Stores_a y.f_Stores.length z.f_Stores_c, .slice z.f_Unique_a y.f_Unique.length z.f_Unique_c] (w.heap.size + 1) (by simp))
  obtain ⟨wa, hwa⟩ : ∃ u, u = ((w.alloc (.cells #[.string y.f_Name, .int .i64 y.f_Version, .slice y.f_Stores_a y.f_Stores.length y.f_Stores_c, .slice y.f_Unique_a y.f_Unique.length y.f_Unique_c] 31)).alloc (.cells #[.string y.f_Name, .int .i64 y.f_Version, .slice z.f_Stores_a y.f_Stores.length z.f_Stores_c, .slice z.f_Unique_a y.f_Unique.length z.f_Unique_c] 31)) := ⟨_, rfl⟩
  rw [← hwa] at S1
  go_enter Try.func11, Try.ntmps11
  go_upto_region 1 with fail
  rw [← hwa]
  clear hwa
  have hh := Bag.cs4 S1.out 0 rfl
  have f0 := hh.1; have f1 := hh.2.1; have f2 := hh.2.2.1; have f3 := hh.2.2.2; clear hh
  have hh := Bag.cs4 S1.out 1 rfl
  have f4 := hh.1; have f5 := hh.2.1; have f6 := hh.2.2.1; have f7 := hh.2.2.2; clear hh
  go_wp2_with fail
  go_at_call 30
  refine (HE2.out _ S1.out.old).mono ?_
  rintro e w1 ⟨rfl, hb⟩
  clear f0 f1 f2 f3 f4 f5 f6 f7
  have S2 := Lib.hid (S1.out.keep hb)
  clear S1
  clear hb
  have hh := Bag.cs4 S2.out 0 rfl
  have f0 := hh.1; have f1 := hh.2.1; have f2 := hh.2.2.1; have f3 := hh.2.2.2; clear hh
  have hh := Bag.cs4 S2.out 1 rfl
  have f4 := hh.1; have f5 := hh.2.1; have f6 := hh.2.2.1; have f7 := hh.2.2.2; clear hh
  go_wp2_with fail
  go_at_call 31
  refine (HE3.out _ S2.out.old).mono ?_
  rintro e w2 ⟨rfl, hb⟩
  clear f0 f1 f2 f3 f4 f5 f6 f7
  have S3 := Lib.hid (S2.out.keep hb)
  clear S2
  clear hb
  have hh := Bag.cs4 S3.out 0 rfl
  have f0 := hh.1; have f1 := hh.2.1; have f2 := hh.2.2.1; have f3 := hh.2.2.2; clear hh
  have hh := Bag.cs4 S3.out 1 rfl
  have f4 := hh.1; have f5 := hh.2.1; have f6 := hh.2.2.1; have f7 := hh.2.2.2; clear hh
  go_wp2_with fail
  go_ret
  exact ⟨rfl, S3.out.old⟩
end Go.Proofs.Ytboefioalkjdaaa.V

/-
  Chapter 8's models: databases, their structure's changes as plain mathematics; what the contracts ask. No condition.
-/
namespace Go.Proofs.Ytboefioalkjdaaa.L8
set_option maxRecDepth 100000
open V L6 L7
open L4 (K isK cmpK)
open L5 (F isR isN)
open Go.Op (bytesLess)
open Go.ChangeShapes Go.WideShapes Go.ChangeAt Go.RowKit Mem Sl Sv Bag
set_option linter.unusedVariables false
set_option linter.unusedSimpArgs false

/-! ### stores and indexes by their names -/
def hasN (n : ByteArray) (s : S6) : Bool := s.name.toList == n.toList
def fndS (xs : List S6) (n : ByteArray) : Option Nat := xs.findIdx? (hasN n)
def numO : Option Nat → Int
  | some i => i
  | none => -1
def eqX (a b : X_IndexDef) : Bool := a.f_Store.toList == b.f_Store.toList && a.f_Field.toList == b.f_Field.toList
def fndX (us : List X_IndexDef) (u : X_IndexDef) : Option Nat := us.findIdx? fun v => eqX v u
theorem bytes_inj {a b : ByteArray} (h : a.toList = b.toList) : a = b := by
  rw [ByteArray.toList_eq, ByteArray.toList_eq] at h
  obtain ⟨⟨a⟩⟩ := a
  obtain ⟨⟨b⟩⟩ := b
  simp only at h
  rw [h]
theorem eqX_iff {a b : X_IndexDef} : eqX a b = true ↔ a = b := by
  unfold eqX
  rw [Bool.and_eq_true, beq_iff_eq, beq_iff_eq]
  constructor
  · intro h
    obtain ⟨a1, a2⟩ := a
    obtain ⟨b1, b2⟩ := b
    rw [show a1 = b1 from bytes_inj h.1, show a2 = b2 from bytes_inj h.2]
  · rintro rfl; exact ⟨rfl, rfl⟩
theorem idx_at {α : Type} {p : α → Bool} {xs : List α} (i : Nat) (hi : i < xs.length) (h : p xs[i] = true) (ha : ∀ j (hj : j < xs.length), j < i → p xs[j] = false) : xs.findIdx? p = some i := by
  rw [List.findIdx?_eq_some_iff_getElem]
  exact ⟨hi, h, fun j hj => by rw [ha j (by omega) hj]; simp⟩
theorem idx_none {α : Type} {p : α → Bool} {xs : List α} (ha : ∀ j (hj : j < xs.length), p xs[j] = false) : xs.findIdx? p = none := by
  rw [List.findIdx?_eq_none_iff]
  intro x hx
  obtain ⟨j, hj, rfl⟩ := List.getElem_of_mem hx
  exact ha j hj
theorem idx_some {α : Type} {p : α → Bool} {xs : List α} {i : Nat} (h : xs.findIdx? p = some i) : ∃ hi : i < xs.length, p xs[i] = true ∧ ∀ j (hj : j < i), p (xs[j]'(by omega)) = false := by
  rw [List.findIdx?_eq_some_iff_getElem] at h
  obtain ⟨hi, h1, h2⟩ := h
  exact ⟨hi, h1, fun j hj => by simpa using h2 j hj⟩
/-! ### a valid database -/
def ahead8 (xs : List S6) (s : S6) : Nat → Bool
  | 0 => true
  | j + 1 => match xs[j]? with
    | none => true
    | some r => bytesLess r.name.toList s.name.toList
def okSx (xs : List S6) (i : Nat) : Bool := match xs[i]? with
  | none => true
  | some s => isS s && ahead8 xs s i
theorem okSx_at {xs : List S6} {k : Nat} {x : S6} (h : xs[k]? = some x) : okSx xs k = (isS x && ahead8 xs x k) := by
  unfold okSx
  rw [h]
theorem ahead8_at {xs : List S6} {m : Nat} {x y : S6} (h2 : xs[m]? = some y) : ahead8 xs x (m + 1) = bytesLess y.name.toList x.name.toList := by
  simp only [ahead8, h2]
def badX (xs : List S6) (k : Nat) (f : ByteArray) : Bool := match xs[k]? with
  | none => false
  | some s => ufB f.data.toList (idxI s.items f.data.toList)
def keptX (xs : List S6) (u : X_IndexDef) : Bool := match fndS xs u.f_Store with
  | none => false
  | some k => isN u.f_Field.data.toList && !badX xs k u.f_Field
def freshX (us : List X_IndexDef) (u : X_IndexDef) (i : Nat) : Bool := (us.take i).all fun v => !eqX v u
def okUx (xs : List S6) (us : List X_IndexDef) (i : Nat) : Bool := match us[i]? with
  | none => true
  | some u => keptX xs u && freshX us u i
theorem okUx_at {xs : List S6} {us : List X_IndexDef} {k : Nat} {u : X_IndexDef} (h : us[k]? = some u) : okUx xs us k = (keptX xs u && freshX us u k) := by
  unfold okUx
  rw [h]
def allTo (p : Nat → Bool) (n : Nat) : Bool := (List.range n).all p
theorem allTo_all {p : Nat → Bool} {n : Nat} (h : ∀ i, i < n → p i = true) : allTo p n = true := List.all_eq_true.2 fun i hi => h i (List.mem_range.1 hi)
theorem allTo_at {p : Nat → Bool} {n : Nat} (h : allTo p n = true) (i : Nat) (hi : i < n) : p i = true := (List.all_eq_true.1 h) i (List.mem_range.2 hi)
theorem allTo_no {p : Nat → Bool} {n : Nat} (i : Nat) (hi : i < n) (h : p i = false) : allTo p n = false := by
  cases h1 : allTo p n with
  | false => rfl
  | true => rw [allTo_at h1 i hi] at h; cases h
theorem fresh_all {us : List X_IndexDef} {u : X_IndexDef} {i : Nat} (h : ∀ j (hj : j < us.length), j < i → eqX us[j] u = false) : freshX us u i = true := by
  unfold freshX
  rw [List.all_eq_true]
  intro v hv
  obtain ⟨j, hj, rfl⟩ := List.getElem_of_mem hv
  rw [List.length_take] at hj
  rw [List.getElem_take, h j (by omega) (by omega)]
  rfl
theorem fresh_no {us : List X_IndexDef} {u : X_IndexDef} {i : Nat} (j : Nat) (hj : j < us.length) (hi : j < i) (h : eqX us[j] u = true) : freshX us u i = false := by
  cases h1 : freshX us u i with
  | false => rfl
  | true =>
    unfold freshX at h1
    rw [List.all_eq_true] at h1
    have h2 := h1 us[j] (List.mem_iff_getElem.2 ⟨j, by rw [List.length_take]; omega, by rw [List.getElem_take]⟩)
    rw [h] at h2
    cases h2
def isD (d : X_Database) : Bool := allTo (okSx d.f_Stores) d.f_Stores.length && (allTo (okUx d.f_Stores d.f_Unique) d.f_Unique.length && (isN d.f_Name.data.toList && (L1.inB d.f_Version 0 1000 && (decide (d.f_Stores.length ≤ 4) && decide (d.f_Unique.length ≤ 4)))))

/-! ### its changes -/
/-! ### what the contracts ask -/
structure FitX (u : X_IndexDef) : Prop where
  store : u.f_Store.size ≤ 281474976710656
  field : u.f_Field.size ≤ 281474976710656
structure FitD (d : X_Database) : Prop where
  name : d.f_Name.size ≤ 281474976710656
  len : d.f_Stores.length ≤ 1048576
  stores : ∀ s ∈ d.f_Stores, FitS s
  many : d.f_Unique.length ≤ 1048576
  unique : ∀ u ∈ d.f_Unique, FitX u
section
variable {w : World} {B : Nat} {z : Y_Database}
theorem rdS (h : RowsRd w B (rw_Database z)) : Reads w B z.f_Stores_a (z.f_Stores.flatMap cl_Store) := (rd_head (rd_left h)).reads
theorem rdX (h : RowsRd w B (rw_Database z)) : RowsRd w B (rws_Store z.f_Stores) := rd_tail (rd_left h)
theorem rdU (h : RowsRd w B (rw_Database z)) : Reads w B z.f_Unique_a (z.f_Unique.flatMap cl_IndexDef) := (rd_head (rd_right h)).reads
theorem co_len : (co_Database z).f_Stores.length = z.f_Stores.length := by show (coS_Store z.f_Stores).length = _; rw [coS_Store_eq, List.length_map]
theorem coS_at {ss : List LS} {k : Nat} {x : LS} (h : ss[k]? = some x) : (coS_Store ss)[k]? = some x.con := by rw [coS_Store_eq, List.getElem?_map, h]; rfl
theorem coS_len {ss : List LS} : (coS_Store ss).length = ss.length := by rw [coS_Store_eq, List.length_map]
theorem rd_store {ss : List LS} (h : RowsRd w B (rws_Store ss)) {k : Nat} {x : LS} (hx : ss[k]? = some x) : RowsRd w B x.rows := rd_el (rw_ := rw_Store) h hx
theorem fit_store {ss : List LS} (h : ∀ s ∈ coS_Store ss, FitS s) {k : Nat} {x : LS} (hx : ss[k]? = some x) : FitS x.con := h _ (List.mem_of_getElem? (coS_at hx))
end
end Go.Proofs.Ytboefioalkjdaaa.L8

/-
  What the room of the exact laws tells: fits from weights; the weight of an upgraded database. (By hand.)
-/
namespace Go.Proofs.Ytboefioalkjdaaa.L8
set_option maxRecDepth 100000
open V L6 L7
open L4 (K isK cmpK)
open L5 (F isR isN string_geq Small)
open Go.ChangeShapes Go.WideShapes Go.ChangeAt Go.RowKit Mem Sl Ex L2 Sv Bag
set_option linter.unusedVariables false
set_option linter.unusedSimpArgs false

theorem fitR_wt {l : List F} (h : wt_Record l ≤ 1048576) : l.length ≤ 1048576 ∧ Small l := by
  have h1 : l.length ≤ wt_Record l := wsum_len wt_Field l
  refine ⟨by omega, fun f hf => ?_⟩
  have h2 : wt_Field f + 1 ≤ wt_Record l := wsum_mem hf
  have h3 : wt_Field f = f.name.size := rfl
  omega
theorem fitI_wt {x : It} (h : wt_Item x ≤ 1048576) : FitI x := by
  have h1 : wt_Item x = x.k.text.size + wt_Record x.l := rfl
  obtain ⟨h2, h3⟩ := fitR_wt (l := x.l) (by omega)
  exact ⟨by omega, h2, h3⟩
theorem fitS_wt {s : S6} (h : wt_Store s ≤ 1048576) : FitS s := by
  have h1 : wt_Store s = s.name.size + wsum wt_Item s.items := rfl
  have h2 := wsum_len wt_Item s.items
  refine ⟨by omega, by omega, fun x hx => fitI_wt ?_⟩
  have h3 : wt_Item x + 1 ≤ wsum wt_Item s.items := wsum_mem hx
  omega
theorem fitX_wt {u : X_IndexDef} (h : wt_IndexDef u ≤ 1048576) : FitX u := by
  have h1 : wt_IndexDef u = u.f_Store.size + u.f_Field.size := rfl
  exact ⟨by omega, by omega⟩
theorem fitD_wt {d : X_Database} (h : wt_Database d ≤ 1048576) : FitD d := by
  have h1 : wt_Database d = d.f_Name.size + (wsum wt_Store d.f_Stores + wsum wt_IndexDef d.f_Unique) := rfl
  have h2 := wsum_len wt_Store d.f_Stores
  have h3 := wsum_len wt_IndexDef d.f_Unique
  refine ⟨by omega, by omega, fun s hs => fitS_wt ?_, by omega, fun u hu => fitX_wt ?_⟩
  · have h4 : wt_Store s + 1 ≤ wsum wt_Store d.f_Stores := wsum_mem hs
    omega
  · have h4 : wt_IndexDef u + 1 ≤ wsum wt_IndexDef d.f_Unique := wsum_mem hu
    omega
end Go.Proofs.Ytboefioalkjdaaa.L8

/-
  A region that draws its order and ends in a store into a cell that it loads: what holds throughout, and what holds till the store has come up. No condition.
-/
namespace Go.Proofs.Ytboefioalkjdaaa.Reg
set_option maxRecDepth 100000
/-! ### A region whose one late operation (a store) ends what some loads read: S0 holds throughout, S1 till number q has come up; whoever reads S1 is waited for by q. -/
section
variable {P : Program} {ops : Array Oper} {Q : Exit → Act → World → Prop} {md : Region.Mode} {S0 S1 : World → Prop} {q : Nat}
def Tier (S0 S1 : World → Prop) (q : Nat) (listed : Array Bool) (i : Nat) (w : World) : Prop := S0 w ∧ (i ≠ q → listed.getD q true = false → S1 w)
def anyL (P : Program) (md : Region.Mode) (ops : Array Oper) (Q : Exit → Act → World → Prop) (S0 S1 : World → Prop) (q : Nat) : Nat → Array Bool → Act → World → Prop
  | 0, L, a, w => Region.ready md ops L = [] ∧ Q .normal a w
  | n + 1, L, a, w => (Region.ready md ops L = [] → Q .normal a w) ∧ ∀ i, i ∈ Region.ready md ops L → wpOp P ops Q i (fun a' w' => Tier S0 S1 q L i w' ∧ anyL P md ops Q S0 S1 q n (L.setIfInBounds i true) a' w') a w
theorem anyL_plain : ∀ (n : Nat) (L : Array Bool) (a : Act) (w : World), anyL P md ops Q S0 S1 q n L a w → wpAny P md ops Q n L a w
  | 0, _, _, _, h => h
  | n + 1, _, _, _, h => ⟨h.1, fun i hi => wpOp_mono (fun a' w' h' => anyL_plain n _ a' w' h'.2) (h.2 i hi)⟩
theorem anyL_first {i : Nat} {oi : Oper} {v : Value} {T : World → Prop} (hi : ops[i]? = some oi) (hsel : ∀ (j : Nat) (o : Oper) cs b, ops[j]? = some o → o.op ≠ .select cs b) (hQ : ∀ c a w, Q (.panic c) (a.put oi.dst v) w → Q (.panic c) a w)
    (hiq : i ≠ q)
    (hT : (∀ w, S0 w → T w) ∨ ((∀ w, S0 w → S1 w → T w) ∧ ∃ oq, ops[q]? = some oq ∧ ∃ e ∈ oq.after, Region.binds md e = true ∧ e.on = i)) :
    ∀ (n : Nat) (L : Array Bool) (a : Act) (w : World), ((∀ w, S0 w → T w) ∨ L.getD q true = false) →
      (∀ j oj, ops[j]? = some oj → j ≠ i → L.getD j true = false → (∀ e ∈ oj.after, Region.binds md e = true → e.on ≠ i) → oi.apart ops oj = true) →
      i ∈ Region.ready md ops L → YieldsIf P ops T oi v a → (S0 w ∧ (L.getD q true = false → S1 w)) →
      anyL P md ops Q S0 S1 q n (L.setIfInBounds i true) (a.put oi.dst v) w → anyL P md ops Q S0 S1 q (n + 1) L a w := by
  have hTw : ∀ (L : Array Bool) (w : World), ((∀ w, S0 w → T w) ∨ L.getD q true = false) → S0 w → (L.getD q true = false → S1 w) → T w := fun L w hL h0 h1 => by
    rcases hT with h | ⟨h, _⟩
    · exact h w h0
    · rcases hL with h2 | h2
      · exact h2 w h0
      · exact h w h0 (h1 h2)
  intro n
  induction n with
  | zero =>
    intro L a w hL hfree hr hy hS H
    refine ⟨fun h => (by rw [h] at hr; cases hr), fun j hj => ?_⟩
    by_cases hji : j = i
    · subst hji
      exact hy.wpOp hi (hTw L w hL hS.1 hS.2) ⟨⟨hS.1, fun _ => hS.2⟩, H⟩
    · have := ready_mono hj hji
      rw [H.1] at this
      cases this
  | succ n ih =>
    intro L a w hL hfree hr hy hS H
    refine ⟨fun h => (by rw [h] at hr; cases hr), fun j hj => ?_⟩
    by_cases hji : j = i
    · subst hji
      exact hy.wpOp hi (hTw L w hL hS.1 hS.2) ⟨⟨hS.1, fun _ => hS.2⟩, H⟩
    · have h1 := H.2 j (ready_mono hj hji)
      obtain ⟨hjun, oj, hoj, hall⟩ := mem_ready.1 hj
      have hnot : ∀ e ∈ oj.after, Region.binds md e = true → e.on ≠ i := fun e he hb heq => by
        have g1 := hall e he hb
        have g0 := (mem_ready.1 hr).1
        rw [heq] at g1
        rcases Nat.lt_or_ge i L.size with h' | h'
        · simp [h'] at g0 g1; rw [g0] at g1; cases g1
        · simp [Array.getElem?_eq_none h'] at g1
      have h2 := wpOp_putIf hoj (hfree j oj hoj hji hjun hnot) (fun cs b => hsel i oi cs b hi) (fun cs b => hsel j oj cs b hoj) hQ hy h1
      have hfree' : ∀ k ok, ops[k]? = some ok → k ≠ i → (L.setIfInBounds j true).getD k true = false → (∀ e ∈ ok.after, Region.binds md e = true → e.on ≠ i) → oi.apart ops ok = true := fun k ok hk hki hun hno => by
        refine hfree k ok hk hki ?_ hno
        by_cases hjk : j = k
        · subst hjk; exact hjun
        · rw [getD_set_ne true hjk] at hun; exact hun
      -- the late one is not j, where it waits for i
      have hL' : (∀ w, S0 w → T w) ∨ (L.setIfInBounds j true).getD q true = false := by
        rcases hT with h | ⟨_, oq, hoq, e, he, hb, hei⟩
        · exact .inl h
        · rcases hL with h | h
          · exact .inl h
          · by_cases hjq : j = q
            · subst hjq
              rw [hoj] at hoq
              injection hoq with hoq
              subst hoq
              exact absurd hei (hnot e he hb)
            · exact .inr (by rw [getD_set_ne true hjq]; exact h)
      refine wpOp_mono (fun a' w' h3 => ?_) h2
      obtain ⟨hy', ⟨t0, t1⟩, hrest⟩ := h3
      have hS' : S0 w' ∧ ((L.setIfInBounds j true).getD q true = false → S1 w') := ⟨t0, fun hq => by
        by_cases hjq : j = q
        · subst hjq
          rcases Nat.lt_or_ge j L.size with h' | h'
          · simp [h'] at hq
          · simp at hq
        · rw [getD_set_ne true hjq] at hq
          exact t1 hjq (by rw [getD_set_ne true hiq]; exact hq)⟩
      refine ⟨⟨t0, fun hjq hq => ?_⟩, ih (L.setIfInBounds j true) a' w' hL' hfree' (ready_mono hr (Ne.symm hji)) hy' hS' ?_⟩
      · exact hS'.2 (by rw [getD_set_ne true hjq]; exact hq)
      · rw [Array.setIfInBounds_comm _ _ hji]
        exact hrest
theorem wp_region_late {id : Nat} {a : Act} {w : World} (S0 S1 : World → Prop) (q : Nat) (hm : P.follows .mixedOrders = true) (h0 : S0 w.drew) (h1 : S1 w.drew)
    (h : S0 w.drew → S1 w.drew → anyL P .any ops Q S0 S1 q ops.size (Array.replicate ops.size false) a w.drew) : (Code.region id ops true).wp P Q a w :=
  wp_region_any hm (anyL_plain _ _ _ _ (h h0 h1))
end
section
variable {P : Program} {l : List Oper} {Q : Exit → Act → World → Prop} {md : Region.Mode} {S0 S1 : World → Prop} {q fuel i : Nat} {oi : Oper} {v : Value} {listed : Array Bool} {a : Act} {w : World}
def waits (md : Region.Mode) (l : List Oper) (q i : Nat) : Bool := match nthO q l with
  | none => false
  | some o => o.after.any fun e => Region.binds md e && e.on == i
theorem early_op (hi : nthO i l = some oi) (hs : Region.noSelect l.toArray = true) (hf : Region.free md l.toArray listed i = true) (hr : (Region.ready md l.toArray listed).contains i = true) (hiq : (i == q) = false) (hq : waits md l q i = true) (hl : listed.getD q true = false)
    (hQ : ∀ c a w, Q (.panic c) (a.put oi.dst v) w → Q (.panic c) a w) (hw : Region.wanted oi (yielded l.toArray a.tmps) = true) (hy : ∀ w, S0 w → S1 w → (execOp a.eval oi).run P w = .ok (.value v) w) (h0 : S0 w) (h1 : S1 w)
    (h : anyL P md l.toArray Q S0 S1 q fuel (listed.setIfInBounds i true) (a.put oi.dst v) w) : anyL P md l.toArray Q S0 S1 q (fuel + 1) listed a w := by
  refine anyL_first (T := fun w => S0 w ∧ S1 w) (by rw [nthO_eq]; exact hi) (Region.noSelect_spec hs) hQ (by simpa using hiq) (.inr ⟨fun w a b => ⟨a, b⟩, ?_⟩) fuel listed a w (.inr hl) (Region.free_spec (by rw [nthO_eq]; exact hi) hf) (by simpa using hr) (.inl ⟨hw, fun w hh => hy w hh.1 hh.2⟩) ⟨h0, fun _ => h1⟩ h
  unfold waits at hq
  cases ho : nthO q l with
  | none => rw [ho] at hq; cases hq
  | some o =>
    rw [ho] at hq
    simp only [Array.any_eq_true, Bool.and_eq_true, beq_iff_eq] at hq
    obtain ⟨j, hj, h2, h3⟩ := hq
    exact ⟨o, by rw [nthO_eq]; exact ho, _, Array.getElem_mem hj, h2, h3⟩
theorem plain_op (hi : nthO i l = some oi) (hs : Region.noSelect l.toArray = true) (hf : Region.free md l.toArray listed i = true) (hr : (Region.ready md l.toArray listed).contains i = true) (hiq : (i == q) = false)
    (hQ : ∀ c a w, Q (.panic c) (a.put oi.dst v) w → Q (.panic c) a w) (hw : Region.wanted oi (yielded l.toArray a.tmps) = true) (hy : ∀ w, S0 w → (execOp a.eval oi).run P w = .ok (.value v) w) (h0 : S0 w) (h1 : listed.getD q true = false → S1 w)
    (h : anyL P md l.toArray Q S0 S1 q fuel (listed.setIfInBounds i true) (a.put oi.dst v) w) : anyL P md l.toArray Q S0 S1 q (fuel + 1) listed a w :=
  anyL_first (T := S0) (by rw [nthO_eq]; exact hi) (Region.noSelect_spec hs) hQ (by simpa using hiq) (.inl fun _ h => h) fuel listed a w (.inl fun _ h => h) (Region.free_spec (by rw [nthO_eq]; exact hi) hf) (by simpa using hr) (.inl ⟨hw, hy⟩) ⟨h0, h1⟩ h
theorem late_op (hi : nthO i l = some oi) (hr : Region.ready md l.toArray listed = [i]) (hiq : (i == q) = true)
    (h : ∀ K' : Act → World → Prop, Shut (∀ a w, S0 w → (S0 w → anyL P md l.toArray Q S0 S1 q fuel (listed.setIfInBounds i true) a w) → K' a w) → if Region.wanted oi (yielded l.toArray a.tmps) = true then Oper.wp P oi a w K' Q else K' (a.put oi.dst undef) w) :
    anyL P md l.toArray Q S0 S1 q (fuel + 1) listed a w := by
  refine ⟨fun h0 => (by rw [hr] at h0; cases h0), fun j hj => ?_⟩
  rw [hr] at hj
  obtain rfl := List.mem_singleton.1 hj
  exact wpOp_step (by rw [nthO_eq]; exact hi) (fun K' hK => h K' (fun a w h0 hW => hK a w ⟨⟨h0, fun hn => absurd (by simpa using hiq) hn⟩, hW h0⟩))
theorem anyL_done {l : Array Oper} {listed : Array Bool} {a : Act} {w : World} (hr : Region.ready md l listed = []) (h : Q .normal a w) : ∀ fuel, anyL P md l Q S0 S1 q fuel listed a w
  | 0 => ⟨hr, h⟩
  | _ + 1 => ⟨fun _ => h, by rw [hr]; simp⟩
end
end Go.Proofs.Ytboefioalkjdaaa.Reg

/-
  The contracts of chapter 6's functions of the specification: l6Item, l6Copy. Conditions: keys' texts of at most 2^40 bytes, at most 2^20 fields and items. (Written by my program gen_l6a.py.)
-/
namespace Go.Proofs.Ytboefioalkjdaaa.L6
set_option maxRecDepth 100000
open L4 (K isK cmpK R inR encU)
open L5 (F isR isN cellsF encR eqR Small)
open Go.ChangeShapes Go.WideShapes Go.ChangeAt Go.RowKit Mem Sl Ex L2 Sv Bag
set_option linter.unusedVariables false
set_option linter.unusedSimpArgs false

set_option maxHeartbeats 2000000 in
theorem l6Item_any (kd n : Int) (s : ByteArray) (a : Option Addr) (c : Nat) (l : List F) (hl : l.length ≤ 1048576) (w : World) (hr : Reads w w.heap.size a (cellsF l)) :
    Calls Try.prog 66 #[.agg #[.int .i64 kd, .int .i64 n, .string s, .slice a l.length c]] w (GaveI w ⟨⟨kd, n, s⟩, l⟩) := by
  have HC := Lib.hid (fun w' (h : Below w.heap.size w w') => L5.l5Copy_any a c l (by have := hl; omega) w' ((hr.below h).more h.size))
  obtain ⟨N, hN⟩ : ∃ n, n = l.length := ⟨_, rfl⟩
  rw [← hN] at HC ⊢
  have HN := Lib.hid hN
  clear hN hr hl
  have S1 := Lib.hid (show Sl.Sep w ((w.alloc (.cells #[.int .i64 kd, .int .i64 n, .string s, .slice a N c] 72)).alloc (.cells #[.int .i64 0, .int .i64 0, .string ⟨#[]⟩, .slice none 0 0] 72)) [L4.boxR w.heap.size 72 #[.int .i64 kd, .int .i64 n, .string s, .slice a N c], L4.boxR (w.heap.size + 1) 72 #[.int .i64 0, .int .i64 0, .string ⟨#[]⟩, .slice none 0 0]] from L4.push_box (L4.push_box (Sl.Sep.start w) 72 #[.int .i64 kd, .int .i64 n, .string s, .slice a N c] (w.heap.size) (by simp)) 72 #[.int .i64 0, .int .i64 0, .string ⟨#[]⟩, .slice none 0 0] (w.heap.size + 1) (by simp))
  obtain ⟨wa, hwa⟩ : ∃ u, u = ((w.alloc (.cells #[.int .i64 kd, .int .i64 n, .string s, .slice a N c] 72)).alloc (.cells #[.int .i64 0, .int .i64 0, .string ⟨#[]⟩, .slice none 0 0] 72)) := ⟨_, rfl⟩
  rw [← hwa] at S1
  go_enter Try.func66, Try.ntmps66
  go_upto_region 1 with fail
  rw [← hwa]
  clear hwa
  go_upto_region 1 with fail
  refine wp_region_held_drew (S := (fun w' => (World.cell? w' ⟨w.heap.size, 0, none⟩ = some (.int .i64 kd) ∧ World.cell? w' ⟨w.heap.size, 1, none⟩ = some (.int .i64 n) ∧ World.cell? w' ⟨w.heap.size, 2, none⟩ = some (.string s) ∧ World.cell? w' ⟨w.heap.size, 3, none⟩ = some (.slice a N c)))) (by kernel_rfl) (Bag.cs4 (Bag.drew1 S1.out) 0 rfl) (fun hS => ?_)
  have S2 := Lib.hid (show Sl.Sep w _ [L4.boxR w.heap.size 72 #[.int .i64 kd, .int .i64 n, .string s, .slice a N c], L4.boxR (w.heap.size + 1) 72 #[.int .i64 0, .int .i64 0, .string ⟨#[]⟩, .slice none 0 0]] from Bag.drew1 S1.out)
  clear S1
  generalize World.drew _ = w1 at hS S2 ⊢
  refine tk 0 rfl ?_
  try simp only [zp0, zp1, zp2, zp3, zp4]
  refine tk 1 rfl ?_
  try simp only [zp0, zp1, zp2, zp3, zp4]
  refine tk 2 rfl ?_
  try simp only [zp0, zp1, zp2, zp3, zp4]
  refine tk 3 rfl ?_
  try simp only [zp0, zp1, zp2, zp3, zp4]
  refine Reg.one_op (i := 4) rfl (by kernel_rfl) (fun K hK => ?_)
  go_simp
  go_at_call 81
  refine (HC.out _ S2.out.old).mono ?_
  rintro e w2 ⟨a1, c1, rfl, ho, hb⟩
  have S3 := Lib.hid (show Sl.Sep w _ [L4.boxR w.heap.size 72 #[.int .i64 kd, .int .i64 n, .string s, .slice a N c], L4.boxR (w.heap.size + 1) 72 #[.int .i64 0, .int .i64 0, .string ⟨#[]⟩, .slice none 0 0], Sv.ownV 92 2 a1 c1 N (cellsF l)] from Sv.push_own S2.out hb ho)
  clear S2
  clear hb ho
  go_wp2_with fail
  refine hK.out _ _ (Bag.cs4 S3.out 0 rfl) (fun hS => ?_)
  clear hK K
  try simp only [zp0, zp1, zp2, zp3, zp4]
  refine tk 5 rfl ?_
  try simp only [zp0, zp1, zp2, zp3, zp4]
  refine Reg.one_op (i := 6) rfl (by kernel_rfl) (fun K hK => ?_)
  have hh := Bag.cs4 S3.out 1 rfl
  have f0 := hh.1; have f1 := hh.2.1; have f2 := hh.2.2.1; have f3 := hh.2.2.2; clear hh
  have hh := Bag.fs4 S3.out 1 rfl
  have z0 := hh.1; have z1 := hh.2.1; have z2 := hh.2.2.1; have z3 := hh.2.2.2; clear hh
  go_simp
  clear f0 f1 f2 f3 z0 z1 z2 z3
  have S4 := Lib.hid (show Sl.Sep w _ [L4.boxR w.heap.size 72 #[.int .i64 kd, .int .i64 n, .string s, .slice a N c], L4.boxR (w.heap.size + 1) 72 #[.int .i64 kd, .int .i64 n, .string s, .slice a1 N c1], Sv.ownV 92 2 a1 c1 N (cellsF l)] from L5.put_box5 (L5.put_box5 (L5.put_box5 (L5.put_box5 (S3.out) 1 rfl 0 (.int .i64 kd)) 1 rfl 1 (.int .i64 n)) 1 rfl 2 (.string s)) 1 rfl 3 (.slice a1 N c1))
  clear S3
  refine hK.out _ _ (Bag.cs4 S4.out 0 rfl) (fun hS => ?_)
  clear hK K
  try simp only [zp0, zp1, zp2, zp3, zp4]
  refine wpAnyH_done (by kernel_rfl) ?_ _
  have hh := Bag.cs4 S4.out 0 rfl
  have f0 := hh.1; have f1 := hh.2.1; have f2 := hh.2.2.1; have f3 := hh.2.2.2; clear hh
  have hh := Bag.cs4 S4.out 1 rfl
  have f4 := hh.1; have f5 := hh.2.1; have f6 := hh.2.2.1; have f7 := hh.2.2.2; clear hh
  go_wp2_with fail
  refine bodyPost_ret (v := .agg #[.int .i64 kd, .int .i64 n, .string s, .slice a1 N c1]) (by simp [results, Try.results66, go_sem, *]) rfl ?_
  have hb := Bag.bag_from (Bag.bag_of_one S4.out 2 (r := (LI.mk ⟨kd, n, s⟩ a1 c1 l).row) (by show some _ = some _; rw [HN.out]; rfl)) 2 rfl
  exact ⟨a1, c1, by rw [HN.out], hb, S4.out.old⟩
theorem infoItem : (Try.prog.info? 72).map (fun i => (i.zero, i.size, i.bytes)) = some (some (.agg #[.int .i64 0, .int .i64 0, .string ⟨#[]⟩, .slice none 0 0]), 4, 56) := by kernel_rfl
theorem itemInfo : ∃ i, Try.prog.info? 72 = some i ∧ i.zero = some (.agg #[.int .i64 0, .int .i64 0, .string ⟨#[]⟩, .slice none 0 0]) ∧ i.size = 4 ∧ i.bytes = 56 := by
  have h := infoItem
  rw [Option.map_eq_some_iff] at h
  obtain ⟨i, h1, h2⟩ := h
  simp only [Prod.mk.injEq] at h2
  exact ⟨i, h1, h2⟩
theorem readsI_at {w : World} {B : Nat} {ad : Addr} {xs : List LI} (h : Reads w B (some ad) (cellsI xs)) (j : Nat) (x : LI) (hx : xs[j]? = some x) :
    w.cell? (ad.add (j * 4)) = some (.int .i64 x.k.kind) ∧ w.cell? ⟨(ad.add (j * 4)).block, (ad.add (j * 4)).off + 1, none⟩ = some (.int .i64 x.k.n) ∧ w.cell? ⟨(ad.add (j * 4)).block, (ad.add (j * 4)).off + 2, none⟩ = some (.string x.k.text) ∧ w.cell? ⟨(ad.add (j * 4)).block, (ad.add (j * 4)).off + 3, none⟩ = some (.slice x.a x.l.length x.c) := by
  obtain ⟨hj, rfl⟩ := List.getElem?_eq_some_iff.1 hx
  obtain ⟨ad', e, _, h1⟩ := readsI h j hj
  injection e with e
  subst e
  exact h1
theorem readsI_some {w : World} {B : Nat} {a : Option Addr} {xs : List LI} (h : Reads w B a (cellsI xs)) (j : Nat) (hj : j < xs.length) : ∃ ad x, a = some ad ∧ xs[j]? = some x := by
  obtain ⟨ad, e, _⟩ := readsI h j hj
  exact ⟨ad, _, e, List.getElem?_eq_getElem hj⟩
theorem rowsI_mem {xs : List LI} {j : Nat} {x : LI} (hx : xs[j]? = some x) : x.row ∈ rowsI xs := by
  obtain ⟨hj, rfl⟩ := List.getElem?_eq_some_iff.1 hx
  exact rowsI_at xs j hj
theorem fit_at {xs : List LI} {j : Nat} {x : LI} (h : ∀ y ∈ conI xs, FitI y) (hx : xs[j]? = some x) : FitI x.con := by
  obtain ⟨hj, rfl⟩ := List.getElem?_eq_some_iff.1 hx
  exact h _ (List.mem_map.2 ⟨_, List.getElem_mem hj, rfl⟩)
end Go.Proofs.Ytboefioalkjdaaa.L6

/-
  The contracts of chapter 6's functions of the specification that only read: FindItem, IsStore, EqualStores, SizeStore. Conditions: keys' texts of at most 2^40 bytes, at most 2^20 fields and items. (Written by my program gen_l6b.py.)
-/
namespace Go.Proofs.Ytboefioalkjdaaa.L6
set_option maxRecDepth 100000
open L4 (K isK cmpK R inR encU)
open L5 (F isR isN cellsF encR eqR Small)
open Go.ChangeShapes Go.WideShapes Go.ChangeAt Go.RowKit Mem Sl Ex L2 Sv Bag
set_option linter.unusedVariables false
set_option linter.unusedSimpArgs false

theorem con_of {xs : List LI} {k : Nat} {x : LI} (hx : xs[k]? = some x) : (conI xs)[k]? = some x.con := by unfold conI; rw [List.getElem?_map, hx]; rfl
set_option maxHeartbeats 8000000 in
theorem specIsStore_any (y : LS) (hf : FitS y.con) (w : World) (hr : RowsRd w w.heap.size y.rows) :
    Calls Try.prog 20 #[y.v] w fun e w' => e = .returned (.bool (isS y.con)) ∧ Below w.heap.size w w' := by
  obtain ⟨name, a, c, xs, auto⟩ := y
  have HR := Lib.hid (fun w' (h : Below w.heap.size w w') => LS.outer (hr.below h))
  have HX := Lib.hid (fun w' (h : Below w.heap.size w w') => (LS.inner (hr.below h)).more h.size)
  have HF := Lib.hid hf.items
  have HNM := Lib.hid hf.name
  have hl := hf.len
  simp only [LS.con, conI_length] at hl
  dsimp only [LS.con] at HR HX HF HNM
  try unfold LS.v LS.cells LS.con
  try dsimp only
  obtain ⟨N, hN⟩ : ∃ n, n = xs.length := ⟨_, rfl⟩
  rw [← hN] at hl ⊢
  have hl' : (N : Int) ≤ 1048576 := by omega
  have HN := Lib.hid hN
  clear hN hr hf
  have S1 := Lib.hid (show Sl.Sep w (w.alloc (.cells #[.string name, .slice a N c, .int .i64 auto] 44)) [L4.boxR w.heap.size 44 #[.string name, .slice a N c, .int .i64 auto]] from L4.push_box (Sl.Sep.start w) 44 #[.string name, .slice a N c, .int .i64 auto] (w.heap.size) (by simp))
  obtain ⟨wa, hwa⟩ : ∃ u, u = (w.alloc (.cells #[.string name, .slice a N c, .int .i64 auto] 44)) := ⟨_, rfl⟩
  rw [← hwa] at S1
  go_enter Try.func20, Try.ntmps20
  go_upto_region 1 with fail
  rw [← hwa]
  clear hwa
  go_wp2_with fail
  go_loopw [3] (fun i wr => ∃ k : Nat, k ≤ N ∧ i = .int .i64 k ∧ Hid ((∀ j, j < k → okIx (conI xs) j = true) ∧ Sl.Sep w wr [L4.boxR w.heap.size 44 #[.string name, .slice a N c, .int .i64 auto]])) (fun i _ => N - (intOf i).toNat)
  case atStart => exact ⟨0, Nat.zero_le _, rfl, And.intro (fun j h => absurd h (by omega)) S1.out⟩
  case round =>
    obtain ⟨k, hk, rfl, hrel⟩ := hrel
    have HA := Lib.hid hrel.out.1
    have S2 := Lib.hid hrel.out.2
    clear hrel S1
    by_cases hlt : (k : Int) < (N : Int)
    · skip
      have hkl : k < xs.length := by have := HN.out; omega
      obtain ⟨ad, x, rfl, hx⟩ := readsI_some (HR.out _ S2.out.old) k hkl
      obtain ⟨⟨kd, n, t⟩, ia, ic, l⟩ := x
      have HK := Lib.hid (fun w' (h : Below w.heap.size w w') => readsI_at (HR.out _ h) k _ hx)
      try dsimp only at HK
      have HFI := Lib.hid (fit_at HF.out hx)
      try dsimp only [LI.con] at HFI
      have hci : k < (conI xs).length := by rw [conI_length]; exact hkl
      have HC := Lib.hid (show (conI xs)[k]? = some (⟨⟨kd, n, t⟩, l⟩ : It) from con_of hx)
      obtain ⟨bk, hbk⟩ : ∃ b, isK ⟨kd, n, t⟩ = b := ⟨_, rfl⟩
      have HIK := fun w => L4.specIsKey_any ⟨kd, n, t⟩ (by have : t.size ≤ 1099511627776 := HFI.out.text; show t.size ≤ _; omega) w
      rw [hbk] at HIK
      replace HIK := Lib.hid HIK
      have HBK := Lib.hid hbk
      obtain ⟨br, hbr⟩ : ∃ b, isR l = b := ⟨_, rfl⟩
      have HIR := fun w' (h : Below w.heap.size w w') => L5.specIsRecord_any ia ic l (by have : l.length ≤ 1048576 := HFI.out.len; omega) HFI.out.small w' (((HX.out _ h).at_ (rowsI_mem hx)).reads)
      rw [hbr] at HIR
      replace HIR := Lib.hid HIR
      have HBR := Lib.hid hbr
      clear hbk hbr
      have hh := Bag.cs3 S2.out 0 rfl
      have f0 := hh.1; have f1 := hh.2.1; have f2 := hh.2.2; clear hh
      have hh := HK.out _ S2.out.old
      have f3 := hh.1; have f4 := hh.2.1; have f5 := hh.2.2.1; have f6 := hh.2.2.2; clear hh
      cases bk with
      | false =>
        go_upto_region 4 with fail
        clear f0 f1 f2 f3 f4 f5 f6
        refine wp_region_held_drew (S := (fun w' => (World.cell? w' ⟨w.heap.size, 0, none⟩ = some (.string name) ∧ World.cell? w' ⟨w.heap.size, 1, none⟩ = some (.slice (some ad) N c) ∧ World.cell? w' ⟨w.heap.size, 2, none⟩ = some (.int .i64 auto)) ∧ (World.cell? w' (ad.add (k * 4)) = some (.int .i64 kd) ∧ World.cell? w' (⟨(ad.add (k * 4)).block, (ad.add (k * 4)).off + 1, none⟩) = some (.int .i64 n) ∧ World.cell? w' (⟨(ad.add (k * 4)).block, (ad.add (k * 4)).off + 2, none⟩) = some (.string t) ∧ World.cell? w' (⟨(ad.add (k * 4)).block, (ad.add (k * 4)).off + 3, none⟩) = some (.slice ia l.length ic)))) (by kernel_rfl) ⟨Bag.cs3 (Bag.drew1 S2.out) 0 rfl, HK.out _ (Bag.drew1 S2.out).old⟩ (fun hS => ?_)
        have S3 := Lib.hid (show Sl.Sep w _ [L4.boxR w.heap.size 44 #[.string name, .slice (some ad) N c, .int .i64 auto]] from Bag.drew1 S2.out)
        clear S2
        generalize World.drew _ = w1 at hS S3 ⊢
        refine tk 0 rfl ?_
        try simp only [zp0, zp1, zp2, zp3, zp4]
        refine tk 1 rfl ?_
        try simp only [zp0, zp1, zp2, zp3, zp4]
        refine tk 2 rfl ?_
        try simp only [zp0, zp1, zp2, zp3, zp4]
        refine tk 3 rfl ?_
        try simp only [zp0, zp1, zp2, zp3, zp4]
        refine tk 4 rfl ?_
        try simp only [zp0, zp1, zp2, zp3, zp4]
        refine tk 5 rfl ?_
        try simp only [zp0, zp1, zp2, zp3, zp4]
        refine Reg.one_op (i := 6) rfl (by kernel_rfl) (fun K hK => ?_)
        go_simp
        go_at_call 42
        refine (HIK.out _).mono ?_
        rintro e w2 ⟨rfl, hb⟩
        have S4 := Lib.hid (S3.out.keep hb)
        clear S3
        clear hb
        go_wp2_with fail
        refine hK.out _ _ ⟨Bag.cs3 S4.out 0 rfl, HK.out _ S4.out.old⟩ (fun hS => ?_)
        clear hK K
        try simp only [zp0, zp1, zp2, zp3, zp4]
        refine tk 7 rfl ?_
        try simp only [zp0, zp1, zp2, zp3, zp4]
        refine tk 8 rfl ?_
        try simp only [zp0, zp1, zp2, zp3, zp4]
        refine sk 9 rfl ?_
        try simp only [zp0, zp1, zp2, zp3, zp4]
        refine sk 10 rfl ?_
        try simp only [zp0, zp1, zp2, zp3, zp4]
        refine sk 11 rfl ?_
        try simp only [zp0, zp1, zp2, zp3, zp4]
        refine sk 12 rfl ?_
        try simp only [zp0, zp1, zp2, zp3, zp4]
        refine sk 13 rfl ?_
        try simp only [zp0, zp1, zp2, zp3, zp4]
        refine sk 14 rfl ?_
        try simp only [zp0, zp1, zp2, zp3, zp4]
        refine Reg.skip_one (i := 15) rfl (by kernel_rfl) (by rfl) (by assumption) ?_
        try simp only [zp0, zp1, zp2, zp3, zp4]
        refine sk 16 rfl ?_
        try simp only [zp0, zp1, zp2, zp3, zp4]
        refine tk 17 rfl ?_
        try simp only [zp0, zp1, zp2, zp3, zp4]
        refine tk 18 rfl ?_
        try simp only [zp0, zp1, zp2, zp3, zp4]
        refine sk 19 rfl ?_
        try simp only [zp0, zp1, zp2, zp3, zp4]
        refine sk 20 rfl ?_
        try simp only [zp0, zp1, zp2, zp3, zp4]
        refine sk 21 rfl ?_
        try simp only [zp0, zp1, zp2, zp3, zp4]
        refine sk 22 rfl ?_
        try simp only [zp0, zp1, zp2, zp3, zp4]
        refine sk 23 rfl ?_
        try simp only [zp0, zp1, zp2, zp3, zp4]
        refine sk 24 rfl ?_
        try simp only [zp0, zp1, zp2, zp3, zp4]
        refine sk 25 rfl ?_
        try simp only [zp0, zp1, zp2, zp3, zp4]
        refine sk 26 rfl ?_
        try simp only [zp0, zp1, zp2, zp3, zp4]
        refine sk 27 rfl ?_
        try simp only [zp0, zp1, zp2, zp3, zp4]
        refine sk 28 rfl ?_
        try simp only [zp0, zp1, zp2, zp3, zp4]
        refine sk 29 rfl ?_
        try simp only [zp0, zp1, zp2, zp3, zp4]
        refine sk 30 rfl ?_
        try simp only [zp0, zp1, zp2, zp3, zp4]
        refine sk 31 rfl ?_
        try simp only [zp0, zp1, zp2, zp3, zp4]
        refine sk 32 rfl ?_
        try simp only [zp0, zp1, zp2, zp3, zp4]
        refine sk 33 rfl ?_
        try simp only [zp0, zp1, zp2, zp3, zp4]
        refine sk 34 rfl ?_
        try simp only [zp0, zp1, zp2, zp3, zp4]
        refine Reg.skip_one (i := 35) rfl (by kernel_rfl) (by rfl) (by assumption) ?_
        try simp only [zp0, zp1, zp2, zp3, zp4]
        refine sk 36 rfl ?_
        try simp only [zp0, zp1, zp2, zp3, zp4]
        refine sk 37 rfl ?_
        try simp only [zp0, zp1, zp2, zp3, zp4]
        refine tk 38 rfl ?_
        try simp only [zp0, zp1, zp2, zp3, zp4]
        refine wpAnyH_done (by kernel_rfl) ?_ _
        have hh := Bag.cs3 S4.out 0 rfl
        have f0 := hh.1; have f1 := hh.2.1; have f2 := hh.2.2; clear hh
        have hh := HK.out _ S4.out.old
        have f3 := hh.1; have f4 := hh.2.1; have f5 := hh.2.2.1; have f6 := hh.2.2.2; clear hh
        have HNO := Lib.hid (show isI (conI xs) = false from isI_no k hci (by rw [okIx_at HC.out]; dsimp only; rw [HBK.out]; rfl))
        go_wp2_with fail
        go_ret
        exact ⟨by unfold isS; rw [HNO.out]; rfl, S4.out.old⟩
      | true =>
        cases br with
        | false =>
          go_upto_region 4 with fail
          clear f0 f1 f2 f3 f4 f5 f6
          refine wp_region_held_drew (S := (fun w' => (World.cell? w' ⟨w.heap.size, 0, none⟩ = some (.string name) ∧ World.cell? w' ⟨w.heap.size, 1, none⟩ = some (.slice (some ad) N c) ∧ World.cell? w' ⟨w.heap.size, 2, none⟩ = some (.int .i64 auto)) ∧ (World.cell? w' (ad.add (k * 4)) = some (.int .i64 kd) ∧ World.cell? w' (⟨(ad.add (k * 4)).block, (ad.add (k * 4)).off + 1, none⟩) = some (.int .i64 n) ∧ World.cell? w' (⟨(ad.add (k * 4)).block, (ad.add (k * 4)).off + 2, none⟩) = some (.string t) ∧ World.cell? w' (⟨(ad.add (k * 4)).block, (ad.add (k * 4)).off + 3, none⟩) = some (.slice ia l.length ic)))) (by kernel_rfl) ⟨Bag.cs3 (Bag.drew1 S2.out) 0 rfl, HK.out _ (Bag.drew1 S2.out).old⟩ (fun hS => ?_)
          have S3 := Lib.hid (show Sl.Sep w _ [L4.boxR w.heap.size 44 #[.string name, .slice (some ad) N c, .int .i64 auto]] from Bag.drew1 S2.out)
          clear S2
          generalize World.drew _ = w1 at hS S3 ⊢
          refine tk 0 rfl ?_
          try simp only [zp0, zp1, zp2, zp3, zp4]
          refine tk 1 rfl ?_
          try simp only [zp0, zp1, zp2, zp3, zp4]
          refine tk 2 rfl ?_
          try simp only [zp0, zp1, zp2, zp3, zp4]
          refine tk 3 rfl ?_
          try simp only [zp0, zp1, zp2, zp3, zp4]
          refine tk 4 rfl ?_
          try simp only [zp0, zp1, zp2, zp3, zp4]
          refine tk 5 rfl ?_
          try simp only [zp0, zp1, zp2, zp3, zp4]
          refine Reg.one_op (i := 6) rfl (by kernel_rfl) (fun K hK => ?_)
          go_simp
          go_at_call 42
          refine (HIK.out _).mono ?_
          rintro e w2 ⟨rfl, hb⟩
          have S4 := Lib.hid (S3.out.keep hb)
          clear S3
          clear hb
          go_wp2_with fail
          refine hK.out _ _ ⟨Bag.cs3 S4.out 0 rfl, HK.out _ S4.out.old⟩ (fun hS => ?_)
          clear hK K
          try simp only [zp0, zp1, zp2, zp3, zp4]
          refine tk 7 rfl ?_
          try simp only [zp0, zp1, zp2, zp3, zp4]
          refine tk 8 rfl ?_
          try simp only [zp0, zp1, zp2, zp3, zp4]
          refine tk 9 rfl ?_
          try simp only [zp0, zp1, zp2, zp3, zp4]
          refine tk 10 rfl ?_
          try simp only [zp0, zp1, zp2, zp3, zp4]
          refine tk 11 rfl ?_
          try simp only [zp0, zp1, zp2, zp3, zp4]
          refine tk 12 rfl ?_
          try simp only [zp0, zp1, zp2, zp3, zp4]
          refine tk 13 rfl ?_
          try simp only [zp0, zp1, zp2, zp3, zp4]
          refine tk 14 rfl ?_
          try simp only [zp0, zp1, zp2, zp3, zp4]
          refine Reg.one_op (i := 15) rfl (by kernel_rfl) (fun K hK => ?_)
          go_simp
          go_at_call 43
          refine (HIR.out _ S4.out.old).mono ?_
          rintro e w3 ⟨rfl, hb⟩
          have S5 := Lib.hid (S4.out.keep hb)
          clear S4
          clear hb
          go_wp2_with fail
          refine hK.out _ _ ⟨Bag.cs3 S5.out 0 rfl, HK.out _ S5.out.old⟩ (fun hS => ?_)
          clear hK K
          try simp only [zp0, zp1, zp2, zp3, zp4]
          refine tk 16 rfl ?_
          try simp only [zp0, zp1, zp2, zp3, zp4]
          refine tk 17 rfl ?_
          try simp only [zp0, zp1, zp2, zp3, zp4]
          refine tk 18 rfl ?_
          try simp only [zp0, zp1, zp2, zp3, zp4]
          refine sk 19 rfl ?_
          try simp only [zp0, zp1, zp2, zp3, zp4]
          refine sk 20 rfl ?_
          try simp only [zp0, zp1, zp2, zp3, zp4]
          refine sk 21 rfl ?_
          try simp only [zp0, zp1, zp2, zp3, zp4]
          refine sk 22 rfl ?_
          try simp only [zp0, zp1, zp2, zp3, zp4]
          refine sk 23 rfl ?_
          try simp only [zp0, zp1, zp2, zp3, zp4]
          refine sk 24 rfl ?_
          try simp only [zp0, zp1, zp2, zp3, zp4]
          refine sk 25 rfl ?_
          try simp only [zp0, zp1, zp2, zp3, zp4]
          refine sk 26 rfl ?_
          try simp only [zp0, zp1, zp2, zp3, zp4]
          refine sk 27 rfl ?_
          try simp only [zp0, zp1, zp2, zp3, zp4]
          refine sk 28 rfl ?_
          try simp only [zp0, zp1, zp2, zp3, zp4]
          refine sk 29 rfl ?_
          try simp only [zp0, zp1, zp2, zp3, zp4]
          refine sk 30 rfl ?_
          try simp only [zp0, zp1, zp2, zp3, zp4]
          refine sk 31 rfl ?_
          try simp only [zp0, zp1, zp2, zp3, zp4]
          refine sk 32 rfl ?_
          try simp only [zp0, zp1, zp2, zp3, zp4]
          refine sk 33 rfl ?_
          try simp only [zp0, zp1, zp2, zp3, zp4]
          refine sk 34 rfl ?_
          try simp only [zp0, zp1, zp2, zp3, zp4]
          refine Reg.skip_one (i := 35) rfl (by kernel_rfl) (by rfl) (by assumption) ?_
          try simp only [zp0, zp1, zp2, zp3, zp4]
          refine sk 36 rfl ?_
          try simp only [zp0, zp1, zp2, zp3, zp4]
          refine sk 37 rfl ?_
          try simp only [zp0, zp1, zp2, zp3, zp4]
          refine tk 38 rfl ?_
          try simp only [zp0, zp1, zp2, zp3, zp4]
          refine wpAnyH_done (by kernel_rfl) ?_ _
          have hh := Bag.cs3 S5.out 0 rfl
          have f0 := hh.1; have f1 := hh.2.1; have f2 := hh.2.2; clear hh
          have hh := HK.out _ S5.out.old
          have f3 := hh.1; have f4 := hh.2.1; have f5 := hh.2.2.1; have f6 := hh.2.2.2; clear hh
          have HNO := Lib.hid (show isI (conI xs) = false from isI_no k hci (by rw [okIx_at HC.out]; dsimp only; rw [HBK.out, HBR.out]; rfl))
          go_wp2_with fail
          go_ret
          exact ⟨by unfold isS; rw [HNO.out]; rfl, S5.out.old⟩
        | true =>
          rcases Nat.eq_zero_or_pos k with hk0 | hk0
          · have hk1 : (0 < k) = False := by simp; omega
            have HZ := Lib.hid hk0
            clear hk0
            go_upto_region 4 with fail
            clear f0 f1 f2 f3 f4 f5 f6
            refine wp_region_held_drew (S := (fun w' => (World.cell? w' ⟨w.heap.size, 0, none⟩ = some (.string name) ∧ World.cell? w' ⟨w.heap.size, 1, none⟩ = some (.slice (some ad) N c) ∧ World.cell? w' ⟨w.heap.size, 2, none⟩ = some (.int .i64 auto)) ∧ (World.cell? w' (ad.add (k * 4)) = some (.int .i64 kd) ∧ World.cell? w' (⟨(ad.add (k * 4)).block, (ad.add (k * 4)).off + 1, none⟩) = some (.int .i64 n) ∧ World.cell? w' (⟨(ad.add (k * 4)).block, (ad.add (k * 4)).off + 2, none⟩) = some (.string t) ∧ World.cell? w' (⟨(ad.add (k * 4)).block, (ad.add (k * 4)).off + 3, none⟩) = some (.slice ia l.length ic)))) (by kernel_rfl) ⟨Bag.cs3 (Bag.drew1 S2.out) 0 rfl, HK.out _ (Bag.drew1 S2.out).old⟩ (fun hS => ?_)
            have S3 := Lib.hid (show Sl.Sep w _ [L4.boxR w.heap.size 44 #[.string name, .slice (some ad) N c, .int .i64 auto]] from Bag.drew1 S2.out)
            clear S2
            generalize World.drew _ = w1 at hS S3 ⊢
            refine tk 0 rfl ?_
            try simp only [zp0, zp1, zp2, zp3, zp4]
            refine tk 1 rfl ?_
            try simp only [zp0, zp1, zp2, zp3, zp4]
            refine tk 2 rfl ?_
            try simp only [zp0, zp1, zp2, zp3, zp4]
            refine tk 3 rfl ?_
            try simp only [zp0, zp1, zp2, zp3, zp4]
            refine tk 4 rfl ?_
            try simp only [zp0, zp1, zp2, zp3, zp4]
            refine tk 5 rfl ?_
            try simp only [zp0, zp1, zp2, zp3, zp4]
            refine Reg.one_op (i := 6) rfl (by kernel_rfl) (fun K hK => ?_)
            go_simp
            go_at_call 42
            refine (HIK.out _).mono ?_
            rintro e w2 ⟨rfl, hb⟩
            have S4 := Lib.hid (S3.out.keep hb)
            clear S3
            clear hb
            go_wp2_with fail
            refine hK.out _ _ ⟨Bag.cs3 S4.out 0 rfl, HK.out _ S4.out.old⟩ (fun hS => ?_)
            clear hK K
            try simp only [zp0, zp1, zp2, zp3, zp4]
            refine tk 7 rfl ?_
            try simp only [zp0, zp1, zp2, zp3, zp4]
            refine tk 8 rfl ?_
            try simp only [zp0, zp1, zp2, zp3, zp4]
            refine tk 9 rfl ?_
            try simp only [zp0, zp1, zp2, zp3, zp4]
            refine tk 10 rfl ?_
            try simp only [zp0, zp1, zp2, zp3, zp4]
            refine tk 11 rfl ?_
            try simp only [zp0, zp1, zp2, zp3, zp4]
            refine tk 12 rfl ?_
            try simp only [zp0, zp1, zp2, zp3, zp4]
            refine tk 13 rfl ?_
            try simp only [zp0, zp1, zp2, zp3, zp4]
            refine tk 14 rfl ?_
            try simp only [zp0, zp1, zp2, zp3, zp4]
            refine Reg.one_op (i := 15) rfl (by kernel_rfl) (fun K hK => ?_)
            go_simp
            go_at_call 43
            refine (HIR.out _ S4.out.old).mono ?_
            rintro e w3 ⟨rfl, hb⟩
            have S5 := Lib.hid (S4.out.keep hb)
            clear S4
            clear hb
            go_wp2_with fail
            refine hK.out _ _ ⟨Bag.cs3 S5.out 0 rfl, HK.out _ S5.out.old⟩ (fun hS => ?_)
            clear hK K
            try simp only [zp0, zp1, zp2, zp3, zp4]
            refine tk 16 rfl ?_
            try simp only [zp0, zp1, zp2, zp3, zp4]
            refine tk 17 rfl ?_
            try simp only [zp0, zp1, zp2, zp3, zp4]
            refine tk 18 rfl ?_
            try simp only [zp0, zp1, zp2, zp3, zp4]
            refine tk 19 rfl ?_
            try simp only [zp0, zp1, zp2, zp3, zp4]
            refine tk 20 rfl ?_
            try simp only [zp0, zp1, zp2, zp3, zp4]
            refine tk 21 rfl ?_
            try simp only [zp0, zp1, zp2, zp3, zp4]
            refine sk 22 rfl ?_
            try simp only [zp0, zp1, zp2, zp3, zp4]
            refine sk 23 rfl ?_
            try simp only [zp0, zp1, zp2, zp3, zp4]
            refine sk 24 rfl ?_
            try simp only [zp0, zp1, zp2, zp3, zp4]
            refine sk 25 rfl ?_
            try simp only [zp0, zp1, zp2, zp3, zp4]
            refine sk 26 rfl ?_
            try simp only [zp0, zp1, zp2, zp3, zp4]
            refine sk 27 rfl ?_
            try simp only [zp0, zp1, zp2, zp3, zp4]
            refine sk 28 rfl ?_
            try simp only [zp0, zp1, zp2, zp3, zp4]
            refine sk 29 rfl ?_
            try simp only [zp0, zp1, zp2, zp3, zp4]
            refine sk 30 rfl ?_
            try simp only [zp0, zp1, zp2, zp3, zp4]
            refine sk 31 rfl ?_
            try simp only [zp0, zp1, zp2, zp3, zp4]
            refine sk 32 rfl ?_
            try simp only [zp0, zp1, zp2, zp3, zp4]
            refine sk 33 rfl ?_
            try simp only [zp0, zp1, zp2, zp3, zp4]
            refine sk 34 rfl ?_
            try simp only [zp0, zp1, zp2, zp3, zp4]
            refine Reg.skip_one (i := 35) rfl (by kernel_rfl) (by rfl) (by assumption) ?_
            try simp only [zp0, zp1, zp2, zp3, zp4]
            refine sk 36 rfl ?_
            try simp only [zp0, zp1, zp2, zp3, zp4]
            refine tk 37 rfl ?_
            try simp only [zp0, zp1, zp2, zp3, zp4]
            refine tk 38 rfl ?_
            try simp only [zp0, zp1, zp2, zp3, zp4]
            refine wpAnyH_done (by kernel_rfl) ?_ _
            have hh := Bag.cs3 S5.out 0 rfl
            have f0 := hh.1; have f1 := hh.2.1; have f2 := hh.2.2; clear hh
            have hh := HK.out _ S5.out.old
            have f3 := hh.1; have f4 := hh.2.1; have f5 := hh.2.2.1; have f6 := hh.2.2.2; clear hh
            go_wp2_with fail
            go_roundw
            case rel => exact ⟨k + 1, by omega, by go_num, And.intro (fun j h => by
              by_cases e : j < k
              · exact HA.out j e
              · obtain rfl : j = k := by omega
                exact by rw [okIx_at HC.out]; dsimp only; rw [HBK.out, HBR.out, HZ.out]; rfl) S5.out⟩
            case measure => simp [intOf]; omega
          · obtain ⟨m, hkm⟩ : ∃ m, k = m + 1 := ⟨k - 1, by omega⟩
            have hki : (k : Int) - 1 = (m : Int) := by omega
            have HKM := Lib.hid hkm
            have hm0 : m < xs.length := by omega
            have hmi : (m : Int) < (N : Int) := by omega
            have hmw : IntKind.i64.wrap (m : Int) = (m : Int) := IntWalk.i64_in _ ⟨by omega, by omega⟩
            clear hkm
            clear f0 f1 f2 f3 f4 f5 f6
            obtain ⟨ad_, x2, e_, hx2⟩ := readsI_some (HR.out _ S2.out.old) m hm0
            clear e_ ad_
            obtain ⟨⟨kd2, n2, t2⟩, ia2, ic2, l2⟩ := x2
            have HK2 := Lib.hid (fun w' (h : Below w.heap.size w w') => readsI_at (HR.out _ h) m _ hx2)
            try dsimp only at HK2
            have HC2 := Lib.hid (show (conI xs)[m]? = some (⟨⟨kd2, n2, t2⟩, l2⟩ : It) from con_of hx2)
            have HFI2 := Lib.hid (fit_at HF.out hx2)
            clear hx2
            obtain ⟨cv, hcv⟩ : ∃ b, cmpK ⟨kd2, n2, t2⟩ ⟨kd, n, t⟩ = b := ⟨_, rfl⟩
            have HCMP := fun w => L4.specCompareKeys_any ⟨kd2, n2, t2⟩ ⟨kd, n, t⟩ (by have : t2.size ≤ 1099511627776 := HFI2.out.text; show t2.size ≤ _; omega) (by have : t.size ≤ 1099511627776 := HFI.out.text; show t.size ≤ _; omega) w
            rw [hcv] at HCMP
            replace HCMP := Lib.hid HCMP
            have HCV := Lib.hid hcv
            clear hcv
            have hh := Bag.cs3 S2.out 0 rfl
            have f0 := hh.1; have f1 := hh.2.1; have f2 := hh.2.2; clear hh
            have hh := HK.out _ S2.out.old
            have f3 := hh.1; have f4 := hh.2.1; have f5 := hh.2.2.1; have f6 := hh.2.2.2; clear hh
            have hh := HK2.out _ S2.out.old
            have f7 := hh.1; have f8 := hh.2.1; have f9 := hh.2.2.1; have f10 := hh.2.2.2; clear hh
            by_cases hc : cv < 0
            · have hc2 : ¬ 0 ≤ cv := by omega
              go_upto_region 4 with fail
              clear f0 f1 f2 f3 f4 f5 f6 f7 f8 f9 f10
              refine wp_region_held_drew (S := (fun w' => (World.cell? w' ⟨w.heap.size, 0, none⟩ = some (.string name) ∧ World.cell? w' ⟨w.heap.size, 1, none⟩ = some (.slice (some ad) N c) ∧ World.cell? w' ⟨w.heap.size, 2, none⟩ = some (.int .i64 auto)) ∧ (World.cell? w' (ad.add (k * 4)) = some (.int .i64 kd) ∧ World.cell? w' (⟨(ad.add (k * 4)).block, (ad.add (k * 4)).off + 1, none⟩) = some (.int .i64 n) ∧ World.cell? w' (⟨(ad.add (k * 4)).block, (ad.add (k * 4)).off + 2, none⟩) = some (.string t) ∧ World.cell? w' (⟨(ad.add (k * 4)).block, (ad.add (k * 4)).off + 3, none⟩) = some (.slice ia l.length ic)) ∧ (World.cell? w' (ad.add (m * 4)) = some (.int .i64 kd2) ∧ World.cell? w' (⟨(ad.add (m * 4)).block, (ad.add (m * 4)).off + 1, none⟩) = some (.int .i64 n2) ∧ World.cell? w' (⟨(ad.add (m * 4)).block, (ad.add (m * 4)).off + 2, none⟩) = some (.string t2) ∧ World.cell? w' (⟨(ad.add (m * 4)).block, (ad.add (m * 4)).off + 3, none⟩) = some (.slice ia2 l2.length ic2)))) (by kernel_rfl) ⟨Bag.cs3 (Bag.drew1 S2.out) 0 rfl, HK.out _ (Bag.drew1 S2.out).old, HK2.out _ (Bag.drew1 S2.out).old⟩ (fun hS => ?_)
              have S3 := Lib.hid (show Sl.Sep w _ [L4.boxR w.heap.size 44 #[.string name, .slice (some ad) N c, .int .i64 auto]] from Bag.drew1 S2.out)
              clear S2
              generalize World.drew _ = w1 at hS S3 ⊢
              refine tk 0 rfl ?_
              try simp only [zp0, zp1, zp2, zp3, zp4]
              refine tk 1 rfl ?_
              try simp only [zp0, zp1, zp2, zp3, zp4]
              refine tk 2 rfl ?_
              try simp only [zp0, zp1, zp2, zp3, zp4]
              refine tk 3 rfl ?_
              try simp only [zp0, zp1, zp2, zp3, zp4]
              refine tk 4 rfl ?_
              try simp only [zp0, zp1, zp2, zp3, zp4]
              refine tk 5 rfl ?_
              try simp only [zp0, zp1, zp2, zp3, zp4]
              refine Reg.one_op (i := 6) rfl (by kernel_rfl) (fun K hK => ?_)
              go_simp
              go_at_call 42
              refine (HIK.out _).mono ?_
              rintro e w2 ⟨rfl, hb⟩
              have S4 := Lib.hid (S3.out.keep hb)
              clear S3
              clear hb
              go_wp2_with fail
              refine hK.out _ _ ⟨Bag.cs3 S4.out 0 rfl, HK.out _ S4.out.old, HK2.out _ S4.out.old⟩ (fun hS => ?_)
              clear hK K
              try simp only [zp0, zp1, zp2, zp3, zp4]
              refine tk 7 rfl ?_
              try simp only [zp0, zp1, zp2, zp3, zp4]
              refine tk 8 rfl ?_
              try simp only [zp0, zp1, zp2, zp3, zp4]
              refine tk 9 rfl ?_
              try simp only [zp0, zp1, zp2, zp3, zp4]
              refine tk 10 rfl ?_
              try simp only [zp0, zp1, zp2, zp3, zp4]
              refine tk 11 rfl ?_
              try simp only [zp0, zp1, zp2, zp3, zp4]
              refine tk 12 rfl ?_
              try simp only [zp0, zp1, zp2, zp3, zp4]
              refine tk 13 rfl ?_
              try simp only [zp0, zp1, zp2, zp3, zp4]
              refine tk 14 rfl ?_
              try simp only [zp0, zp1, zp2, zp3, zp4]
              refine Reg.one_op (i := 15) rfl (by kernel_rfl) (fun K hK => ?_)
              go_simp
              go_at_call 43
              refine (HIR.out _ S4.out.old).mono ?_
              rintro e w3 ⟨rfl, hb⟩
              have S5 := Lib.hid (S4.out.keep hb)
              clear S4
              clear hb
              go_wp2_with fail
              refine hK.out _ _ ⟨Bag.cs3 S5.out 0 rfl, HK.out _ S5.out.old, HK2.out _ S5.out.old⟩ (fun hS => ?_)
              clear hK K
              try simp only [zp0, zp1, zp2, zp3, zp4]
              refine tk 16 rfl ?_
              try simp only [zp0, zp1, zp2, zp3, zp4]
              refine tk 17 rfl ?_
              try simp only [zp0, zp1, zp2, zp3, zp4]
              refine tk 18 rfl ?_
              try simp only [zp0, zp1, zp2, zp3, zp4]
              refine tk 19 rfl ?_
              try simp only [zp0, zp1, zp2, zp3, zp4]
              refine tk 20 rfl ?_
              try simp only [zp0, zp1, zp2, zp3, zp4]
              refine tk 21 rfl ?_
              try simp only [zp0, zp1, zp2, zp3, zp4]
              refine tk 22 rfl ?_
              try simp only [zp0, zp1, zp2, zp3, zp4]
              refine tk 23 rfl ?_
              try simp only [zp0, zp1, zp2, zp3, zp4]
              refine tk 24 rfl ?_
              try simp only [zp0, zp1, zp2, zp3, zp4]
              refine tk 25 rfl ?_
              try simp only [zp0, zp1, zp2, zp3, zp4]
              refine tk 26 rfl ?_
              try simp only [zp0, zp1, zp2, zp3, zp4]
              refine tk 27 rfl ?_
              try simp only [zp0, zp1, zp2, zp3, zp4]
              refine tk 28 rfl ?_
              try simp only [zp0, zp1, zp2, zp3, zp4]
              refine tk 29 rfl ?_
              try simp only [zp0, zp1, zp2, zp3, zp4]
              refine tk 30 rfl ?_
              try simp only [zp0, zp1, zp2, zp3, zp4]
              refine tk 31 rfl ?_
              try simp only [zp0, zp1, zp2, zp3, zp4]
              refine tk 32 rfl ?_
              try simp only [zp0, zp1, zp2, zp3, zp4]
              refine tk 33 rfl ?_
              try simp only [zp0, zp1, zp2, zp3, zp4]
              refine tk 34 rfl ?_
              try simp only [zp0, zp1, zp2, zp3, zp4]
              refine Reg.one_op (i := 35) rfl (by kernel_rfl) (fun K hK => ?_)
              go_simp
              go_at_call 44
              refine (HCMP.out _).mono ?_
              rintro e w4 ⟨rfl, hb⟩
              have S6 := Lib.hid (S5.out.keep hb)
              clear S5
              clear hb
              go_wp2_with fail
              refine hK.out _ _ ⟨Bag.cs3 S6.out 0 rfl, HK.out _ S6.out.old, HK2.out _ S6.out.old⟩ (fun hS => ?_)
              clear hK K
              try simp only [zp0, zp1, zp2, zp3, zp4]
              refine tk 36 rfl ?_
              try simp only [zp0, zp1, zp2, zp3, zp4]
              refine tk 37 rfl ?_
              try simp only [zp0, zp1, zp2, zp3, zp4]
              refine tk 38 rfl ?_
              try simp only [zp0, zp1, zp2, zp3, zp4]
              refine wpAnyH_done (by kernel_rfl) ?_ _
              have hh := Bag.cs3 S6.out 0 rfl
              have f0 := hh.1; have f1 := hh.2.1; have f2 := hh.2.2; clear hh
              have hh := HK.out _ S6.out.old
              have f3 := hh.1; have f4 := hh.2.1; have f5 := hh.2.2.1; have f6 := hh.2.2.2; clear hh
              have hh := HK2.out _ S6.out.old
              have f7 := hh.1; have f8 := hh.2.1; have f9 := hh.2.2.1; have f10 := hh.2.2.2; clear hh
              go_wp2_with fail
              go_roundw
              case rel => exact ⟨k + 1, by omega, by go_num, And.intro (fun j h => by
                by_cases e : j < k
                · exact HA.out j e
                · obtain rfl : j = k := by omega
                  rw [okIx_at HC.out, HKM.out, behind_at HC2.out]; dsimp only; rw [HBK.out, HBR.out, HCV.out]; simpa using hc) S6.out⟩
              case measure => simp [intOf]; omega
            · have hc2 : 0 ≤ cv := by omega
              go_upto_region 4 with fail
              clear f0 f1 f2 f3 f4 f5 f6 f7 f8 f9 f10
              refine wp_region_held_drew (S := (fun w' => (World.cell? w' ⟨w.heap.size, 0, none⟩ = some (.string name) ∧ World.cell? w' ⟨w.heap.size, 1, none⟩ = some (.slice (some ad) N c) ∧ World.cell? w' ⟨w.heap.size, 2, none⟩ = some (.int .i64 auto)) ∧ (World.cell? w' (ad.add (k * 4)) = some (.int .i64 kd) ∧ World.cell? w' (⟨(ad.add (k * 4)).block, (ad.add (k * 4)).off + 1, none⟩) = some (.int .i64 n) ∧ World.cell? w' (⟨(ad.add (k * 4)).block, (ad.add (k * 4)).off + 2, none⟩) = some (.string t) ∧ World.cell? w' (⟨(ad.add (k * 4)).block, (ad.add (k * 4)).off + 3, none⟩) = some (.slice ia l.length ic)) ∧ (World.cell? w' (ad.add (m * 4)) = some (.int .i64 kd2) ∧ World.cell? w' (⟨(ad.add (m * 4)).block, (ad.add (m * 4)).off + 1, none⟩) = some (.int .i64 n2) ∧ World.cell? w' (⟨(ad.add (m * 4)).block, (ad.add (m * 4)).off + 2, none⟩) = some (.string t2) ∧ World.cell? w' (⟨(ad.add (m * 4)).block, (ad.add (m * 4)).off + 3, none⟩) = some (.slice ia2 l2.length ic2)))) (by kernel_rfl) ⟨Bag.cs3 (Bag.drew1 S2.out) 0 rfl, HK.out _ (Bag.drew1 S2.out).old, HK2.out _ (Bag.drew1 S2.out).old⟩ (fun hS => ?_)
              have S3 := Lib.hid (show Sl.Sep w _ [L4.boxR w.heap.size 44 #[.string name, .slice (some ad) N c, .int .i64 auto]] from Bag.drew1 S2.out)
              clear S2
              generalize World.drew _ = w1 at hS S3 ⊢
              refine tk 0 rfl ?_
              try simp only [zp0, zp1, zp2, zp3, zp4]
              refine tk 1 rfl ?_
              try simp only [zp0, zp1, zp2, zp3, zp4]
              refine tk 2 rfl ?_
              try simp only [zp0, zp1, zp2, zp3, zp4]
              refine tk 3 rfl ?_
              try simp only [zp0, zp1, zp2, zp3, zp4]
              refine tk 4 rfl ?_
              try simp only [zp0, zp1, zp2, zp3, zp4]
              refine tk 5 rfl ?_
              try simp only [zp0, zp1, zp2, zp3, zp4]
              refine Reg.one_op (i := 6) rfl (by kernel_rfl) (fun K hK => ?_)
              go_simp
              go_at_call 42
              refine (HIK.out _).mono ?_
              rintro e w2 ⟨rfl, hb⟩
              have S4 := Lib.hid (S3.out.keep hb)
              clear S3
              clear hb
              go_wp2_with fail
              refine hK.out _ _ ⟨Bag.cs3 S4.out 0 rfl, HK.out _ S4.out.old, HK2.out _ S4.out.old⟩ (fun hS => ?_)
              clear hK K
              try simp only [zp0, zp1, zp2, zp3, zp4]
              refine tk 7 rfl ?_
              try simp only [zp0, zp1, zp2, zp3, zp4]
              refine tk 8 rfl ?_
              try simp only [zp0, zp1, zp2, zp3, zp4]
              refine tk 9 rfl ?_
              try simp only [zp0, zp1, zp2, zp3, zp4]
              refine tk 10 rfl ?_
              try simp only [zp0, zp1, zp2, zp3, zp4]
              refine tk 11 rfl ?_
              try simp only [zp0, zp1, zp2, zp3, zp4]
              refine tk 12 rfl ?_
              try simp only [zp0, zp1, zp2, zp3, zp4]
              refine tk 13 rfl ?_
              try simp only [zp0, zp1, zp2, zp3, zp4]
              refine tk 14 rfl ?_
              try simp only [zp0, zp1, zp2, zp3, zp4]
              refine Reg.one_op (i := 15) rfl (by kernel_rfl) (fun K hK => ?_)
              go_simp
              go_at_call 43
              refine (HIR.out _ S4.out.old).mono ?_
              rintro e w3 ⟨rfl, hb⟩
              have S5 := Lib.hid (S4.out.keep hb)
              clear S4
              clear hb
              go_wp2_with fail
              refine hK.out _ _ ⟨Bag.cs3 S5.out 0 rfl, HK.out _ S5.out.old, HK2.out _ S5.out.old⟩ (fun hS => ?_)
              clear hK K
              try simp only [zp0, zp1, zp2, zp3, zp4]
              refine tk 16 rfl ?_
              try simp only [zp0, zp1, zp2, zp3, zp4]
              refine tk 17 rfl ?_
              try simp only [zp0, zp1, zp2, zp3, zp4]
              refine tk 18 rfl ?_
              try simp only [zp0, zp1, zp2, zp3, zp4]
              refine tk 19 rfl ?_
              try simp only [zp0, zp1, zp2, zp3, zp4]
              refine tk 20 rfl ?_
              try simp only [zp0, zp1, zp2, zp3, zp4]
              refine tk 21 rfl ?_
              try simp only [zp0, zp1, zp2, zp3, zp4]
              refine tk 22 rfl ?_
              try simp only [zp0, zp1, zp2, zp3, zp4]
              refine tk 23 rfl ?_
              try simp only [zp0, zp1, zp2, zp3, zp4]
              refine tk 24 rfl ?_
              try simp only [zp0, zp1, zp2, zp3, zp4]
              refine tk 25 rfl ?_
              try simp only [zp0, zp1, zp2, zp3, zp4]
              refine tk 26 rfl ?_
              try simp only [zp0, zp1, zp2, zp3, zp4]
              refine tk 27 rfl ?_
              try simp only [zp0, zp1, zp2, zp3, zp4]
              refine tk 28 rfl ?_
              try simp only [zp0, zp1, zp2, zp3, zp4]
              refine tk 29 rfl ?_
              try simp only [zp0, zp1, zp2, zp3, zp4]
              refine tk 30 rfl ?_
              try simp only [zp0, zp1, zp2, zp3, zp4]
              refine tk 31 rfl ?_
              try simp only [zp0, zp1, zp2, zp3, zp4]
              refine tk 32 rfl ?_
              try simp only [zp0, zp1, zp2, zp3, zp4]
              refine tk 33 rfl ?_
              try simp only [zp0, zp1, zp2, zp3, zp4]
              refine tk 34 rfl ?_
              try simp only [zp0, zp1, zp2, zp3, zp4]
              refine Reg.one_op (i := 35) rfl (by kernel_rfl) (fun K hK => ?_)
              go_simp
              go_at_call 44
              refine (HCMP.out _).mono ?_
              rintro e w4 ⟨rfl, hb⟩
              have S6 := Lib.hid (S5.out.keep hb)
              clear S5
              clear hb
              go_wp2_with fail
              refine hK.out _ _ ⟨Bag.cs3 S6.out 0 rfl, HK.out _ S6.out.old, HK2.out _ S6.out.old⟩ (fun hS => ?_)
              clear hK K
              try simp only [zp0, zp1, zp2, zp3, zp4]
              refine tk 36 rfl ?_
              try simp only [zp0, zp1, zp2, zp3, zp4]
              refine tk 37 rfl ?_
              try simp only [zp0, zp1, zp2, zp3, zp4]
              refine tk 38 rfl ?_
              try simp only [zp0, zp1, zp2, zp3, zp4]
              refine wpAnyH_done (by kernel_rfl) ?_ _
              have hh := Bag.cs3 S6.out 0 rfl
              have f0 := hh.1; have f1 := hh.2.1; have f2 := hh.2.2; clear hh
              have hh := HK.out _ S6.out.old
              have f3 := hh.1; have f4 := hh.2.1; have f5 := hh.2.2.1; have f6 := hh.2.2.2; clear hh
              have hh := HK2.out _ S6.out.old
              have f7 := hh.1; have f8 := hh.2.1; have f9 := hh.2.2.1; have f10 := hh.2.2.2; clear hh
              have HNO := Lib.hid (show isI (conI xs) = false from isI_no k hci (by rw [okIx_at HC.out, HKM.out, behind_at HC2.out]; dsimp only; rw [HBK.out, HBR.out, HCV.out]; simpa using hc2))
              go_wp2_with fail
              go_ret
              exact ⟨by unfold isS; rw [HNO.out]; rfl, S6.out.old⟩
    · skip
      obtain rfl : k = N := by omega
      have HI := Lib.hid (isI_all (xs := conI xs) (fun i hi => HA.out i (by rw [conI_length] at hi; have := HN.out; omega)))
      obtain ⟨bn, hbn⟩ : ∃ b, isN name.data.toList = b := ⟨_, rfl⟩
      have HIN := fun w => L5.specIsName_any name HNM.out w
      rw [hbn] at HIN
      replace HIN := Lib.hid HIN
      obtain ⟨ba, hba⟩ : ∃ b, L1.inB auto 0 1000000 = b := ⟨_, rfl⟩
      have HIA := fun w => L1.l1In_any auto 0 1000000 w
      rw [hba] at HIA
      replace HIA := Lib.hid HIA
      have HE := Lib.hid (show isS ⟨name, conI xs, auto⟩ = (bn && (decide (k ≤ 16) && ba)) from by unfold isS; rw [HI.out, hbn, hba, conI_length, ← HN.out]; rfl)
      clear hbn hba
      have hh := Bag.cs3 S2.out 0 rfl
      have f0 := hh.1; have f1 := hh.2.1; have f2 := hh.2.2; clear hh
      cases bn with
      | false =>
        go_wp2_with fail
        go_at_call 21
        refine (HIN.out _).mono ?_
        rintro e w1 ⟨rfl, rfl⟩
        go_wp2_with fail
        go_ret
        exact ⟨by rw [HE.out]; rfl, S2.out.old⟩
      | true =>
        go_wp2_with fail
        go_at_call 21
        refine (HIN.out _).mono ?_
        rintro e w1 ⟨rfl, rfl⟩
        by_cases h16 : (k : Int) ≤ 16
        · have h16' : k ≤ 16 := by omega
          go_wp2_with fail
          go_at_call 23
          refine (HIA.out _).mono ?_
          rintro e w2 ⟨rfl, rfl⟩
          go_wp2_with fail
          go_ret
          exact ⟨by rw [HE.out, decide_eq_true h16']; rfl, S2.out.old⟩
        · have h16' : ¬ k ≤ 16 := by omega
          go_wp2_with fail
          go_ret
          exact ⟨by rw [HE.out, decide_eq_false h16']; rfl, S2.out.old⟩
end Go.Proofs.Ytboefioalkjdaaa.L6

/-
  Begun: what l5Read and DecodeRecord (chapter 5) need: an append onto one of several owned things outside a drawn region; three of several things; strings made of bytes. No condition.
-/
namespace Go.Proofs.Ytboefioalkjdaaa.L5
set_option maxRecDepth 100000
open L4 (boxR push_box box_at)
open Go.ChangeShapes Go.WideShapes Go.ChangeAt Go.RowKit Mem Sl Ex L2 Sv
set_option linter.unusedVariables false
set_option linter.unusedSimpArgs false

theorem wpList_append_v {P : Program} {W w : World} {rs : List Res} {e : TypeId} {k : Nat} {a : Option Addr} {c n : Nat} {xs : List Value} (S : Sep W w rs) (j : Nat) (hj : rs[j]? = some (ownV e k a c n xs))
    {ops : Array Oper} {rest : List Oper} {o : Oper} {act : Act} {Q : Exit → Act → World → Prop} (hgd : o.guard = none) (s x : Operand) (t : TypeId)
    (ho : o.op = .call { callee := .builtin .append, args := #[s, x], argTypes := #[t, t] })
    (i : TypeInfo) (z : Value) (bytes : Nat) (ht : P.underlying t = some (.slice e)) (hi : P.info? e = some i) (hz : i.zero = some z)
    (hsize : i.size = k) (hby : i.bytes = bytes) (hzs : z.cells.size = k) (hk : 0 < k) (n1 : Nat) (hs : act.eval s = .slice a n1 c) (hn : n1 = n)
    (B' : Nat) (A : Option Addr) (m m1 c' : Nat) (ys : List Value) (hx : act.eval x = .slice A m1 c') (hm : m1 = m) (hr : Reads w B' A ys) (hy : ys.length = m * k) (hone : ∀ u ∈ ys, u.oneCell' = true)
    (h63 : n + m ≤ maxLen) (hbytes : (n + m) * bytes ≤ 140737488355328)
    (h : ∀ a1 c1 w', Sep W w' (rs.set j (ownV e k a1 c1 (n + m) (xs ++ ys))) → wpList P ops Q rest (act.put o.dst (.slice a1 (n + m) c1)) w') : wpList P ops Q (o :: rest) act w := by
  subst hn
  subst hm
  refine wpList_plain hgd fun K hK => ?_
  obtain ⟨a1, c1, w', hrun, h2, h3, h4⟩ := run_append_rows (P := P) w 0 t o.type e i z k bytes ht hi hz hsize hby hzs hk a c n1 xs (own_at S j hj) B' A c' m1 ys hr hy hone h63 hbytes (Nat.zero_le _)
  unfold Oper.wp execOp
  simp only [ho, resolve, invoke, builtin, Sem.run_bind, Sem.run_pure, Result.andThen_ok, List.map_toArray, List.map_cons, List.map_nil, hs, hx, hrun]
  refine hK _ _ (h a1 c1 w' (Sd.put_new S j hj (Turned.of_grown h3) h2 fun b hb => ?_))
  have hb' : (Value.slice a1 (n1 + m1) c1).ownBlock = some b := by simpa [ownV] using hb
  rcases h4 b hb' with h5 | rfl
  · exact .inl (by simp [ownV, h5])
  · have := World.ownsRow.lt h2 _ hb'
    exact .inr ⟨Nat.le_refl _, this.2⟩
end Go.Proofs.Ytboefioalkjdaaa.L5

/-
  The contracts of chapter 7's functions of the specification, I: l7Less, ItemsWith, CountWith. Conditions: keys' texts of at most 2^40 bytes, at most 2^20 fields and items. (Written by my program gen_l7a.py.)
-/
namespace Go.Proofs.Ytboefioalkjdaaa.L7
set_option maxRecDepth 100000
open L4 (K isK cmpK R inR encU)
open L5 (F isR isN cellsF encR eqR Small getO getN getB)
open L6
open Go.ChangeShapes Go.WideShapes Go.ChangeAt Go.RowKit Mem Sl Ex L2 Sv Bag
set_option linter.unusedVariables false
set_option linter.unusedSimpArgs false

theorem beq_no {a b : Int} (h : ¬ a = b) : (a == b) = false := by simpa using h

set_option maxHeartbeats 8000000 in
theorem l7Less_any (d1 n1 d2 n2 : Int) (t1 t2 : ByteArray) (a1 a2 : Option Addr) (c1 c2 : Nat) (l1 l2 : List F) (f : ByteArray) (ht1 : t1.size ≤ 1099511627776) (ht2 : t2.size ≤ 1099511627776) (hl1 : l1.length ≤ 1048576) (hl2 : l2.length ≤ 1048576) (w : World) (hr1 : Reads w w.heap.size a1 (cellsF l1)) (hr2 : Reads w w.heap.size a2 (cellsF l2)) :
    Calls Try.prog 65 #[.agg #[.int .i64 d1, .int .i64 n1, .string t1, .slice a1 l1.length c1], .agg #[.int .i64 d2, .int .i64 n2, .string t2, .slice a2 l2.length c2], .string f] w fun e w' => e = .returned (.bool (less7 f.data.toList ⟨⟨d1, n1, t1⟩, l1⟩ ⟨⟨d2, n2, t2⟩, l2⟩)) ∧ Below w.heap.size w w' := by
  have HR1 := Lib.hid (fun w' (h : Below w.heap.size w w') => L5.specGetField_any a1 c1 l1 f (by omega) w' ((hr1.below h).more h.size))
  have HR2 := Lib.hid (fun w' (h : Below w.heap.size w w') => L5.specGetField_any a2 c2 l2 f (by omega) w' ((hr2.below h).more h.size))
  have HCK := fun w => L4.specCompareKeys_any ⟨d1, n1, t1⟩ ⟨d2, n2, t2⟩ (by show t1.size ≤ _; omega) (by show t2.size ≤ _; omega) w
  obtain ⟨be, hbe⟩ : ∃ b, less7 f.data.toList ⟨⟨d1, n1, t1⟩, l1⟩ ⟨⟨d2, n2, t2⟩, l2⟩ = b := ⟨_, rfl⟩
  rw [hbe]
  unfold less7 at hbe
  dsimp only at hbe
  obtain ⟨na, hna⟩ : ∃ u, getN l1 f.data.toList = u := ⟨_, rfl⟩
  obtain ⟨nb, hnb⟩ : ∃ u, getN l2 f.data.toList = u := ⟨_, rfl⟩
  obtain ⟨m, hm⟩ : ∃ u, cmpK ⟨d1, n1, t1⟩ ⟨d2, n2, t2⟩ = u := ⟨_, rfl⟩
  rw [hna] at HR1
  rw [hnb] at HR2
  rw [hm] at HCK
  rw [hna, hnb, hm] at hbe
  replace HCK := Lib.hid HCK
  have HE := Lib.hid hbe
  clear hbe hna hnb hm hr1 hr2
  dsimp only [L4.K.v] at HCK
  have S1 := Lib.hid (show Sl.Sep w ((w.alloc (.cells #[.int .i64 d1, .int .i64 n1, .string t1, .slice a1 l1.length c1] 72)).alloc (.cells #[.int .i64 d2, .int .i64 n2, .string t2, .slice a2 l2.length c2] 72)) [L4.boxR w.heap.size 72 #[.int .i64 d1, .int .i64 n1, .string t1, .slice a1 l1.length c1], L4.boxR (w.heap.size + 1) 72 #[.int .i64 d2, .int .i64 n2, .string t2, .slice a2 l2.length c2]] from L4.push_box (L4.push_box (Sl.Sep.start w) 72 #[.int .i64 d1, .int .i64 n1, .string t1, .slice a1 l1.length c1] (w.heap.size) (by simp)) 72 #[.int .i64 d2, .int .i64 n2, .string t2, .slice a2 l2.length c2] (w.heap.size + 1) (by simp))
  obtain ⟨wa, hwa⟩ : ∃ u, u = ((w.alloc (.cells #[.int .i64 d1, .int .i64 n1, .string t1, .slice a1 l1.length c1] 72)).alloc (.cells #[.int .i64 d2, .int .i64 n2, .string t2, .slice a2 l2.length c2] 72)) := ⟨_, rfl⟩
  rw [← hwa] at S1
  go_enter Try.func65, Try.ntmps65
  go_upto_region 1 with fail
  rw [← hwa]
  clear hwa
  have hh := Bag.cs4 S1.out 0 rfl
  have f0 := hh.1; have f1 := hh.2.1; have f2 := hh.2.2.1; have f3 := hh.2.2.2; clear hh
  have hh := Bag.cs4 S1.out 1 rfl
  have f4 := hh.1; have f5 := hh.2.1; have f6 := hh.2.2.1; have f7 := hh.2.2.2; clear hh
  go_wp2_with fail
  go_at_call 46
  refine (HR1.out _ S1.out.old).mono ?_
  rintro e w1 ⟨rfl, hb⟩
  clear f0 f1 f2 f3 f4 f5 f6 f7
  have S2 := Lib.hid (S1.out.keep hb)
  clear S1
  clear hb
  have hh := Bag.cs4 S2.out 0 rfl
  have f0 := hh.1; have f1 := hh.2.1; have f2 := hh.2.2.1; have f3 := hh.2.2.2; clear hh
  have hh := Bag.cs4 S2.out 1 rfl
  have f4 := hh.1; have f5 := hh.2.1; have f6 := hh.2.2.1; have f7 := hh.2.2.2; clear hh
  go_wp2_with fail
  go_at_call 46
  refine (HR2.out _ S2.out.old).mono ?_
  rintro e w2 ⟨rfl, hb⟩
  clear f0 f1 f2 f3 f4 f5 f6 f7
  have S3 := Lib.hid (S2.out.keep hb)
  clear S2
  clear hb
  have hh := Bag.cs4 S3.out 0 rfl
  have f0 := hh.1; have f1 := hh.2.1; have f2 := hh.2.2.1; have f3 := hh.2.2.2; clear hh
  have hh := Bag.cs4 S3.out 1 rfl
  have f4 := hh.1; have f5 := hh.2.1; have f6 := hh.2.2.1; have f7 := hh.2.2.2; clear hh
  by_cases h1 : na < nb
  · skip
    go_wp2_with fail
    go_ret
    exact ⟨by rw [← HE.out]; simp [h1], S3.out.old⟩
  · by_cases h2 : na = nb
    · have h2' : (na == nb) = true := by simp [h2]
      go_wp2_with fail
      go_at_call 44
      refine (HCK.out _).mono ?_
      rintro e w3 ⟨rfl, hb⟩
      clear f0 f1 f2 f3 f4 f5 f6 f7
      have S4 := Lib.hid (S3.out.keep hb)
      clear S3
      clear hb
      have hh := Bag.cs4 S4.out 0 rfl
      have f0 := hh.1; have f1 := hh.2.1; have f2 := hh.2.2.1; have f3 := hh.2.2.2; clear hh
      have hh := Bag.cs4 S4.out 1 rfl
      have f4 := hh.1; have f5 := hh.2.1; have f6 := hh.2.2.1; have f7 := hh.2.2.2; clear hh
      go_wp2_with fail
      go_ret
      exact ⟨by rw [← HE.out]; simp [h1, h2], S4.out.old⟩
    · have h2' : (na == nb) = false := beq_no h2
      go_wp2_with fail
      go_ret
      exact ⟨by rw [← HE.out]; simp [h1, h2], S3.out.old⟩
end Go.Proofs.Ytboefioalkjdaaa.L7

/-
  The contract of chapter 6's PutItem of the specification. Conditions: keys' texts of at most 2^40 bytes, at most 2^20 fields and items. (Written by my program gen_l6e.py.)
-/
namespace Go.Proofs.Ytboefioalkjdaaa.L6
set_option maxRecDepth 100000
open L4 (K isK cmpK R inR encU)
open L5 (F isR isN cellsF encR eqR Small)
open Go.ChangeShapes Go.WideShapes Go.ChangeAt Go.RowKit Mem Sl Ex L2 Sv Bag
set_option linter.unusedVariables false
set_option linter.unusedSimpArgs false

theorem rowsI_ins (ys : List LI) (k : Nat) (z : LI) : (rowsI ys ++ [z.row]).Perm (rowsI (ys.take k ++ z :: ys.drop k)) := by
  have e : rowsI ys = rowsI (ys.take k) ++ rowsI (ys.drop k) := by rw [← rowsI_append, List.take_append_drop]
  rw [e, rowsI_append, List.append_assoc]
  exact List.Perm.append_left _ List.perm_append_comm
theorem cellsI_take : ∀ (ys : List LI) (k : Nat), (cellsI ys).take (k * 4) = cellsI (ys.take k)
  | [], k => by simp [cellsI]
  | y :: ys, 0 => by simp [cellsI]
  | y :: ys, k + 1 => by
    rw [List.take_succ_cons, cellsI_cons, cellsI_cons, ← cellsI_take ys k, show (k + 1) * 4 = k * 4 + 1 + 1 + 1 + 1 by omega]
    rfl
theorem cellsI_drop : ∀ (ys : List LI) (k : Nat), (cellsI ys).drop (k * 4) = cellsI (ys.drop k)
  | [], k => by simp [cellsI]
  | y :: ys, 0 => by simp
  | y :: ys, k + 1 => by
    rw [List.drop_succ_cons, cellsI_cons, ← cellsI_drop ys k, show (k + 1) * 4 = k * 4 + 1 + 1 + 1 + 1 by omega]
    rfl
theorem reads_head {w : World} {B : Nat} {a : Option Addr} {ys : List LI} (h : Reads w B a (cellsI ys)) (k : Nat) : Reads w B a (cellsI (ys.take k)) := fun j hj => by
  have hk : cellsI (ys.take k) = (cellsI ys).take (k * 4) := (cellsI_take ys k).symm
  have h2 : (cellsI (ys.take k))[j] = ((cellsI ys).take (k * 4))[j]'(by rw [← hk]; exact hj) := by simp only [hk]
  have h3 : j < (cellsI ys).length := by rw [hk, List.length_take] at hj; omega
  obtain ⟨ad, e, hb, hc⟩ := h j h3
  exact ⟨ad, e, hb, by rw [hc, h2, List.getElem_take]⟩
theorem reads_tail {w : World} {B : Nat} {ad : Addr} {ys : List LI} (h : Reads w B (some ad) (cellsI ys)) (k : Nat) : Reads w B (some (ad.add (k * 4))) (cellsI (ys.drop k)) := fun j hj => by
  have hk : cellsI (ys.drop k) = (cellsI ys).drop (k * 4) := (cellsI_drop ys k).symm
  have h2 : (cellsI (ys.drop k))[j] = ((cellsI ys).drop (k * 4))[j]'(by rw [← hk]; exact hj) := by simp only [hk]
  have h3 : k * 4 + j < (cellsI ys).length := by rw [hk, List.length_drop] at hj; omega
  obtain ⟨ad', e, hb, hc⟩ := h (k * 4 + j) h3
  injection e with e
  subst e
  exact ⟨ad.add (k * 4), rfl, by rw [add_block]; exact hb, by rw [add_add, hc, h2, List.getElem_drop]⟩
theorem reads_rest2 {w : World} {B g : Nat} {ys : List LI} (h : Reads w B (some ⟨g, 0, none⟩) (cellsI ys)) (k : Nat) : Reads w B (some ⟨g, k * 4, none⟩) (cellsI (ys.drop k)) := by
  have := reads_tail h k
  rwa [Addr.add_lit, Nat.zero_add] at this
theorem conI_ins (ys : List LI) (k : Nat) (z : LI) : conI (ys.take k ++ z :: ys.drop k) = (conI ys).take k ++ z.con :: (conI ys).drop k := by
  unfold conI
  rw [List.map_append, List.map_cons, List.map_take, List.map_drop]
end Go.Proofs.Ytboefioalkjdaaa.L6

/-
  The contracts of chapter 7's functions of the specification, II: IndexOn, UniqueFault. Conditions: keys' texts of at most 2^40 bytes, at most 2^20 fields and items. (Written by my program gen_l7b.py.)
-/
namespace Go.Proofs.Ytboefioalkjdaaa.L7
set_option maxRecDepth 100000
open L4 (K isK cmpK R inR encU)
open L5 (F isR isN cellsF encR eqR Small getO getN getB)
open L6
open Go.ChangeShapes Go.WideShapes Go.ChangeAt Go.RowKit Mem Sl Ex L2 Sv Bag
set_option linter.unusedVariables false
set_option linter.unusedSimpArgs false

theorem fit_idx {xs : List It} {t : List UInt8} (h : ∀ x ∈ xs, FitI x) : ∀ x ∈ idxI xs t, FitI x := fun x hx => h x (idxI_mem x hx).1
theorem idx_take {xs : List It} {t : List UInt8} {k : Nat} (h : ∀ x ∈ xs, FitI x) : ∀ x ∈ idxI (xs.take k) t, FitI x := fun x hx => h x (List.mem_of_mem_take (idxI_mem x hx).1)

set_option maxHeartbeats 8000000 in
theorem specIndexOn_any (y : LS) (f : ByteArray) (hf : FitS y.con) (w : World) (hr : RowsRd w w.heap.size y.rows) :
    Calls Try.prog 45 #[y.v, .string f] w (GaveIs w (idxI y.con.items f.data.toList)) := by
  obtain ⟨i0, hi1, hi2, hi3, hi4⟩ := itemInfo
  have HI := Lib.hid (And.intro hi1 (And.intro hi2 (And.intro hi3 hi4)))
  clear hi1 hi2 hi3 hi4
  obtain ⟨name, a, c, xs, auto⟩ := y
  have HR := Lib.hid (fun w' (h : Below w.heap.size w w') => LS.outer (hr.below h))
  have HX := Lib.hid (fun w' (h : Below w.heap.size w w') => (LS.inner (hr.below h)).more h.size)
  have HF := Lib.hid hf.items
  have HNM := Lib.hid hf.name
  have hl := hf.len
  simp only [LS.con, conI_length] at hl
  dsimp only [LS.con] at HR HX HF HNM
  try unfold LS.v LS.cells LS.con
  try dsimp only
  obtain ⟨N, hN⟩ : ∃ n, n = xs.length := ⟨_, rfl⟩
  rw [← hN] at hl ⊢
  have hl' : (N : Int) ≤ 1048576 := by omega
  have HN := Lib.hid hN
  clear hN hr hf
  have S1 := Lib.hid (show Sl.Sep w (w.alloc (.cells #[.string name, .slice a N c, .int .i64 auto] 44)) [L4.boxR w.heap.size 44 #[.string name, .slice a N c, .int .i64 auto]] from L4.push_box (Sl.Sep.start w) 44 #[.string name, .slice a N c, .int .i64 auto] (w.heap.size) (by simp))
  obtain ⟨wa, hwa⟩ : ∃ u, u = (w.alloc (.cells #[.string name, .slice a N c, .int .i64 auto] 44)) := ⟨_, rfl⟩
  rw [← hwa] at S1
  go_enter Try.func45, Try.ntmps45
  go_upto_region 1 with fail
  rw [← hwa]
  clear hwa
  go_upto_region 2 with fail
  have S2 := Lib.hid (show Sl.Sep w _ [L4.boxR w.heap.size 44 #[.string name, .slice a N c, .int .i64 auto], Sv.ownV 72 4 (some ⟨wa.heap.size, 0, none⟩) 0 0 (cellsI [])] from Sv.push_own S1.out ((Below.refl _ _).alloc (Nat.le_refl _) _) (OwnV.madeAt wa 72 4 0 wa.heap.size #[] rfl (Nat.le_refl _) rfl (by decide)))
  clear S1
  obtain ⟨g1, hg⟩ : ∃ g', g' = wa.heap.size := ⟨_, rfl⟩
  rw [← hg] at S2 ⊢
  clear hg
  generalize wa.alloc (.cells #[] 72) = w1 at S2 ⊢
  have S3 := Lib.hid (show Sl.Sep w _ [L4.boxR w.heap.size 44 #[.string name, .slice a N c, .int .i64 auto], Sv.ownV 72 4 (some ⟨g1, 0, none⟩) 0 0 (cellsI []), Bag.bag (rowsI [])] from Bag.push_bag S2.out (Below.refl _ _) (Bag.BagOwn.nil _ _))
  clear S2
  go_wp2_with fail
  go_loopw [5, 6] (fun v i wr => ∃ (k m : Nat) (A : Option Addr) (C : Nat) (ys : List LI), k ≤ N ∧ i = .int .i64 k ∧ v = .slice A m C ∧ m ≤ k ∧ Hid ((m = ys.length ∧ conI ys = idxI ((conI xs).take k) f.data.toList) ∧ Sl.Sep w wr [L4.boxR w.heap.size 44 #[.string name, .slice a N c, .int .i64 auto], Sv.ownV 72 4 A C m (cellsI ys), Bag.bag (rowsI ys)])) (fun _ i _ => N - (intOf i).toNat)
  case atStart => exact ⟨0, 0, _, _, [], Nat.zero_le _, rfl, rfl, Nat.le_refl _, And.intro ⟨rfl, rfl⟩ S3.out⟩
  case round =>
    obtain ⟨k, m, A, C, ys, hk, rfl, rfl, hmk, hrel⟩ := hrel
    have HC := Lib.hid hrel.out.1
    have S4 := Lib.hid hrel.out.2
    clear hrel S3
    by_cases hlt : (k : Int) < (N : Int)
    · skip
      have hkl : k < xs.length := by have := HN.out; omega
      obtain ⟨ad, x, rfl, hx⟩ := readsI_some (HR.out _ S4.out.old) k hkl
      obtain ⟨⟨kd, n, t⟩, ia, ic, l⟩ := x
      have HK := Lib.hid (fun w' (h : Below w.heap.size w w') => readsI_at (HR.out _ h) k _ hx)
      try dsimp only at HK
      have HFI := Lib.hid (fit_at HF.out hx)
      try dsimp only [LI.con] at HFI
      have HCI := Lib.hid (fun w' (h : Below w.heap.size w w') => l6Item_any kd n t ia ic l HFI.out.len w' (((HX.out _ h).at_ (rowsI_mem hx)).reads))
      try dsimp only at HCI
      have HGF := Lib.hid (fun w' (h : Below w.heap.size w w') => L5.specGetField_any ia ic l f (by have : l.length ≤ 1048576 := HFI.out.len; omega) w' (((HX.out _ h).at_ (rowsI_mem hx)).reads))
      obtain ⟨fn, hfn⟩ : ∃ u, getN l f.data.toList = u := ⟨_, rfl⟩
      obtain ⟨fb, hfb⟩ : ∃ u, getB l f.data.toList = u := ⟨_, rfl⟩
      rw [hfn, hfb] at HGF
      have HT := Lib.hid (idxI_take (t := f.data.toList) (show (conI xs)[k]? = some (⟨⟨kd, n, t⟩, l⟩ : It) from con_of hx))
      unfold stepX at HT
      dsimp only at HT
      rw [hfb] at HT
      have HXK := Lib.hid (fun w' (h : Below w.heap.size w w') => ((HX.out _ h).at_ (rowsI_mem hx)).reads)
      try dsimp only [LI.row] at HXK
      clear hx hfn hfb
      have hh := Bag.cs3 S4.out 0 rfl
      have f0 := hh.1; have f1 := hh.2.1; have f2 := hh.2.2; clear hh
      have hh := HK.out _ S4.out.old
      have f3 := hh.1; have f4 := hh.2.1; have f5 := hh.2.2.1; have f6 := hh.2.2.2; clear hh
      go_wp2_with fail
      go_at_call 46
      refine (HGF.out _ S4.out.old).mono ?_
      rintro e w2 ⟨rfl, hb⟩
      clear f0 f1 f2 f3 f4 f5 f6
      have S5 := Lib.hid (S4.out.keep hb)
      clear S4
      clear hb
      have hh := Bag.cs3 S5.out 0 rfl
      have f0 := hh.1; have f1 := hh.2.1; have f2 := hh.2.2; clear hh
      have hh := HK.out _ S5.out.old
      have f3 := hh.1; have f4 := hh.2.1; have f5 := hh.2.2.1; have f6 := hh.2.2.2; clear hh
      cases fb with
      | false =>
        go_wp2_with fail
        go_roundw
        case rel => exact ⟨k + 1, m, A, C, ys, by omega, by go_num, rfl, by omega, And.intro ⟨HC.out.1, by rw [HT.out, HC.out.2]; simp⟩ S5.out⟩
        case measure => simp [intOf]; omega
      | true =>
        rw [if_pos rfl] at HT
        go_upto_block 2 with fail
        go_cut [9] (fun v wx => ∃ j : Nat, j ≤ m ∧ v = .int .i64 j ∧ Hid (backP f.data.toList ⟨⟨kd, n, t⟩, l⟩ (conI ys) m = j ∧ Sl.Sep w wx [L4.boxR w.heap.size 44 #[.string name, .slice (some ad) N c, .int .i64 auto], Sv.ownV 72 4 A C m (cellsI ys), Bag.bag (rowsI ys)]))
        case first =>
          go_wp2_with fail
          go_loopw [9] (fun v wr2 => ∃ j : Nat, j ≤ m ∧ v = .int .i64 j ∧ Hid (backP f.data.toList ⟨⟨kd, n, t⟩, l⟩ (conI ys) m = backP f.data.toList ⟨⟨kd, n, t⟩, l⟩ (conI ys) j ∧ Sl.Sep w wr2 [L4.boxR w.heap.size 44 #[.string name, .slice (some ad) N c, .int .i64 auto], Sv.ownV 72 4 A C m (cellsI ys), Bag.bag (rowsI ys)])) (fun v _ => (intOf v).toNat)
          case atStart => exact ⟨m, Nat.le_refl _, rfl, And.intro rfl S5.out⟩
          case round =>
            clear f0 f1 f2 f3 f4 f5 f6
            obtain ⟨j, hjm, rfl, hrel⟩ := hrel
            have HBP := Lib.hid hrel.out.1
            have S6 := Lib.hid hrel.out.2
            clear hrel S5
            by_cases hj0 : j = 0
            · subst hj0
              have hh := Bag.cs3 S6.out 0 rfl
              have f0 := hh.1; have f1 := hh.2.1; have f2 := hh.2.2; clear hh
              have hh := HK.out _ S6.out.old
              have f3 := hh.1; have f4 := hh.2.1; have f5 := hh.2.2.1; have f6 := hh.2.2.2; clear hh
              go_upto_region 8 with fail
              clear f0 f1 f2 f3 f4 f5 f6
              refine wp_region_held_drew (S := (fun w' => (World.cell? w' ⟨w.heap.size, 0, none⟩ = some (.string name) ∧ World.cell? w' ⟨w.heap.size, 1, none⟩ = some (.slice (some ad) N c) ∧ World.cell? w' ⟨w.heap.size, 2, none⟩ = some (.int .i64 auto)) ∧ (World.cell? w' (ad.add (k * 4)) = some (.int .i64 kd) ∧ World.cell? w' (⟨(ad.add (k * 4)).block, (ad.add (k * 4)).off + 1, none⟩) = some (.int .i64 n) ∧ World.cell? w' (⟨(ad.add (k * 4)).block, (ad.add (k * 4)).off + 2, none⟩) = some (.string t) ∧ World.cell? w' (⟨(ad.add (k * 4)).block, (ad.add (k * 4)).off + 3, none⟩) = some (.slice ia l.length ic)))) (by kernel_rfl) ⟨Bag.cs3 (Bag.drew1 S6.out) 0 rfl, HK.out _ (Bag.drew1 S6.out).old⟩ (fun hS => ?_)
              have S7 := Lib.hid (show Sl.Sep w _ [L4.boxR w.heap.size 44 #[.string name, .slice (some ad) N c, .int .i64 auto], Sv.ownV 72 4 A C m (cellsI ys), Bag.bag (rowsI ys)] from Bag.drew1 S6.out)
              clear S6
              generalize World.drew _ = w3 at hS S7 ⊢
              refine tk 0 rfl ?_
              try simp only [zp0, zp1, zp2, zp3, zp4]
              refine tk 1 rfl ?_
              try simp only [zp0, zp1, zp2, zp3, zp4]
              refine tk 2 rfl ?_
              try simp only [zp0, zp1, zp2, zp3, zp4]
              refine sk 3 rfl ?_
              try simp only [zp0, zp1, zp2, zp3, zp4]
              refine sk 4 rfl ?_
              try simp only [zp0, zp1, zp2, zp3, zp4]
              refine sk 5 rfl ?_
              try simp only [zp0, zp1, zp2, zp3, zp4]
              refine sk 6 rfl ?_
              try simp only [zp0, zp1, zp2, zp3, zp4]
              refine sk 7 rfl ?_
              try simp only [zp0, zp1, zp2, zp3, zp4]
              refine sk 8 rfl ?_
              try simp only [zp0, zp1, zp2, zp3, zp4]
              refine sk 9 rfl ?_
              try simp only [zp0, zp1, zp2, zp3, zp4]
              refine sk 10 rfl ?_
              try simp only [zp0, zp1, zp2, zp3, zp4]
              refine sk 11 rfl ?_
              try simp only [zp0, zp1, zp2, zp3, zp4]
              refine sk 12 rfl ?_
              try simp only [zp0, zp1, zp2, zp3, zp4]
              refine sk 13 rfl ?_
              try simp only [zp0, zp1, zp2, zp3, zp4]
              refine Reg.skip_one (i := 14) rfl (by kernel_rfl) (by rfl) (by assumption) ?_
              try simp only [zp0, zp1, zp2, zp3, zp4]
              refine tk 15 rfl ?_
              try simp only [zp0, zp1, zp2, zp3, zp4]
              refine wpAnyH_done (by kernel_rfl) ?_ _
              have hh := Bag.cs3 S7.out 0 rfl
              have f0 := hh.1; have f1 := hh.2.1; have f2 := hh.2.2; clear hh
              have hh := HK.out _ S7.out.old
              have f3 := hh.1; have f4 := hh.2.1; have f5 := hh.2.2.1; have f6 := hh.2.2.2; clear hh
              go_wp2_with fail
              go_meet
              case rel => exact ⟨0, by omega, rfl, And.intro (by rw [HBP.out]; rfl) S7.out⟩
            · skip
              obtain ⟨i, rfl⟩ : ∃ i, j = i + 1 := ⟨j - 1, by omega⟩
              have hiy : i < ys.length := by have := HC.out.1; omega
              obtain ⟨ad2, x2, e2, hx2⟩ := readsI_some ((Sv.own_at S6.out 1 rfl).reads) i hiy
              subst e2
              obtain ⟨⟨kd2, n2, t2⟩, ia2, ic2, l2⟩ := x2
              have HFI2 := Lib.hid (show FitI ⟨⟨kd2, n2, t2⟩, l2⟩ from idx_take HF.out _ (by rw [← HC.out.2]; exact List.mem_of_getElem? (con_of hx2)))
              have HY2 := Lib.hid (show (conI ys)[i]? = some (⟨⟨kd2, n2, t2⟩, l2⟩ : It) from con_of hx2)
              have HX2 := Lib.hid hx2
              have hsub : ((i + 1 : Nat) : Int) - 1 = (i : Int) := by omega
              have hi0 : 0 < ((i + 1 : Nat) : Int) := by omega
              have him : (i : Int) < (m : Int) := by omega
              have hwr : IntKind.i64.wrap (i : Int) = (i : Int) := IntWalk.i64_in _ ⟨by omega, by have := HC.out.1; omega⟩
              obtain ⟨bl, hbl⟩ : ∃ b, less7 f.data.toList ⟨⟨kd, n, t⟩, l⟩ ⟨⟨kd2, n2, t2⟩, l2⟩ = b := ⟨_, rfl⟩
              have hh := Bag.cs3 S6.out 0 rfl
              have f0 := hh.1; have f1 := hh.2.1; have f2 := hh.2.2; clear hh
              have hh := HK.out _ S6.out.old
              have f3 := hh.1; have f4 := hh.2.1; have f5 := hh.2.2.1; have f6 := hh.2.2.2; clear hh
              have f7 : World.cell? _ (ad2.add (i * 4)) = some (.int .i64 kd2) := (readsI_at (Sv.own_at S6.out 1 rfl).reads i _ HX2.out).1
              have f8 : World.cell? _ (⟨(ad2.add (i * 4)).block, (ad2.add (i * 4)).off + 1, none⟩) = some (.int .i64 n2) := (readsI_at (Sv.own_at S6.out 1 rfl).reads i _ HX2.out).2.1
              have f9 : World.cell? _ (⟨(ad2.add (i * 4)).block, (ad2.add (i * 4)).off + 2, none⟩) = some (.string t2) := (readsI_at (Sv.own_at S6.out 1 rfl).reads i _ HX2.out).2.2.1
              have f10 : World.cell? _ (⟨(ad2.add (i * 4)).block, (ad2.add (i * 4)).off + 3, none⟩) = some (.slice ia2 l2.length ic2) := (readsI_at (Sv.own_at S6.out 1 rfl).reads i _ HX2.out).2.2.2
              go_upto_region 8 with fail
              clear f0 f1 f2 f3 f4 f5 f6 f7 f8 f9 f10
              refine wp_region_held_drew (S := (fun w' => (World.cell? w' ⟨w.heap.size, 0, none⟩ = some (.string name) ∧ World.cell? w' ⟨w.heap.size, 1, none⟩ = some (.slice (some ad) N c) ∧ World.cell? w' ⟨w.heap.size, 2, none⟩ = some (.int .i64 auto)) ∧ (World.cell? w' (ad.add (k * 4)) = some (.int .i64 kd) ∧ World.cell? w' (⟨(ad.add (k * 4)).block, (ad.add (k * 4)).off + 1, none⟩) = some (.int .i64 n) ∧ World.cell? w' (⟨(ad.add (k * 4)).block, (ad.add (k * 4)).off + 2, none⟩) = some (.string t) ∧ World.cell? w' (⟨(ad.add (k * 4)).block, (ad.add (k * 4)).off + 3, none⟩) = some (.slice ia l.length ic)) ∧ World.cell? w' (ad2.add (i * 4)) = some (.int .i64 kd2) ∧ World.cell? w' (⟨(ad2.add (i * 4)).block, (ad2.add (i * 4)).off + 1, none⟩) = some (.int .i64 n2) ∧ World.cell? w' (⟨(ad2.add (i * 4)).block, (ad2.add (i * 4)).off + 2, none⟩) = some (.string t2) ∧ World.cell? w' (⟨(ad2.add (i * 4)).block, (ad2.add (i * 4)).off + 3, none⟩) = some (.slice ia2 l2.length ic2))) (by kernel_rfl) ⟨Bag.cs3 (Bag.drew1 S6.out) 0 rfl, HK.out _ (Bag.drew1 S6.out).old, (readsI_at (Sv.own_at (Bag.drew1 S6.out) 1 rfl).reads i _ HX2.out).1, (readsI_at (Sv.own_at (Bag.drew1 S6.out) 1 rfl).reads i _ HX2.out).2.1, (readsI_at (Sv.own_at (Bag.drew1 S6.out) 1 rfl).reads i _ HX2.out).2.2.1, (readsI_at (Sv.own_at (Bag.drew1 S6.out) 1 rfl).reads i _ HX2.out).2.2.2⟩ (fun hS => ?_)
              have S7 := Lib.hid (show Sl.Sep w _ [L4.boxR w.heap.size 44 #[.string name, .slice (some ad) N c, .int .i64 auto], Sv.ownV 72 4 (some ad2) C m (cellsI ys), Bag.bag (rowsI ys)] from Bag.drew1 S6.out)
              clear S6
              generalize World.drew _ = w3 at hS S7 ⊢
              refine tk 0 rfl ?_
              try simp only [zp0, zp1, zp2, zp3, zp4]
              refine tk 1 rfl ?_
              try simp only [zp0, zp1, zp2, zp3, zp4]
              refine tk 2 rfl ?_
              try simp only [zp0, zp1, zp2, zp3, zp4]
              refine tk 3 rfl ?_
              try simp only [zp0, zp1, zp2, zp3, zp4]
              refine tk 4 rfl ?_
              try simp only [zp0, zp1, zp2, zp3, zp4]
              refine tk 5 rfl ?_
              try simp only [zp0, zp1, zp2, zp3, zp4]
              refine tk 6 rfl ?_
              try simp only [zp0, zp1, zp2, zp3, zp4]
              refine tk 7 rfl ?_
              try simp only [zp0, zp1, zp2, zp3, zp4]
              refine tk 8 rfl ?_
              try simp only [zp0, zp1, zp2, zp3, zp4]
              refine tk 9 rfl ?_
              try simp only [zp0, zp1, zp2, zp3, zp4]
              refine tk 10 rfl ?_
              try simp only [zp0, zp1, zp2, zp3, zp4]
              refine tk 11 rfl ?_
              try simp only [zp0, zp1, zp2, zp3, zp4]
              refine tk 12 rfl ?_
              try simp only [zp0, zp1, zp2, zp3, zp4]
              refine tk 13 rfl ?_
              try simp only [zp0, zp1, zp2, zp3, zp4]
              refine Reg.one_op (i := 14) rfl (by kernel_rfl) (fun K hK => ?_)
              have HLS := l7Less_any kd n kd2 n2 t t2 ia ia2 ic ic2 l l2 f HFI.out.text HFI2.out.text HFI.out.len HFI2.out.len _ (HXK.out _ S7.out.old) (((Bag.bag_rd S7.out 2 rfl).at_ (rowsI_mem HX2.out)).reads)
              rw [hbl] at HLS
              go_simp
              go_at_call 65
              refine HLS.mono ?_
              clear HLS
              rintro e w4 ⟨rfl, hb⟩
              have S8 := Lib.hid (S7.out.keep hb)
              clear S7
              clear hb
              go_wp2_with fail
              refine hK.out _ _ ⟨Bag.cs3 S8.out 0 rfl, HK.out _ S8.out.old, (readsI_at (Sv.own_at S8.out 1 rfl).reads i _ HX2.out).1, (readsI_at (Sv.own_at S8.out 1 rfl).reads i _ HX2.out).2.1, (readsI_at (Sv.own_at S8.out 1 rfl).reads i _ HX2.out).2.2.1, (readsI_at (Sv.own_at S8.out 1 rfl).reads i _ HX2.out).2.2.2⟩ (fun hS => ?_)
              clear hK K
              try simp only [zp0, zp1, zp2, zp3, zp4]
              refine tk 15 rfl ?_
              try simp only [zp0, zp1, zp2, zp3, zp4]
              refine wpAnyH_done (by kernel_rfl) ?_ _
              have hh := Bag.cs3 S8.out 0 rfl
              have f0 := hh.1; have f1 := hh.2.1; have f2 := hh.2.2; clear hh
              have hh := HK.out _ S8.out.old
              have f3 := hh.1; have f4 := hh.2.1; have f5 := hh.2.2.1; have f6 := hh.2.2.2; clear hh
              have f7 : World.cell? _ (ad2.add (i * 4)) = some (.int .i64 kd2) := (readsI_at (Sv.own_at S8.out 1 rfl).reads i _ HX2.out).1
              have f8 : World.cell? _ (⟨(ad2.add (i * 4)).block, (ad2.add (i * 4)).off + 1, none⟩) = some (.int .i64 n2) := (readsI_at (Sv.own_at S8.out 1 rfl).reads i _ HX2.out).2.1
              have f9 : World.cell? _ (⟨(ad2.add (i * 4)).block, (ad2.add (i * 4)).off + 2, none⟩) = some (.string t2) := (readsI_at (Sv.own_at S8.out 1 rfl).reads i _ HX2.out).2.2.1
              have f10 : World.cell? _ (⟨(ad2.add (i * 4)).block, (ad2.add (i * 4)).off + 3, none⟩) = some (.slice ia2 l2.length ic2) := (readsI_at (Sv.own_at S8.out 1 rfl).reads i _ HX2.out).2.2.2
              cases bl with
              | true =>
                go_wp2_with fail
                go_roundw
                case rel => exact ⟨i, by omega, by go_num, And.intro (by rw [HBP.out, backP_go HY2.out hbl]) S8.out⟩
                case measure => simp [intOf]
              | false =>
                go_wp2_with fail
                go_meet
                case rel => exact ⟨i + 1, by omega, rfl, And.intro (by rw [HBP.out]; exact backP_stop HY2.out hbl) S8.out⟩
        case rest =>
          obtain ⟨j, hjm, rfl, hq⟩ := hcut
          obtain ⟨ww, hww, hS⟩ : ∃ u, u = _ ∧ Sl.Sep w u [L4.boxR w.heap.size 44 #[.string name, .slice (some ad) N c, .int .i64 auto], Sv.ownV 72 4 A C m (cellsI ys), Bag.bag (rowsI ys)] := ⟨_, rfl, hq.out.2⟩
          subst hww
          have HBP := Lib.hid hq.out.1
          have S6 := Lib.hid hS
          clear hq hS S5
          have HML := Lib.hid HC.out.1
          have hjy : j ≤ ys.length := by have := HML.out; omega
          by_cases hjl : j = m
          · subst hjl
            have hcap : j ≤ C := by have := (Sv.own_at S6.out 1 rfl).cap; omega
            have hck : (j : Int) ≤ (C : Int) := by omega
            have S7 := Lib.hid (show Sl.Sep w _ [L4.boxR w.heap.size 44 #[.string name, .slice (some ad) N c, .int .i64 auto], Sv.ownV 72 4 A C j (cellsI ys), Bag.bag (rowsI ys), Sv.ownV 72 4 (some ⟨ww.heap.size, 0, none⟩) 0 0 (cellsI [])] from Sv.push_own S6.out ((Below.refl _ _).alloc (Nat.le_refl _) _) (OwnV.madeAt ww 72 4 0 ww.heap.size #[] rfl (Nat.le_refl _) rfl (by decide)))
            clear S6
            have hh := Bag.cs3 S7.out 0 rfl
            have f0 := hh.1; have f1 := hh.2.1; have f2 := hh.2.2; clear hh
            have hh := HK.out _ S7.out.old
            have f3 := hh.1; have f4 := hh.2.1; have f5 := hh.2.2.1; have f6 := hh.2.2.2; clear hh
            go_upto_region 11 with (at_builtin; refine L5.wpList_append_v S7.out 3 rfl rfl _ _ 42 (by rfl) i0 (.agg #[.int .i64 0, .int .i64 0, .string ⟨#[]⟩, .slice none 0 0]) 56 Try.underlying42 HI.out.1 HI.out.2.1 HI.out.2.2.1 HI.out.2.2.2 rfl (by omega) _ (by rfl) rfl _ _ j _ _ (cellsI (ys.take j)) (by rfl) rfl (reads_head (Sv.own_at S7.out 1 rfl).reads j) (by rw [cellsI_length, List.length_take, Nat.min_eq_left hjy]) (cellsI_one _) (by unfold maxLen; omega) (by omega) ?_; intro a2' c2' w3 hA)
            clear f0 f1 f2 f3 f4 f5 f6
            have S8 := Lib.hid (show Sl.Sep w w3 [L4.boxR w.heap.size 44 #[.string name, .slice (some ad) N c, .int .i64 auto], Sv.ownV 72 4 A C j (cellsI ys), Bag.bag (rowsI ys), Sv.ownV 72 4 a2' c2' j (cellsI (ys.take j))] from (by have h := hA; first | exact h | (rw [Nat.zero_add] at h; exact h)))
            clear S7
            clear hA
            have hh := Bag.cs3 S8.out 0 rfl
            have f0 := hh.1; have f1 := hh.2.1; have f2 := hh.2.2; clear hh
            have hh := HK.out _ S8.out.old
            have f3 := hh.1; have f4 := hh.2.1; have f5 := hh.2.2.1; have f6 := hh.2.2.2; clear hh
            go_wp2_with fail
            go_at_call 66
            refine (HCI.out _ S8.out.old).mono ?_
            rintro e w4 ⟨a1, c1, rfl, ho, hb⟩
            clear f0 f1 f2 f3 f4 f5 f6
            have S9 := Lib.hid (show Sl.Sep w _ [L4.boxR w.heap.size 44 #[.string name, .slice (some ad) N c, .int .i64 auto], Sv.ownV 72 4 A C j (cellsI ys), Bag.bag (rowsI ys), Sv.ownV 72 4 a2' c2' j (cellsI (ys.take j)), Bag.bag ([(LI.mk ⟨kd, n, t⟩ a1 c1 l).row])] from Bag.push_bag S8.out hb ho)
            clear S8
            clear hb ho
            have hh := Bag.cs3 S9.out 0 rfl
            have f0 := hh.1; have f1 := hh.2.1; have f2 := hh.2.2; clear hh
            have hh := HK.out _ S9.out.old
            have f3 := hh.1; have f4 := hh.2.1; have f5 := hh.2.2.1; have f6 := hh.2.2.2; clear hh
            have S10 := Lib.hid (show Sl.Sep w _ [L4.boxR w.heap.size 44 #[.string name, .slice (some ad) N c, .int .i64 auto], Sv.ownV 72 4 A C j (cellsI ys), Bag.bag (rowsI ys), Sv.ownV 72 4 a2' c2' j (cellsI (ys.take j)), Bag.bag ([(LI.mk ⟨kd, n, t⟩ a1 c1 l).row]), Sv.ownV 72 4 (some ⟨w4.heap.size, 0, none⟩) 1 1 (cellsI [⟨⟨kd, n, t⟩, a1, c1, l⟩])] from Sv.push_own S9.out ((Below.refl _ _).alloc (Nat.le_refl _) _) (OwnV.madeAt w4 72 4 1 w4.heap.size #[.int .i64 kd, .int .i64 n, .string t, .slice a1 l.length c1] rfl (Nat.le_refl _) rfl (by decide)))
            clear S9
            go_upto_region 12 with (at_builtin; refine L5.wpList_append_v S10.out 3 rfl rfl _ _ 42 (by rfl) i0 (.agg #[.int .i64 0, .int .i64 0, .string ⟨#[]⟩, .slice none 0 0]) 56 Try.underlying42 HI.out.1 HI.out.2.1 HI.out.2.2.1 HI.out.2.2.2 rfl (by omega) _ (by rfl) rfl _ _ 1 _ _ (cellsI [⟨⟨kd, n, t⟩, a1, c1, l⟩]) (by rfl) rfl (Sv.own_at S10.out 5 rfl).reads rfl (cellsI_one _) (by unfold maxLen; omega) (by omega) ?_; intro a3' c3' w5 hA)
            have S11 := Lib.hid (show Sl.Sep w _ [L4.boxR w.heap.size 44 #[.string name, .slice (some ad) N c, .int .i64 auto], Sv.ownV 72 4 A C j (cellsI ys), Bag.bag (rowsI ys), Sv.ownV 72 4 a3' c3' (j + 1) (cellsI (ys.take j) ++ (cellsI [⟨⟨kd, n, t⟩, a1, c1, l⟩])), Bag.bag ([(LI.mk ⟨kd, n, t⟩ a1 c1 l).row]), Sv.ownV 72 4 (some ⟨w4.heap.size, 0, none⟩) 1 1 (cellsI [⟨⟨kd, n, t⟩, a1, c1, l⟩])] from hA)
            clear S10
            clear hA
            clear f0 f1 f2 f3 f4 f5 f6
            have S12 := Lib.hid (show Sl.Sep w _ [L4.boxR w.heap.size 44 #[.string name, .slice (some ad) N c, .int .i64 auto], Sv.ownV 72 4 A C j (cellsI ys), Bag.bag (rowsI ys), Sv.ownV 72 4 a3' c3' (j + 1) (cellsI (ys.take j) ++ (cellsI [⟨⟨kd, n, t⟩, a1, c1, l⟩])), Bag.bag ([(LI.mk ⟨kd, n, t⟩ a1 c1 l).row])] from Bag.take S11.out [0, 1, 2, 3, 4] (by rfl) (by decide))
            clear S11
            go_wp2_with (at_builtin; refine L5.wpList_append_v S12.out 3 rfl rfl _ _ 42 (by rfl) i0 (.agg #[.int .i64 0, .int .i64 0, .string ⟨#[]⟩, .slice none 0 0]) 56 Try.underlying42 HI.out.1 HI.out.2.1 HI.out.2.2.1 HI.out.2.2.2 rfl (by omega) _ (by rfl) rfl _ _ 0 _ _ (cellsI []) (by rfl) rfl (Sl.Reads.nil (B := 0)) rfl (cellsI_one _) (by unfold maxLen; omega) (by omega) ?_; intro a4' c4' w6 hA)
            have S13 := Lib.hid (show Sl.Sep w _ [L4.boxR w.heap.size 44 #[.string name, .slice (some ad) N c, .int .i64 auto], Sv.ownV 72 4 A C j (cellsI ys), Bag.bag (rowsI ys), Sv.ownV 72 4 a4' c4' (j + 1 + 0) ((cellsI (ys.take j) ++ (cellsI [⟨⟨kd, n, t⟩, a1, c1, l⟩])) ++ cellsI []), Bag.bag ([(LI.mk ⟨kd, n, t⟩ a1 c1 l).row])] from hA)
            clear S12
            clear hA
            have S14 := Lib.hid (show Sl.Sep w _ [L4.boxR w.heap.size 44 #[.string name, .slice (some ad) N c, .int .i64 auto], Sv.ownV 72 4 a4' c4' (j + 1 + 0) ((cellsI (ys.take j) ++ (cellsI [⟨⟨kd, n, t⟩, a1, c1, l⟩])) ++ cellsI []), Bag.bag (rowsI ys), Bag.bag ([(LI.mk ⟨kd, n, t⟩ a1 c1 l).row])] from Bag.take S13.out [0, 3, 2, 4] (by rfl) (by decide))
            clear S13
            have S15 := Lib.hid (show Sl.Sep w _ [L4.boxR w.heap.size 44 #[.string name, .slice (some ad) N c, .int .i64 auto], Sv.ownV 72 4 a4' c4' (j + 1 + 0) ((cellsI (ys.take j) ++ (cellsI [⟨⟨kd, n, t⟩, a1, c1, l⟩])) ++ cellsI []), Bag.bag (rowsI ys ++ ([(LI.mk ⟨kd, n, t⟩ a1 c1 l).row])), Bag.bag ([])] from Bag.bag_join S14.out 2 3 (by decide) rfl rfl)
            clear S14
            have S16 := Lib.hid (show Sl.Sep w _ [L4.boxR w.heap.size 44 #[.string name, .slice (some ad) N c, .int .i64 auto], Sv.ownV 72 4 a4' c4' (j + 1 + 0) ((cellsI (ys.take j) ++ (cellsI [⟨⟨kd, n, t⟩, a1, c1, l⟩])) ++ cellsI []), Bag.bag (rowsI ys ++ ([(LI.mk ⟨kd, n, t⟩ a1 c1 l).row]))] from Bag.take S15.out [0, 1, 2] (by rfl) (by decide))
            clear S15
            have S17 := Lib.hid (show Sl.Sep w _ [L4.boxR w.heap.size 44 #[.string name, .slice (some ad) N c, .int .i64 auto], Sv.ownV 72 4 a4' c4' (j + 1 + 0) ((cellsI (ys.take j) ++ (cellsI [⟨⟨kd, n, t⟩, a1, c1, l⟩])) ++ cellsI []), Bag.bag (rowsI (ys.take j ++ ⟨⟨kd, n, t⟩, a1, c1, l⟩ :: ys.drop j))] from Bag.bag_perm S16.out 2 rfl (rowsI_ins ys j ⟨⟨kd, n, t⟩, a1, c1, l⟩))
            clear S16
            have hlz : (ys.take j ++ ⟨⟨kd, n, t⟩, a1, c1, l⟩ :: ys.drop j).length = j + 1 := by rw [List.length_append, List.length_cons, List.length_take, List.length_drop]; have := HML.out; omega
            have hcz : cellsI (ys.take j ++ ⟨⟨kd, n, t⟩, a1, c1, l⟩ :: ys.drop j) = (cellsI (ys.take j) ++ (cellsI [⟨⟨kd, n, t⟩, a1, c1, l⟩])) ++ cellsI [] := by rw [cellsI_append, cellsI_cons]; rw [List.drop_of_length_le (show ys.length ≤ j by have := HML.out; omega)]; simp [cellsI, LI.cells]
            have HCZ := Lib.hid hcz
            clear hcz
            have S18 := Lib.hid (show Sl.Sep w _ [L4.boxR w.heap.size 44 #[.string name, .slice (some ad) N c, .int .i64 auto], Sv.ownV 72 4 a4' c4' (j + 1 + 0) (cellsI (ys.take j ++ ⟨⟨kd, n, t⟩, a1, c1, l⟩ :: ys.drop j)), Bag.bag (rowsI (ys.take j ++ ⟨⟨kd, n, t⟩, a1, c1, l⟩ :: ys.drop j))] from (by rw [HCZ.out]; exact S17.out))
            clear S17
            have S19 := Lib.hid (show Sl.Sep w _ [L4.boxR w.heap.size 44 #[.string name, .slice (some ad) N c, .int .i64 auto], Sv.ownV 72 4 a4' c4' (j + 1) (cellsI (ys.take j ++ ⟨⟨kd, n, t⟩, a1, c1, l⟩ :: ys.drop j)), Bag.bag (rowsI (ys.take j ++ ⟨⟨kd, n, t⟩, a1, c1, l⟩ :: ys.drop j))] from S18.out)
            clear S18
            go_roundw
            case rel =>
              refine ⟨k + 1, j + 1, a4', c4', ys.take j ++ ⟨⟨kd, n, t⟩, a1, c1, l⟩ :: ys.drop j, by omega, by go_num, ?_, by omega, And.intro ⟨hlz.symm, ?_⟩ S19.out⟩
              · first | rfl | simp
              · rw [HT.out, conI_ins, HC.out.2]; unfold insX; rw [← HC.out.2, conI_length, ← HML.out, HBP.out]; rfl
            case measure => simp [intOf]; omega
          · skip
            obtain ⟨g9, rfl⟩ : ∃ g, A = some ⟨g, 0, none⟩ := by
              rcases (Sv.own_at S6.out 1 rfl).form with ⟨_, h0, _⟩ | ⟨g, e, _⟩
              · omega
              · exact ⟨g, e⟩
            have hcap : j ≤ C := by have := (Sv.own_at S6.out 1 rfl).cap; omega
            have hck : (j : Int) ≤ (C : Int) := by omega
            have S7 := Lib.hid (show Sl.Sep w _ [L4.boxR w.heap.size 44 #[.string name, .slice (some ad) N c, .int .i64 auto], Sv.ownV 72 4 (some ⟨g9, 0, none⟩) C m (cellsI ys), Bag.bag (rowsI ys), Sv.ownV 72 4 (some ⟨ww.heap.size, 0, none⟩) 0 0 (cellsI [])] from Sv.push_own S6.out ((Below.refl _ _).alloc (Nat.le_refl _) _) (OwnV.madeAt ww 72 4 0 ww.heap.size #[] rfl (Nat.le_refl _) rfl (by decide)))
            clear S6
            have hh := Bag.cs3 S7.out 0 rfl
            have f0 := hh.1; have f1 := hh.2.1; have f2 := hh.2.2; clear hh
            have hh := HK.out _ S7.out.old
            have f3 := hh.1; have f4 := hh.2.1; have f5 := hh.2.2.1; have f6 := hh.2.2.2; clear hh
            go_upto_region 11 with (at_builtin; refine L5.wpList_append_v S7.out 3 rfl rfl _ _ 42 (by rfl) i0 (.agg #[.int .i64 0, .int .i64 0, .string ⟨#[]⟩, .slice none 0 0]) 56 Try.underlying42 HI.out.1 HI.out.2.1 HI.out.2.2.1 HI.out.2.2.2 rfl (by omega) _ (by rfl) rfl _ _ j _ _ (cellsI (ys.take j)) (by rfl) rfl (reads_head (Sv.own_at S7.out 1 rfl).reads j) (by rw [cellsI_length, List.length_take, Nat.min_eq_left hjy]) (cellsI_one _) (by unfold maxLen; omega) (by omega) ?_; intro a2' c2' w3 hA)
            clear f0 f1 f2 f3 f4 f5 f6
            have S8 := Lib.hid (show Sl.Sep w w3 [L4.boxR w.heap.size 44 #[.string name, .slice (some ad) N c, .int .i64 auto], Sv.ownV 72 4 (some ⟨g9, 0, none⟩) C m (cellsI ys), Bag.bag (rowsI ys), Sv.ownV 72 4 a2' c2' j (cellsI (ys.take j))] from (by have h := hA; first | exact h | (rw [Nat.zero_add] at h; exact h)))
            clear S7
            clear hA
            have hh := Bag.cs3 S8.out 0 rfl
            have f0 := hh.1; have f1 := hh.2.1; have f2 := hh.2.2; clear hh
            have hh := HK.out _ S8.out.old
            have f3 := hh.1; have f4 := hh.2.1; have f5 := hh.2.2.1; have f6 := hh.2.2.2; clear hh
            go_wp2_with fail
            go_at_call 66
            refine (HCI.out _ S8.out.old).mono ?_
            rintro e w4 ⟨a1, c1, rfl, ho, hb⟩
            clear f0 f1 f2 f3 f4 f5 f6
            have S9 := Lib.hid (show Sl.Sep w _ [L4.boxR w.heap.size 44 #[.string name, .slice (some ad) N c, .int .i64 auto], Sv.ownV 72 4 (some ⟨g9, 0, none⟩) C m (cellsI ys), Bag.bag (rowsI ys), Sv.ownV 72 4 a2' c2' j (cellsI (ys.take j)), Bag.bag ([(LI.mk ⟨kd, n, t⟩ a1 c1 l).row])] from Bag.push_bag S8.out hb ho)
            clear S8
            clear hb ho
            have hh := Bag.cs3 S9.out 0 rfl
            have f0 := hh.1; have f1 := hh.2.1; have f2 := hh.2.2; clear hh
            have hh := HK.out _ S9.out.old
            have f3 := hh.1; have f4 := hh.2.1; have f5 := hh.2.2.1; have f6 := hh.2.2.2; clear hh
            have S10 := Lib.hid (show Sl.Sep w _ [L4.boxR w.heap.size 44 #[.string name, .slice (some ad) N c, .int .i64 auto], Sv.ownV 72 4 (some ⟨g9, 0, none⟩) C m (cellsI ys), Bag.bag (rowsI ys), Sv.ownV 72 4 a2' c2' j (cellsI (ys.take j)), Bag.bag ([(LI.mk ⟨kd, n, t⟩ a1 c1 l).row]), Sv.ownV 72 4 (some ⟨w4.heap.size, 0, none⟩) 1 1 (cellsI [⟨⟨kd, n, t⟩, a1, c1, l⟩])] from Sv.push_own S9.out ((Below.refl _ _).alloc (Nat.le_refl _) _) (OwnV.madeAt w4 72 4 1 w4.heap.size #[.int .i64 kd, .int .i64 n, .string t, .slice a1 l.length c1] rfl (Nat.le_refl _) rfl (by decide)))
            clear S9
            go_upto_region 12 with (at_builtin; refine L5.wpList_append_v S10.out 3 rfl rfl _ _ 42 (by rfl) i0 (.agg #[.int .i64 0, .int .i64 0, .string ⟨#[]⟩, .slice none 0 0]) 56 Try.underlying42 HI.out.1 HI.out.2.1 HI.out.2.2.1 HI.out.2.2.2 rfl (by omega) _ (by rfl) rfl _ _ 1 _ _ (cellsI [⟨⟨kd, n, t⟩, a1, c1, l⟩]) (by rfl) rfl (Sv.own_at S10.out 5 rfl).reads rfl (cellsI_one _) (by unfold maxLen; omega) (by omega) ?_; intro a3' c3' w5 hA)
            have S11 := Lib.hid (show Sl.Sep w _ [L4.boxR w.heap.size 44 #[.string name, .slice (some ad) N c, .int .i64 auto], Sv.ownV 72 4 (some ⟨g9, 0, none⟩) C m (cellsI ys), Bag.bag (rowsI ys), Sv.ownV 72 4 a3' c3' (j + 1) (cellsI (ys.take j) ++ (cellsI [⟨⟨kd, n, t⟩, a1, c1, l⟩])), Bag.bag ([(LI.mk ⟨kd, n, t⟩ a1 c1 l).row]), Sv.ownV 72 4 (some ⟨w4.heap.size, 0, none⟩) 1 1 (cellsI [⟨⟨kd, n, t⟩, a1, c1, l⟩])] from hA)
            clear S10
            clear hA
            clear f0 f1 f2 f3 f4 f5 f6
            have S12 := Lib.hid (show Sl.Sep w _ [L4.boxR w.heap.size 44 #[.string name, .slice (some ad) N c, .int .i64 auto], Sv.ownV 72 4 (some ⟨g9, 0, none⟩) C m (cellsI ys), Bag.bag (rowsI ys), Sv.ownV 72 4 a3' c3' (j + 1) (cellsI (ys.take j) ++ (cellsI [⟨⟨kd, n, t⟩, a1, c1, l⟩])), Bag.bag ([(LI.mk ⟨kd, n, t⟩ a1 c1 l).row])] from Bag.take S11.out [0, 1, 2, 3, 4] (by rfl) (by decide))
            clear S11
            have hcl := (Sv.own_at S12.out 1 rfl).cap
            have hkN : (j : Int) ≤ (m : Int) := by omega
            have hNc : (m : Int) ≤ (C : Int) := by omega
            go_wp2_with (at_builtin; refine L5.wpList_append_v S12.out 3 rfl rfl _ _ 42 (by rfl) i0 (.agg #[.int .i64 0, .int .i64 0, .string ⟨#[]⟩, .slice none 0 0]) 56 Try.underlying42 HI.out.1 HI.out.2.1 HI.out.2.2.1 HI.out.2.2.2 rfl (by omega) _ (by rfl) rfl _ _ (m - j) _ _ (cellsI (ys.drop j)) (by rfl) rfl (reads_rest2 (Sv.own_at S12.out 1 rfl).reads j) (by rw [cellsI_length, List.length_drop]; have := HML.out; omega) (cellsI_one _) (by unfold maxLen; omega) (by omega) ?_; intro a4' c4' w6 hA)
            have S13 := Lib.hid (show Sl.Sep w _ [L4.boxR w.heap.size 44 #[.string name, .slice (some ad) N c, .int .i64 auto], Sv.ownV 72 4 (some ⟨g9, 0, none⟩) C m (cellsI ys), Bag.bag (rowsI ys), Sv.ownV 72 4 a4' c4' (j + 1 + (m - j)) ((cellsI (ys.take j) ++ (cellsI [⟨⟨kd, n, t⟩, a1, c1, l⟩])) ++ cellsI (ys.drop j)), Bag.bag ([(LI.mk ⟨kd, n, t⟩ a1 c1 l).row])] from hA)
            clear S12
            clear hA
            have S14 := Lib.hid (show Sl.Sep w _ [L4.boxR w.heap.size 44 #[.string name, .slice (some ad) N c, .int .i64 auto], Sv.ownV 72 4 a4' c4' (j + 1 + (m - j)) ((cellsI (ys.take j) ++ (cellsI [⟨⟨kd, n, t⟩, a1, c1, l⟩])) ++ cellsI (ys.drop j)), Bag.bag (rowsI ys), Bag.bag ([(LI.mk ⟨kd, n, t⟩ a1 c1 l).row])] from Bag.take S13.out [0, 3, 2, 4] (by rfl) (by decide))
            clear S13
            have S15 := Lib.hid (show Sl.Sep w _ [L4.boxR w.heap.size 44 #[.string name, .slice (some ad) N c, .int .i64 auto], Sv.ownV 72 4 a4' c4' (j + 1 + (m - j)) ((cellsI (ys.take j) ++ (cellsI [⟨⟨kd, n, t⟩, a1, c1, l⟩])) ++ cellsI (ys.drop j)), Bag.bag (rowsI ys ++ ([(LI.mk ⟨kd, n, t⟩ a1 c1 l).row])), Bag.bag ([])] from Bag.bag_join S14.out 2 3 (by decide) rfl rfl)
            clear S14
            have S16 := Lib.hid (show Sl.Sep w _ [L4.boxR w.heap.size 44 #[.string name, .slice (some ad) N c, .int .i64 auto], Sv.ownV 72 4 a4' c4' (j + 1 + (m - j)) ((cellsI (ys.take j) ++ (cellsI [⟨⟨kd, n, t⟩, a1, c1, l⟩])) ++ cellsI (ys.drop j)), Bag.bag (rowsI ys ++ ([(LI.mk ⟨kd, n, t⟩ a1 c1 l).row]))] from Bag.take S15.out [0, 1, 2] (by rfl) (by decide))
            clear S15
            have S17 := Lib.hid (show Sl.Sep w _ [L4.boxR w.heap.size 44 #[.string name, .slice (some ad) N c, .int .i64 auto], Sv.ownV 72 4 a4' c4' (j + 1 + (m - j)) ((cellsI (ys.take j) ++ (cellsI [⟨⟨kd, n, t⟩, a1, c1, l⟩])) ++ cellsI (ys.drop j)), Bag.bag (rowsI (ys.take j ++ ⟨⟨kd, n, t⟩, a1, c1, l⟩ :: ys.drop j))] from Bag.bag_perm S16.out 2 rfl (rowsI_ins ys j ⟨⟨kd, n, t⟩, a1, c1, l⟩))
            clear S16
            have hlz : (ys.take j ++ ⟨⟨kd, n, t⟩, a1, c1, l⟩ :: ys.drop j).length = j + 1 + (m - j) := by rw [List.length_append, List.length_cons, List.length_take, List.length_drop]; have := HML.out; omega
            have hcz : cellsI (ys.take j ++ ⟨⟨kd, n, t⟩, a1, c1, l⟩ :: ys.drop j) = (cellsI (ys.take j) ++ (cellsI [⟨⟨kd, n, t⟩, a1, c1, l⟩])) ++ cellsI (ys.drop j) := by rw [cellsI_append, cellsI_cons]; simp [cellsI, LI.cells]
            have HCZ := Lib.hid hcz
            clear hcz
            have S18 := Lib.hid (show Sl.Sep w _ [L4.boxR w.heap.size 44 #[.string name, .slice (some ad) N c, .int .i64 auto], Sv.ownV 72 4 a4' c4' (j + 1 + (m - j)) (cellsI (ys.take j ++ ⟨⟨kd, n, t⟩, a1, c1, l⟩ :: ys.drop j)), Bag.bag (rowsI (ys.take j ++ ⟨⟨kd, n, t⟩, a1, c1, l⟩ :: ys.drop j))] from (by rw [HCZ.out]; exact S17.out))
            clear S17
            go_roundw
            case rel =>
              refine ⟨k + 1, j + 1 + (m - j), a4', c4', ys.take j ++ ⟨⟨kd, n, t⟩, a1, c1, l⟩ :: ys.drop j, by omega, by go_num, ?_, by omega, And.intro ⟨hlz.symm, ?_⟩ S18.out⟩
              · first | rfl | simp
              · rw [HT.out, conI_ins, HC.out.2]; unfold insX; rw [← HC.out.2, conI_length, ← HML.out, HBP.out]; rfl
            case measure => simp [intOf]; omega
    · skip
      have hh := Bag.cs3 S4.out 0 rfl
      have f0 := hh.1; have f1 := hh.2.1; have f2 := hh.2.2; clear hh
      go_wp2_with fail
      go_ret
      obtain rfl : k = N := by omega
      obtain ⟨hm, hc⟩ := HC.out
      rw [List.take_of_length_le (show (conI xs).length ≤ k by have := HN.out; simp; omega)] at hc
      subst hm
      have S90 := Lib.hid (Bag.bag_of_one S4.out 1 (r := rowI A C ys) rfl)
      have S91 := Lib.hid (Bag.bag_join S90.out 1 2 (by decide) rfl rfl)
      exact ⟨A, C, ys, rfl, hc, Bag.bag_from S91.out 1 rfl, S91.out.old⟩
end Go.Proofs.Ytboefioalkjdaaa.L7

/-
  The contracts of chapter 7's functions of the specification, III: CursorNext, WalkStore. Conditions: keys' texts of at most 2^40 bytes, at most 2^20 fields and items. (Written by my program gen_l7c.py.)
-/
namespace Go.Proofs.Ytboefioalkjdaaa.L7
set_option maxRecDepth 100000
open L4 (K isK cmpK R inR encU)
open L5 (F isR isN cellsF encR eqR Small getO getN getB)
open L6
open Go.ChangeShapes Go.WideShapes Go.ChangeAt Go.RowKit Mem Sl Ex L2 Sv Bag
set_option linter.unusedVariables false
set_option linter.unusedSimpArgs false

structure FitC (x : Cu) : Prop where
  lo : x.r.lo.text.size ≤ 281474976710656
  hi : x.r.hi.text.size ≤ 281474976710656
  at_ : x.k.text.size ≤ 281474976710656

end Go.Proofs.Ytboefioalkjdaaa.L7

/-
  The contracts of chapter 7's functions of the specification, IV: UniqueFault, WalkStore. Conditions: keys' texts of at most 2^40 bytes, at most 2^20 fields and items. (Written by my program gen_l7d.py.)
-/
namespace Go.Proofs.Ytboefioalkjdaaa.L7
set_option maxRecDepth 100000
open L4 (K isK cmpK R inR encU)
open L5 (F isR isN cellsF encR eqR Small getO getN getB)
open L6
open Go.ChangeShapes Go.WideShapes Go.ChangeAt Go.RowKit Mem Sl Ex L2 Sv Bag
set_option linter.unusedVariables false
set_option linter.unusedSimpArgs false

theorem adj_at {t : List UInt8} {l : List It} {j : Nat} {a b : It} (h1 : l[j]? = some a) (h2 : l[j + 1]? = some b) : adj7 t l j = (getN a.l t == getN b.l t) := by
  unfold adj7
  rw [h1, h2]
theorem keyAt_of {l : List It} {j : Nat} {a : It} (h : l[j]? = some a) : keyAt l j = a.k := by unfold keyAt; rw [h]
theorem uf_no {t : List UInt8} {l : List It} (h : ufO t l = none) : ufA t l = zK ∧ ufZ t l = zK ∧ ufB t l = false := by unfold ufA ufZ ufB; rw [h]; exact ⟨rfl, rfl, rfl⟩
theorem uf_yes {t : List UInt8} {l : List It} {j : Nat} {a b : It} (h : ufO t l = some j) (h1 : l[j]? = some a) (h2 : l[j + 1]? = some b) : ufA t l = a.k ∧ ufZ t l = b.k ∧ ufB t l = true := by
  unfold ufA ufZ ufB
  rw [h]
  exact ⟨keyAt_of h1, keyAt_of h2, rfl⟩
theorem FitC.to {x : Cu} (h : FitC x) (k : K) (hk : k.text.size ≤ 281474976710656) : FitC (x.to k) := ⟨h.lo, h.hi, hk⟩
set_option maxHeartbeats 8000000 in
theorem specUniqueFault_any (y : LS) (f : ByteArray) (hf : FitS y.con) (w : World) (hr : RowsRd w w.heap.size y.rows) :
    Calls Try.prog 22 #[y.v, .string f] w fun e w' => e = .returned (.tuple #[(ufA f.data.toList (idxI y.con.items f.data.toList)).v, (ufZ f.data.toList (idxI y.con.items f.data.toList)).v, .bool (ufB f.data.toList (idxI y.con.items f.data.toList))]) ∧ Below w.heap.size w w' := by
  have HIX := Lib.hid (fun w' (h : Below w.heap.size w w') => specIndexOn_any y f hf w' ((hr.below h).more h.size))
  have HFX := Lib.hid (fit_idx (t := f.data.toList) hf.items)
  have HLN := Lib.hid (Nat.le_trans (idxI_len y.con.items f.data.toList) hf.len)
  obtain ⟨L, hL⟩ : ∃ u, idxI y.con.items f.data.toList = u := ⟨_, rfl⟩
  rw [hL] at HIX HFX HLN ⊢
  clear hL
  obtain ⟨name, a, c, xs, auto⟩ := y
  dsimp only [LS.v, LS.cells] at HIX ⊢
  have S1 := Lib.hid (show Sl.Sep w (((w.alloc (.cells #[.string name, .slice a xs.length c, .int .i64 auto] 44)).alloc (.cells #[.int .i64 0, .int .i64 0, .string ⟨#[]⟩] 49)).alloc (.cells #[.int .i64 0, .int .i64 0, .string ⟨#[]⟩] 49)) [L4.boxR w.heap.size 44 #[.string name, .slice a xs.length c, .int .i64 auto], L4.boxR (w.heap.size + 1) 49 #[.int .i64 0, .int .i64 0, .string ⟨#[]⟩], L4.boxR (w.heap.size + 1 + 1) 49 #[.int .i64 0, .int .i64 0, .string ⟨#[]⟩]] from L4.push_box (L4.push_box (L4.push_box (Sl.Sep.start w) 44 #[.string name, .slice a xs.length c, .int .i64 auto] (w.heap.size) (by simp)) 49 #[.int .i64 0, .int .i64 0, .string ⟨#[]⟩] (w.heap.size + 1) (by simp)) 49 #[.int .i64 0, .int .i64 0, .string ⟨#[]⟩] (w.heap.size + 1 + 1) (by simp))
  obtain ⟨wa, hwa⟩ : ∃ u, u = (((w.alloc (.cells #[.string name, .slice a xs.length c, .int .i64 auto] 44)).alloc (.cells #[.int .i64 0, .int .i64 0, .string ⟨#[]⟩] 49)).alloc (.cells #[.int .i64 0, .int .i64 0, .string ⟨#[]⟩] 49)) := ⟨_, rfl⟩
  rw [← hwa] at S1
  go_enter Try.func22, Try.ntmps22
  go_upto_region 1 with fail
  rw [← hwa]
  clear hwa
  have hh := Bag.cs3 S1.out 0 rfl
  have f0 := hh.1; have f1 := hh.2.1; have f2 := hh.2.2; clear hh
  go_wp2_with fail
  go_at_call 45
  refine (HIX.out _ S1.out.old).mono ?_
  rintro e w1 ⟨la, lc, ys, rfl, hys, ho, hb⟩
  clear f0 f1 f2
  have S2 := Lib.hid (show Sl.Sep w _ [L4.boxR w.heap.size 44 #[.string name, .slice a xs.length c, .int .i64 auto], L4.boxR (w.heap.size + 1) 49 #[.int .i64 0, .int .i64 0, .string ⟨#[]⟩], L4.boxR (w.heap.size + 1 + 1) 49 #[.int .i64 0, .int .i64 0, .string ⟨#[]⟩], Bag.bag (rowI la lc ys :: rowsI ys)] from Bag.push_bag S1.out hb ho)
  clear S1
  clear hb ho
  have HY := Lib.hid hys
  clear hys
  obtain ⟨N, hN⟩ : ∃ N, N = ys.length := ⟨_, rfl⟩
  rw [← hN]
  have HN := Lib.hid hN
  have hNl : N ≤ 1048576 := by have h := HLN.out; rw [← HY.out, conI_length] at h; omega
  clear hN
  go_wp2_with fail
  go_loopw [8] (fun i wr => ∃ j : Nat, (j + 1 ≤ N ∨ j = 0) ∧ i = .int .i64 ((j + 1 : Nat) : Int) ∧ Hid ((∀ q, q < j → adj7 f.data.toList (conI ys) q = false) ∧ Sl.Sep w wr [L4.boxR w.heap.size 44 #[.string name, .slice a xs.length c, .int .i64 auto], L4.boxR (w.heap.size + 1) 49 #[.int .i64 0, .int .i64 0, .string ⟨#[]⟩], L4.boxR (w.heap.size + 1 + 1) 49 #[.int .i64 0, .int .i64 0, .string ⟨#[]⟩], Bag.bag (rowI la lc ys :: rowsI ys)])) (fun i _ => N - (intOf i).toNat)
  case atStart => exact ⟨0, .inr rfl, rfl, And.intro (fun q hq => absurd hq (by omega)) S2.out⟩
  case round =>
    obtain ⟨j, hj, rfl, hrel⟩ := hrel
    have HA := Lib.hid hrel.out.1
    have S3 := Lib.hid hrel.out.2
    clear hrel S2
    by_cases hlt : ((j + 1 : Nat) : Int) < (N : Int)
    · skip
      obtain ⟨ad, x1, e', hx1⟩ := readsI_some (LS.outer (s := ⟨⟨#[]⟩, la, lc, ys, 0⟩) (Bag.bag_rd S3.out 3 rfl)) j (by show j < ys.length; have := HN.out; omega)
      have e'' : la = some ad := e'
      subst e''
      clear e'
      obtain ⟨ad_, x2, e_, hx2⟩ := readsI_some (LS.outer (s := ⟨⟨#[]⟩, some ad, lc, ys, 0⟩) (Bag.bag_rd S3.out 3 rfl)) (j + 1) (by show j + 1 < ys.length; have := HN.out; omega)
      clear ad_ e_
      obtain ⟨⟨kd, n, t⟩, ia, ic, l⟩ := x1
      obtain ⟨⟨kd2, n2, t2⟩, ia2, ic2, l2⟩ := x2
      have HX1 := Lib.hid hx1
      have HX2 := Lib.hid hx2
      have HC1 := Lib.hid (show (conI ys)[j]? = some (⟨⟨kd, n, t⟩, l⟩ : It) from con_of hx1)
      have HC2 := Lib.hid (show (conI ys)[j + 1]? = some (⟨⟨kd2, n2, t2⟩, l2⟩ : It) from con_of hx2)
      clear hx1 hx2
      have HF1 := Lib.hid (show FitI ⟨⟨kd, n, t⟩, l⟩ from HFX.out _ (by rw [← HY.out]; exact List.mem_of_getElem? HC1.out))
      have HF2 := Lib.hid (show FitI ⟨⟨kd2, n2, t2⟩, l2⟩ from HFX.out _ (by rw [← HY.out]; exact List.mem_of_getElem? HC2.out))
      obtain ⟨na, hna⟩ : ∃ u, getN l f.data.toList = u := ⟨_, rfl⟩
      obtain ⟨nb, hnb⟩ : ∃ u, getN l2 f.data.toList = u := ⟨_, rfl⟩
      have HNA := Lib.hid hna
      have HNB := Lib.hid hnb
      have HAD := Lib.hid (show adj7 f.data.toList (conI ys) j = (na == nb) from by rw [adj_at HC1.out HC2.out]; dsimp only; rw [hna, hnb])
      clear hna hnb
      have hj1 : (0 : Int) ≤ (j : Int) + 1 := by omega
      have hsub : ((j + 1 : Nat) : Int) - 1 = (j : Int) := by omega
      have hjm : (j : Int) < (N : Int) := by omega
      have hwr : IntKind.i64.wrap (j : Int) = (j : Int) := IntWalk.i64_in _ ⟨by omega, by omega⟩
      have f0 : World.cell? _ (ad.add (j * 4)) = some (.int .i64 kd) := (readsI_at (LS.outer (s := ⟨⟨#[]⟩, some ad, lc, ys, 0⟩) (Bag.bag_rd S3.out 3 rfl)) j _ HX1.out).1
      have f1 : World.cell? _ (⟨(ad.add (j * 4)).block, (ad.add (j * 4)).off + 1, none⟩) = some (.int .i64 n) := (readsI_at (LS.outer (s := ⟨⟨#[]⟩, some ad, lc, ys, 0⟩) (Bag.bag_rd S3.out 3 rfl)) j _ HX1.out).2.1
      have f2 : World.cell? _ (⟨(ad.add (j * 4)).block, (ad.add (j * 4)).off + 2, none⟩) = some (.string t) := (readsI_at (LS.outer (s := ⟨⟨#[]⟩, some ad, lc, ys, 0⟩) (Bag.bag_rd S3.out 3 rfl)) j _ HX1.out).2.2.1
      have f3 : World.cell? _ (⟨(ad.add (j * 4)).block, (ad.add (j * 4)).off + 3, none⟩) = some (.slice ia l.length ic) := (readsI_at (LS.outer (s := ⟨⟨#[]⟩, some ad, lc, ys, 0⟩) (Bag.bag_rd S3.out 3 rfl)) j _ HX1.out).2.2.2
      have f4 : World.cell? _ (ad.add ((j + 1) * 4)) = some (.int .i64 kd2) := (readsI_at (LS.outer (s := ⟨⟨#[]⟩, some ad, lc, ys, 0⟩) (Bag.bag_rd S3.out 3 rfl)) (j + 1) _ HX2.out).1
      have f5 : World.cell? _ (⟨(ad.add ((j + 1) * 4)).block, (ad.add ((j + 1) * 4)).off + 1, none⟩) = some (.int .i64 n2) := (readsI_at (LS.outer (s := ⟨⟨#[]⟩, some ad, lc, ys, 0⟩) (Bag.bag_rd S3.out 3 rfl)) (j + 1) _ HX2.out).2.1
      have f6 : World.cell? _ (⟨(ad.add ((j + 1) * 4)).block, (ad.add ((j + 1) * 4)).off + 2, none⟩) = some (.string t2) := (readsI_at (LS.outer (s := ⟨⟨#[]⟩, some ad, lc, ys, 0⟩) (Bag.bag_rd S3.out 3 rfl)) (j + 1) _ HX2.out).2.2.1
      have f7 : World.cell? _ (⟨(ad.add ((j + 1) * 4)).block, (ad.add ((j + 1) * 4)).off + 3, none⟩) = some (.slice ia2 l2.length ic2) := (readsI_at (LS.outer (s := ⟨⟨#[]⟩, some ad, lc, ys, 0⟩) (Bag.bag_rd S3.out 3 rfl)) (j + 1) _ HX2.out).2.2.2
      have HC := L5.specGetField_any ia ic l f (by have : l.length ≤ 1048576 := HF1.out.len; omega) wr (((LS.inner (s := ⟨⟨#[]⟩, some ad, lc, ys, 0⟩) (Bag.bag_rd S3.out 3 rfl)).at_ (rowsI_mem HX1.out)).reads)
      rw [HNA.out] at HC
      go_wp2_with fail
      go_at_call 46
      refine HC.mono ?_
      clear HC
      rintro e w2 ⟨rfl, hb⟩
      clear f0 f1 f2 f3 f4 f5 f6 f7
      have S4 := Lib.hid (S3.out.keep hb)
      clear S3
      clear hb
      have f0 : World.cell? _ (ad.add (j * 4)) = some (.int .i64 kd) := (readsI_at (LS.outer (s := ⟨⟨#[]⟩, some ad, lc, ys, 0⟩) (Bag.bag_rd S4.out 3 rfl)) j _ HX1.out).1
      have f1 : World.cell? _ (⟨(ad.add (j * 4)).block, (ad.add (j * 4)).off + 1, none⟩) = some (.int .i64 n) := (readsI_at (LS.outer (s := ⟨⟨#[]⟩, some ad, lc, ys, 0⟩) (Bag.bag_rd S4.out 3 rfl)) j _ HX1.out).2.1
      have f2 : World.cell? _ (⟨(ad.add (j * 4)).block, (ad.add (j * 4)).off + 2, none⟩) = some (.string t) := (readsI_at (LS.outer (s := ⟨⟨#[]⟩, some ad, lc, ys, 0⟩) (Bag.bag_rd S4.out 3 rfl)) j _ HX1.out).2.2.1
      have f3 : World.cell? _ (⟨(ad.add (j * 4)).block, (ad.add (j * 4)).off + 3, none⟩) = some (.slice ia l.length ic) := (readsI_at (LS.outer (s := ⟨⟨#[]⟩, some ad, lc, ys, 0⟩) (Bag.bag_rd S4.out 3 rfl)) j _ HX1.out).2.2.2
      have f4 : World.cell? _ (ad.add ((j + 1) * 4)) = some (.int .i64 kd2) := (readsI_at (LS.outer (s := ⟨⟨#[]⟩, some ad, lc, ys, 0⟩) (Bag.bag_rd S4.out 3 rfl)) (j + 1) _ HX2.out).1
      have f5 : World.cell? _ (⟨(ad.add ((j + 1) * 4)).block, (ad.add ((j + 1) * 4)).off + 1, none⟩) = some (.int .i64 n2) := (readsI_at (LS.outer (s := ⟨⟨#[]⟩, some ad, lc, ys, 0⟩) (Bag.bag_rd S4.out 3 rfl)) (j + 1) _ HX2.out).2.1
      have f6 : World.cell? _ (⟨(ad.add ((j + 1) * 4)).block, (ad.add ((j + 1) * 4)).off + 2, none⟩) = some (.string t2) := (readsI_at (LS.outer (s := ⟨⟨#[]⟩, some ad, lc, ys, 0⟩) (Bag.bag_rd S4.out 3 rfl)) (j + 1) _ HX2.out).2.2.1
      have f7 : World.cell? _ (⟨(ad.add ((j + 1) * 4)).block, (ad.add ((j + 1) * 4)).off + 3, none⟩) = some (.slice ia2 l2.length ic2) := (readsI_at (LS.outer (s := ⟨⟨#[]⟩, some ad, lc, ys, 0⟩) (Bag.bag_rd S4.out 3 rfl)) (j + 1) _ HX2.out).2.2.2
      have HC := L5.specGetField_any ia2 ic2 l2 f (by have : l2.length ≤ 1048576 := HF2.out.len; omega) w2 (((LS.inner (s := ⟨⟨#[]⟩, some ad, lc, ys, 0⟩) (Bag.bag_rd S4.out 3 rfl)).at_ (rowsI_mem HX2.out)).reads)
      rw [HNB.out] at HC
      go_wp2_with fail
      go_at_call 46
      refine HC.mono ?_
      clear HC
      rintro e w3 ⟨rfl, hb⟩
      clear f0 f1 f2 f3 f4 f5 f6 f7
      have S5 := Lib.hid (S4.out.keep hb)
      clear S4
      clear hb
      by_cases he : na = nb
      · have he' : (na == nb) = true := by simp [he]
        go_upto_region 8 with fail
        refine wp_region_held_drew (S := (fun w' => World.cell? w' (ad.add (j * 4)) = some (.int .i64 kd) ∧ World.cell? w' (⟨(ad.add (j * 4)).block, (ad.add (j * 4)).off + 1, none⟩) = some (.int .i64 n) ∧ World.cell? w' (⟨(ad.add (j * 4)).block, (ad.add (j * 4)).off + 2, none⟩) = some (.string t) ∧ World.cell? w' (⟨(ad.add (j * 4)).block, (ad.add (j * 4)).off + 3, none⟩) = some (.slice ia l.length ic) ∧ World.cell? w' (ad.add ((j + 1) * 4)) = some (.int .i64 kd2) ∧ World.cell? w' (⟨(ad.add ((j + 1) * 4)).block, (ad.add ((j + 1) * 4)).off + 1, none⟩) = some (.int .i64 n2) ∧ World.cell? w' (⟨(ad.add ((j + 1) * 4)).block, (ad.add ((j + 1) * 4)).off + 2, none⟩) = some (.string t2) ∧ World.cell? w' (⟨(ad.add ((j + 1) * 4)).block, (ad.add ((j + 1) * 4)).off + 3, none⟩) = some (.slice ia2 l2.length ic2))) (by kernel_rfl) ⟨(readsI_at (LS.outer (s := ⟨⟨#[]⟩, some ad, lc, ys, 0⟩) (Bag.bag_rd (Bag.drew1 S5.out) 3 rfl)) j _ HX1.out).1, (readsI_at (LS.outer (s := ⟨⟨#[]⟩, some ad, lc, ys, 0⟩) (Bag.bag_rd (Bag.drew1 S5.out) 3 rfl)) j _ HX1.out).2.1, (readsI_at (LS.outer (s := ⟨⟨#[]⟩, some ad, lc, ys, 0⟩) (Bag.bag_rd (Bag.drew1 S5.out) 3 rfl)) j _ HX1.out).2.2.1, (readsI_at (LS.outer (s := ⟨⟨#[]⟩, some ad, lc, ys, 0⟩) (Bag.bag_rd (Bag.drew1 S5.out) 3 rfl)) j _ HX1.out).2.2.2, (readsI_at (LS.outer (s := ⟨⟨#[]⟩, some ad, lc, ys, 0⟩) (Bag.bag_rd (Bag.drew1 S5.out) 3 rfl)) (j + 1) _ HX2.out).1, (readsI_at (LS.outer (s := ⟨⟨#[]⟩, some ad, lc, ys, 0⟩) (Bag.bag_rd (Bag.drew1 S5.out) 3 rfl)) (j + 1) _ HX2.out).2.1, (readsI_at (LS.outer (s := ⟨⟨#[]⟩, some ad, lc, ys, 0⟩) (Bag.bag_rd (Bag.drew1 S5.out) 3 rfl)) (j + 1) _ HX2.out).2.2.1, (readsI_at (LS.outer (s := ⟨⟨#[]⟩, some ad, lc, ys, 0⟩) (Bag.bag_rd (Bag.drew1 S5.out) 3 rfl)) (j + 1) _ HX2.out).2.2.2⟩ (fun hS => ?_)
        have S6 := Lib.hid (show Sl.Sep w _ [L4.boxR w.heap.size 44 #[.string name, .slice a xs.length c, .int .i64 auto], L4.boxR (w.heap.size + 1) 49 #[.int .i64 0, .int .i64 0, .string ⟨#[]⟩], L4.boxR (w.heap.size + 1 + 1) 49 #[.int .i64 0, .int .i64 0, .string ⟨#[]⟩], Bag.bag (rowI (some ad) lc ys :: rowsI ys)] from Bag.drew1 S5.out)
        clear S5
        generalize World.drew _ = w4 at hS S6 ⊢
        refine tk 0 rfl ?_
        try simp only [zp0, zp1, zp2, zp3, zp4]
        refine tk 1 rfl ?_
        try simp only [zp0, zp1, zp2, zp3, zp4]
        refine tk 2 rfl ?_
        try simp only [zp0, zp1, zp2, zp3, zp4]
        refine tk 3 rfl ?_
        try simp only [zp0, zp1, zp2, zp3, zp4]
        refine tk 4 rfl ?_
        try simp only [zp0, zp1, zp2, zp3, zp4]
        refine tk 5 rfl ?_
        try simp only [zp0, zp1, zp2, zp3, zp4]
        refine tk 6 rfl ?_
        try simp only [zp0, zp1, zp2, zp3, zp4]
        refine tk 7 rfl ?_
        try simp only [zp0, zp1, zp2, zp3, zp4]
        refine tk 8 rfl ?_
        try simp only [zp0, zp1, zp2, zp3, zp4]
        refine tk 9 rfl ?_
        try simp only [zp0, zp1, zp2, zp3, zp4]
        refine tk 10 rfl ?_
        try simp only [zp0, zp1, zp2, zp3, zp4]
        refine Reg.one_op (i := 11) rfl (by kernel_rfl) (fun K hK => ?_)
        have hh := Bag.cs3 S6.out 1 rfl
        have f0 := hh.1; have f1 := hh.2.1; have f2 := hh.2.2; clear hh
        have hh := Bag.fs3 S6.out 1 rfl
        have z0 := hh.1; have z1 := hh.2.1; have z2 := hh.2.2; clear hh
        go_simp
        clear f0 f1 f2 z0 z1 z2
        have S7 := Lib.hid (show Sl.Sep w _ [L4.boxR w.heap.size 44 #[.string name, .slice a xs.length c, .int .i64 auto], L4.boxR (w.heap.size + 1) 49 #[.int .i64 kd, .int .i64 n, .string t], L4.boxR (w.heap.size + 1 + 1) 49 #[.int .i64 0, .int .i64 0, .string ⟨#[]⟩], Bag.bag (rowI (some ad) lc ys :: rowsI ys)] from L5.put_box5 (L5.put_box5 (L5.put_box5 (S6.out) 1 rfl 0 (.int .i64 kd)) 1 rfl 1 (.int .i64 n)) 1 rfl 2 (.string t))
        clear S6
        refine hK.out _ _ ⟨(readsI_at (LS.outer (s := ⟨⟨#[]⟩, some ad, lc, ys, 0⟩) (Bag.bag_rd S7.out 3 rfl)) j _ HX1.out).1, (readsI_at (LS.outer (s := ⟨⟨#[]⟩, some ad, lc, ys, 0⟩) (Bag.bag_rd S7.out 3 rfl)) j _ HX1.out).2.1, (readsI_at (LS.outer (s := ⟨⟨#[]⟩, some ad, lc, ys, 0⟩) (Bag.bag_rd S7.out 3 rfl)) j _ HX1.out).2.2.1, (readsI_at (LS.outer (s := ⟨⟨#[]⟩, some ad, lc, ys, 0⟩) (Bag.bag_rd S7.out 3 rfl)) j _ HX1.out).2.2.2, (readsI_at (LS.outer (s := ⟨⟨#[]⟩, some ad, lc, ys, 0⟩) (Bag.bag_rd S7.out 3 rfl)) (j + 1) _ HX2.out).1, (readsI_at (LS.outer (s := ⟨⟨#[]⟩, some ad, lc, ys, 0⟩) (Bag.bag_rd S7.out 3 rfl)) (j + 1) _ HX2.out).2.1, (readsI_at (LS.outer (s := ⟨⟨#[]⟩, some ad, lc, ys, 0⟩) (Bag.bag_rd S7.out 3 rfl)) (j + 1) _ HX2.out).2.2.1, (readsI_at (LS.outer (s := ⟨⟨#[]⟩, some ad, lc, ys, 0⟩) (Bag.bag_rd S7.out 3 rfl)) (j + 1) _ HX2.out).2.2.2⟩ (fun hS => ?_)
        clear hK K
        try simp only [zp0, zp1, zp2, zp3, zp4]
        refine Reg.one_op (i := 12) rfl (by kernel_rfl) (fun K hK => ?_)
        have hh := Bag.cs3 S7.out 2 rfl
        have f0 := hh.1; have f1 := hh.2.1; have f2 := hh.2.2; clear hh
        have hh := Bag.fs3 S7.out 2 rfl
        have z0 := hh.1; have z1 := hh.2.1; have z2 := hh.2.2; clear hh
        go_simp
        clear f0 f1 f2 z0 z1 z2
        have S8 := Lib.hid (show Sl.Sep w _ [L4.boxR w.heap.size 44 #[.string name, .slice a xs.length c, .int .i64 auto], L4.boxR (w.heap.size + 1) 49 #[.int .i64 kd, .int .i64 n, .string t], L4.boxR (w.heap.size + 1 + 1) 49 #[.int .i64 kd2, .int .i64 n2, .string t2], Bag.bag (rowI (some ad) lc ys :: rowsI ys)] from L5.put_box5 (L5.put_box5 (L5.put_box5 (S7.out) 2 rfl 0 (.int .i64 kd2)) 2 rfl 1 (.int .i64 n2)) 2 rfl 2 (.string t2))
        clear S7
        refine hK.out _ _ ⟨(readsI_at (LS.outer (s := ⟨⟨#[]⟩, some ad, lc, ys, 0⟩) (Bag.bag_rd S8.out 3 rfl)) j _ HX1.out).1, (readsI_at (LS.outer (s := ⟨⟨#[]⟩, some ad, lc, ys, 0⟩) (Bag.bag_rd S8.out 3 rfl)) j _ HX1.out).2.1, (readsI_at (LS.outer (s := ⟨⟨#[]⟩, some ad, lc, ys, 0⟩) (Bag.bag_rd S8.out 3 rfl)) j _ HX1.out).2.2.1, (readsI_at (LS.outer (s := ⟨⟨#[]⟩, some ad, lc, ys, 0⟩) (Bag.bag_rd S8.out 3 rfl)) j _ HX1.out).2.2.2, (readsI_at (LS.outer (s := ⟨⟨#[]⟩, some ad, lc, ys, 0⟩) (Bag.bag_rd S8.out 3 rfl)) (j + 1) _ HX2.out).1, (readsI_at (LS.outer (s := ⟨⟨#[]⟩, some ad, lc, ys, 0⟩) (Bag.bag_rd S8.out 3 rfl)) (j + 1) _ HX2.out).2.1, (readsI_at (LS.outer (s := ⟨⟨#[]⟩, some ad, lc, ys, 0⟩) (Bag.bag_rd S8.out 3 rfl)) (j + 1) _ HX2.out).2.2.1, (readsI_at (LS.outer (s := ⟨⟨#[]⟩, some ad, lc, ys, 0⟩) (Bag.bag_rd S8.out 3 rfl)) (j + 1) _ HX2.out).2.2.2⟩ (fun hS => ?_)
        clear hK K
        try simp only [zp0, zp1, zp2, zp3, zp4]
        refine tk 13 rfl ?_
        try simp only [zp0, zp1, zp2, zp3, zp4]
        refine wpAnyH_done (by kernel_rfl) ?_ _
        have hh := Bag.cs3 S8.out 0 rfl
        have f0 := hh.1; have f1 := hh.2.1; have f2 := hh.2.2; clear hh
        have hh := Bag.cs3 S8.out 1 rfl
        have f3 := hh.1; have f4 := hh.2.1; have f5 := hh.2.2; clear hh
        have hh := Bag.cs3 S8.out 2 rfl
        have f6 := hh.1; have f7 := hh.2.1; have f8 := hh.2.2; clear hh
        have f9 : World.cell? _ (ad.add (j * 4)) = some (.int .i64 kd) := (readsI_at (LS.outer (s := ⟨⟨#[]⟩, some ad, lc, ys, 0⟩) (Bag.bag_rd S8.out 3 rfl)) j _ HX1.out).1
        have f10 : World.cell? _ (⟨(ad.add (j * 4)).block, (ad.add (j * 4)).off + 1, none⟩) = some (.int .i64 n) := (readsI_at (LS.outer (s := ⟨⟨#[]⟩, some ad, lc, ys, 0⟩) (Bag.bag_rd S8.out 3 rfl)) j _ HX1.out).2.1
        have f11 : World.cell? _ (⟨(ad.add (j * 4)).block, (ad.add (j * 4)).off + 2, none⟩) = some (.string t) := (readsI_at (LS.outer (s := ⟨⟨#[]⟩, some ad, lc, ys, 0⟩) (Bag.bag_rd S8.out 3 rfl)) j _ HX1.out).2.2.1
        have f12 : World.cell? _ (⟨(ad.add (j * 4)).block, (ad.add (j * 4)).off + 3, none⟩) = some (.slice ia l.length ic) := (readsI_at (LS.outer (s := ⟨⟨#[]⟩, some ad, lc, ys, 0⟩) (Bag.bag_rd S8.out 3 rfl)) j _ HX1.out).2.2.2
        have f13 : World.cell? _ (ad.add ((j + 1) * 4)) = some (.int .i64 kd2) := (readsI_at (LS.outer (s := ⟨⟨#[]⟩, some ad, lc, ys, 0⟩) (Bag.bag_rd S8.out 3 rfl)) (j + 1) _ HX2.out).1
        have f14 : World.cell? _ (⟨(ad.add ((j + 1) * 4)).block, (ad.add ((j + 1) * 4)).off + 1, none⟩) = some (.int .i64 n2) := (readsI_at (LS.outer (s := ⟨⟨#[]⟩, some ad, lc, ys, 0⟩) (Bag.bag_rd S8.out 3 rfl)) (j + 1) _ HX2.out).2.1
        have f15 : World.cell? _ (⟨(ad.add ((j + 1) * 4)).block, (ad.add ((j + 1) * 4)).off + 2, none⟩) = some (.string t2) := (readsI_at (LS.outer (s := ⟨⟨#[]⟩, some ad, lc, ys, 0⟩) (Bag.bag_rd S8.out 3 rfl)) (j + 1) _ HX2.out).2.2.1
        have f16 : World.cell? _ (⟨(ad.add ((j + 1) * 4)).block, (ad.add ((j + 1) * 4)).off + 3, none⟩) = some (.slice ia2 l2.length ic2) := (readsI_at (LS.outer (s := ⟨⟨#[]⟩, some ad, lc, ys, 0⟩) (Bag.bag_rd S8.out 3 rfl)) (j + 1) _ HX2.out).2.2.2
        clear f0 f1 f2 f3 f4 f5 f6 f7 f8 f9 f10 f11 f12 f13 f14 f15 f16
        have hh := Bag.cs3 S8.out 1 rfl
        have f0 := hh.1; have f1 := hh.2.1; have f2 := hh.2.2; clear hh
        have hh := Bag.cs3 S8.out 2 rfl
        have f3 := hh.1; have f4 := hh.2.1; have f5 := hh.2.2; clear hh
        have f6 : World.cell? _ (ad.add (j * 4)) = some (.int .i64 kd) := (readsI_at (LS.outer (s := ⟨⟨#[]⟩, some ad, lc, ys, 0⟩) (Bag.bag_rd S8.out 3 rfl)) j _ HX1.out).1
        have f7 : World.cell? _ (⟨(ad.add (j * 4)).block, (ad.add (j * 4)).off + 1, none⟩) = some (.int .i64 n) := (readsI_at (LS.outer (s := ⟨⟨#[]⟩, some ad, lc, ys, 0⟩) (Bag.bag_rd S8.out 3 rfl)) j _ HX1.out).2.1
        have f8 : World.cell? _ (⟨(ad.add (j * 4)).block, (ad.add (j * 4)).off + 2, none⟩) = some (.string t) := (readsI_at (LS.outer (s := ⟨⟨#[]⟩, some ad, lc, ys, 0⟩) (Bag.bag_rd S8.out 3 rfl)) j _ HX1.out).2.2.1
        have f9 : World.cell? _ (⟨(ad.add (j * 4)).block, (ad.add (j * 4)).off + 3, none⟩) = some (.slice ia l.length ic) := (readsI_at (LS.outer (s := ⟨⟨#[]⟩, some ad, lc, ys, 0⟩) (Bag.bag_rd S8.out 3 rfl)) j _ HX1.out).2.2.2
        have f10 : World.cell? _ (ad.add ((j + 1) * 4)) = some (.int .i64 kd2) := (readsI_at (LS.outer (s := ⟨⟨#[]⟩, some ad, lc, ys, 0⟩) (Bag.bag_rd S8.out 3 rfl)) (j + 1) _ HX2.out).1
        have f11 : World.cell? _ (⟨(ad.add ((j + 1) * 4)).block, (ad.add ((j + 1) * 4)).off + 1, none⟩) = some (.int .i64 n2) := (readsI_at (LS.outer (s := ⟨⟨#[]⟩, some ad, lc, ys, 0⟩) (Bag.bag_rd S8.out 3 rfl)) (j + 1) _ HX2.out).2.1
        have f12 : World.cell? _ (⟨(ad.add ((j + 1) * 4)).block, (ad.add ((j + 1) * 4)).off + 2, none⟩) = some (.string t2) := (readsI_at (LS.outer (s := ⟨⟨#[]⟩, some ad, lc, ys, 0⟩) (Bag.bag_rd S8.out 3 rfl)) (j + 1) _ HX2.out).2.2.1
        have f13 : World.cell? _ (⟨(ad.add ((j + 1) * 4)).block, (ad.add ((j + 1) * 4)).off + 3, none⟩) = some (.slice ia2 l2.length ic2) := (readsI_at (LS.outer (s := ⟨⟨#[]⟩, some ad, lc, ys, 0⟩) (Bag.bag_rd S8.out 3 rfl)) (j + 1) _ HX2.out).2.2.2
        go_wp2_with fail
        refine bodyPost_ret (v := .tuple #[.agg #[.int .i64 kd, .int .i64 n, .string t], .agg #[.int .i64 kd2, .int .i64 n2, .string t2], .bool true]) (by simp [results, Try.results22, go_sem, *]) rfl ?_
        clear f0 f1 f2 f3 f4 f5 f6 f7 f8 f9 f10 f11 f12 f13
        obtain ⟨e1, e2, e3⟩ := uf_yes (ufO_some (t := f.data.toList) (l := conI ys) (i := j) (by rw [conI_length, ← HN.out]; omega) (by rw [HAD.out]; exact he') HA.out) HC1.out HC2.out
        exact ⟨by rw [← HY.out, e1, e2, e3]; rfl, S8.out.old⟩
      · have he' : (na == nb) = false := beq_no he
        go_wp2_with fail
        go_roundw
        case rel => exact ⟨j + 1, by omega, by go_num, And.intro (fun q hq => if e : q = j then by subst e; rw [HAD.out]; exact he' else HA.out q (by omega)) S5.out⟩
        case measure => simp [intOf]; omega
    · skip
      have hh := Bag.cs3 S3.out 1 rfl
      have f0 := hh.1; have f1 := hh.2.1; have f2 := hh.2.2; clear hh
      have hh := Bag.cs3 S3.out 2 rfl
      have f3 := hh.1; have f4 := hh.2.1; have f5 := hh.2.2; clear hh
      have hh := Bag.fs3 S3.out 1 rfl
      have z0 := hh.1; have z1 := hh.2.1; have z2 := hh.2.2; clear hh
      have y0 := Bag.free_at S3.out 2 rfl 0
      have y1 := Bag.free_at S3.out 2 rfl 1
      have y2 := Bag.free_at S3.out 2 rfl 2
      go_wp2_with fail
      clear f0 f1 f2 f3 f4 f5 z0 z1 z2 y0 y1 y2
      have S4 := Lib.hid (show Sl.Sep w _ [L4.boxR w.heap.size 44 #[.string name, .slice a xs.length c, .int .i64 auto], L4.boxR (w.heap.size + 1) 49 #[.int .i64 0, .int .i64 0, .string ⟨#[]⟩], L4.boxR (w.heap.size + 1 + 1) 49 #[.int .i64 0, .int .i64 0, .string ⟨#[]⟩], Bag.bag (rowI la lc ys :: rowsI ys)] from L5.put_box5 (L5.put_box5 (L5.put_box5 (S3.out) 1 rfl 0 (.int .i64 0)) 1 rfl 1 (.int .i64 0)) 1 rfl 2 (.string ⟨#[]⟩))
      clear S3
      have S5 := Lib.hid (show Sl.Sep w _ [L4.boxR w.heap.size 44 #[.string name, .slice a xs.length c, .int .i64 auto], L4.boxR (w.heap.size + 1) 49 #[.int .i64 0, .int .i64 0, .string ⟨#[]⟩], L4.boxR (w.heap.size + 1 + 1) 49 #[.int .i64 0, .int .i64 0, .string ⟨#[]⟩], Bag.bag (rowI la lc ys :: rowsI ys)] from L5.put_box5 (L5.put_box5 (L5.put_box5 (S4.out) 2 rfl 0 (.int .i64 0)) 2 rfl 1 (.int .i64 0)) 2 rfl 2 (.string ⟨#[]⟩))
      clear S4
      have hh := Bag.cs3 S5.out 1 rfl
      have f0 := hh.1; have f1 := hh.2.1; have f2 := hh.2.2; clear hh
      have hh := Bag.cs3 S5.out 2 rfl
      have f3 := hh.1; have f4 := hh.2.1; have f5 := hh.2.2; clear hh
      refine bodyPost_ret (v := .tuple #[.agg #[.int .i64 0, .int .i64 0, .string ⟨#[]⟩], .agg #[.int .i64 0, .int .i64 0, .string ⟨#[]⟩], .bool false]) (by simp [results, Try.results22, go_sem, *]) rfl ?_
      clear f0 f1 f2 f3 f4 f5
      obtain ⟨e1, e2, e3⟩ := uf_no (ufO_none (t := f.data.toList) (l := conI ys) (fun q hq => HA.out q (by rw [conI_length, ← HN.out] at hq; omega)))
      exact ⟨by rw [← HY.out, e1, e2, e3]; rfl, S5.out.old⟩
end Go.Proofs.Ytboefioalkjdaaa.L7

