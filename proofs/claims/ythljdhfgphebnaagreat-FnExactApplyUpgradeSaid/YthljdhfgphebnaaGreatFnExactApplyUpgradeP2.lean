/-
  What the law FnExactApplyUpgrade needs, laid by my program lawpack.py, part 2: the texts VItem, VStore, VIndexDef, VDatabase, VUpgrade, L8Num, L8Fw, RegL, L6Sa, one behind the other; each begins with its own words.
-/
import Derived.Test.YthljdhfgphebnaaGreatFnExactApplyUpgradeP1
set_option linter.unusedSimpArgs false
set_option linter.unusedVariables false
set_option maxRecDepth 100000
set_option linter.unusedSimpArgs false
namespace Go.Proofs.YthljdhfgphebnaaGreat.V
open Go.ChangeShapes Go.WideShapes Go.ChangeAt Go.RowKit Mem Sl Sv Bag
open L5 (markT)
def co_Item : L6.LI → L6.It := L6.LI.con
def coS_Item : List L6.LI → List L6.It := L6.conI
theorem coS_Item_eq (xs : List L6.LI) : coS_Item xs = xs.map co_Item := rfl
def cl_Item (z : L6.LI) : List Value := [.int .i64 z.k.kind, .int .i64 z.k.n, .string z.k.text, .slice z.a z.l.length z.c]
def vv_Item (z : L6.LI) : Value := .agg #[.int .i64 z.k.kind, .int .i64 z.k.n, .string z.k.text, .slice z.a z.l.length z.c]
def rw_Item (z : L6.LI) : List RowS := rw_Record (⟨z.a, z.c, z.l⟩ : LRecord)
def wt_Item (c : L6.It) : Nat := wt_Key c.k + (wt_Record c.l)
theorem wt_Item_parts (z : L6.LI) : wt_Item (co_Item z) = wt_Key (co_Key z.k) + (wt_Record (co_Record (⟨z.a, z.c, z.l⟩ : LRecord))) := rfl
theorem cl_Item_len (z : L6.LI) : (cl_Item z).length = 4 := rfl
def row_Item (a : Option Addr) (c : Nat) (xs : List L6.LI) : RowS := ⟨135, 4, a, c, xs.length, xs.flatMap cl_Item⟩
def rws_Item : List L6.LI → List RowS := L6.rowsI
theorem rws_Item_eq (xs : List L6.LI) : rws_Item xs = xs.flatMap rw_Item := by
 show xs.map L6.LI.row = _
 induction xs with
 | nil => rfl
 | cons x xs ih => rw [List.map_cons, ih]; rfl
def rs_Item (a : Option Addr) (c : Nat) (xs : List L6.LI) : List RowS := row_Item a c xs :: rws_Item xs
theorem rws_Item_app (xs ys : List L6.LI) : rws_Item (xs ++ ys) = rws_Item xs ++ rws_Item ys := by rw [rws_Item_eq, rws_Item_eq, rws_Item_eq, List.flatMap_append]
def Wide_Item (z : L6.LI) : Prop := Wide_Key z.k ∧ Wide_Record (⟨z.a, z.c, z.l⟩ : LRecord)
section
variable {H : Type} {enc : TypeId × Value → H} {W : World} {b : Nat} {sp : Nat → Bool} {hd : Bool}
theorem trod_Item {fuel : Nat} {cs : List Value} {x : DataW H × List MemPlace} (h : DataW.trod enc Tryz.prog W b sp hd fuel 182 cs = some x) (hlt : ∀ p ∈ x.2, p.block < W.heap.size) : ∃ z : L6.LI, cs = cl_Item z ∧ RowsRd W W.heap.size (rw_Item z) ∧ Wide_Item z := by
 obtain ⟨xs, n, _, hx, hl, hlen, hf⟩ := DataW.trod_struct Tryz.underlying182 h
 have hlN : cs.length = 4 := hl.trans (by kernel_rfl)
 match cs, hlN with
 | [c0, c1, c2, c3], _ =>
  have h0 : DataW.trod enc Tryz.prog W b sp hd n 177 (List.take (Tryz.prog.cellsOf 177) (List.drop 0 [c0, c1, c2, c3])) = xs[0]? := hf 0 _ rfl
  rw [show Tryz.prog.cellsOf 177 = 3 by kernel_rfl, List.getElem?_eq_getElem (by rw [hlen]; decide)] at h0
  obtain ⟨x0, e0, r0, w0⟩ := trod_Key h0 (fun p hp => hlt p (by rw [hx]; exact List.mem_flatMap.2 ⟨_, List.getElem_mem (show 0 < xs.length by rw [hlen]; decide), hp⟩))
  have h1 : DataW.trod enc Tryz.prog W b sp hd n 180 (List.take (Tryz.prog.cellsOf 180) (List.drop 3 [c0, c1, c2, c3])) = xs[1]? := hf 1 _ rfl
  rw [show Tryz.prog.cellsOf 180 = 1 by kernel_rfl, List.getElem?_eq_getElem (by rw [hlen]; decide)] at h1
  obtain ⟨x1, e1, r1, w1⟩ := trod_Record h1 (fun p hp => hlt p (by rw [hx]; exact List.mem_flatMap.2 ⟨_, List.getElem_mem (show 1 < xs.length by rw [hlen]; decide), hp⟩))
  simp only [List.drop_succ_cons, List.drop_zero, List.take_succ_cons, List.take_zero, cl_Key, List.cons.injEq, and_true] at e0
  obtain ⟨rfl, rfl, rfl⟩ := e0
  simp only [List.drop_succ_cons, List.drop_zero, List.take_succ_cons, List.take_zero, cl_Record, List.cons.injEq, and_true] at e1
  subst e1
  exact ⟨⟨x0, x1.a, x1.c, x1.l⟩, rfl, r1, ⟨w0, w1⟩⟩
theorem trods_Item {fuel : Nat} {cs : List Value} {x : DataW H × List MemPlace} (h : DataW.trod enc Tryz.prog W b sp hd fuel 102 cs = some x) (hlt : ∀ p ∈ x.2, p.block < W.heap.size) :
  ∃ (a : Option Addr) (xs : List L6.LI) (c : Nat), cs = [.slice a xs.length c] ∧ (Reads W W.heap.size a (xs.flatMap cl_Item) ∧ xs.length ≤ c ∧ (a = none → c = 0)) ∧ RowsRd W W.heap.size (xs.flatMap rw_Item) ∧ xs.length ≤ maxLen ∧ ∀ z ∈ xs, Wide_Item z :=
 trods cl_Item 4 cl_Item_len (by decide) rw_Item Wide_Item 102 182 Tryz.underlying102 (by kernel_rfl) (fun h hl => trod_Item h hl) h hlt
end
set_option maxHeartbeats 4000000 in
theorem to_Item (z : L6.LI) (hf : wt_Item (co_Item z) ≤ 1048576) (w : World) (hr : RowsRd w w.heap.size (rw_Item z)) : Calls Tryz.prog 136 #[vv_Item z] w fun e w' => ∃ y : L6.LI, e = .returned (vv_Item y) ∧ co_Item y = co_Item z ∧ BagOwn w' w.heap.size (rw_Item y) ∧ Below w.heap.size w w' := by
 have hfp := hf
 rw [wt_Item_parts] at hfp
 have HC0 := Lib.hid (fun w' => to_Key z.k w')
 dsimp only [vv_Key] at HC0
 have HC1 := Lib.hid (fun w' (h : Below w.heap.size w w') => to_Record (⟨z.a, z.c, z.l⟩ : LRecord) (by omega) w' (((hr).below h).more h.size))
 try dsimp only [vv_Record] at HC1
 clear hfp hf hr
 unfold vv_Item
 have S1 := Lib.hid (show Sl.Sep w _ [_, _] from L4.push_box (L4.push_box (Sl.Sep.start w) 182 #[.int .i64 z.k.kind, .int .i64 z.k.n, .string z.k.text, .slice z.a z.l.length z.c] (w.heap.size) (by simp)) 135 #[.int .i64 0, .int .i64 0, .string ⟨#[]⟩, .slice none 0 0] (w.heap.size + 1) (by simp))
 obtain ⟨wa, hwa⟩ : ∃ u, u = ((w.alloc (.cells #[.int .i64 z.k.kind, .int .i64 z.k.n, .string z.k.text, .slice z.a z.l.length z.c] 182)).alloc (.cells #[.int .i64 0, .int .i64 0, .string ⟨#[]⟩, .slice none 0 0] 135)) := ⟨_, rfl⟩
 rw [← hwa] at S1
 go_enter Tryz.func136, Tryz.ntmps136
 go_upto_region 1 with fail
 rw [← hwa]
 clear hwa
 go_upto_region 2 with fail
 have S2 := Lib.hid (show Sl.Sep w _ [_, _, _] from L4.push_box S1.out 135 #[.int .i64 0, .int .i64 0, .string ⟨#[]⟩, .slice none 0 0] wa.heap.size rfl)
 clear S1
 obtain ⟨g1, hg⟩ : ∃ g', g' = wa.heap.size := ⟨_, rfl⟩
 rw [← hg] at S2 ⊢
 clear hg
 generalize wa.alloc (.cells #[.int .i64 0, .int .i64 0, .string ⟨#[]⟩, .slice none 0 0] 135) = w1 at S2 ⊢
 obtain ⟨f0, f1, f2, f3⟩ := Bag.cs4 S2.out 0 rfl
 go_wp2_with fail
 go_at_call 163
 refine (HC0.out _).mono ?_
 rintro e w2 ⟨rfl, hb⟩
 clear f0 f1 f2 f3
 have S3 := Lib.hid (S2.out.keep hb)
 clear S2
 clear hb
 obtain ⟨f0, f1, f2, f3⟩ := Bag.cs4 S3.out 0 rfl
 obtain ⟨f4, f5, f6, f7⟩ := Bag.cs4 S3.out 2 rfl
 have z0 := Bag.free_at S3.out 2 rfl 0
 have z1 := Bag.free_at S3.out 2 rfl 1
 have z2 := Bag.free_at S3.out 2 rfl 2
 go_upto_region 3 with fail
 clear f0 f1 f2 f3 f4 f5 f6 f7 z0 z1 z2
 have S4 := Lib.hid (show Sl.Sep w _ [L4.boxR w.heap.size 182 #[.int .i64 z.k.kind, .int .i64 z.k.n, .string z.k.text, .slice z.a z.l.length z.c], L4.boxR (w.heap.size + 1) 135 #[.int .i64 0, .int .i64 0, .string ⟨#[]⟩, .slice none 0 0], L4.boxR g1 135 #[.int .i64 z.k.kind, .int .i64 z.k.n, .string z.k.text, .slice none 0 0]] from L5.put_box5 (L5.put_box5 (L5.put_box5 (S3.out) 2 rfl 0 (.int .i64 z.k.kind)) 2 rfl 1 (.int .i64 z.k.n)) 2 rfl 2 (.string z.k.text))
 clear S3
 obtain ⟨f0, f1, f2, f3⟩ := Bag.cs4 S4.out 0 rfl
 go_wp2_with fail
 go_at_call 164
 refine (HC1.out _ S4.out.old).mono ?_
 rintro e w3 ⟨y1, rfl, hc1, ho, hb⟩
 clear f0 f1 f2 f3
 have S5 := Lib.hid (show Sl.Sep w _ [_, _, _, Bag.bag (rw_Record y1)] from Bag.push_bag S4.out hb ho)
 clear S4
 clear hb ho
 have HQ1 := Lib.hid hc1
 clear hc1
 try dsimp only [vv_Record]
 obtain ⟨f0, f1, f2, f3⟩ := Bag.cs4 S5.out 0 rfl
 obtain ⟨f4, f5, f6, f7⟩ := Bag.cs4 S5.out 2 rfl
 have z3 := Bag.free_at S5.out 2 rfl 3
 go_upto_region 4 with fail
 clear f0 f1 f2 f3 f4 f5 f6 f7 z3
 have S6 := Lib.hid (show Sl.Sep w _ [_, _, L4.boxR g1 135 #[.int .i64 z.k.kind, .int .i64 z.k.n, .string z.k.text, .slice y1.a y1.l.length y1.c], _] from L5.put_box5 (S5.out) 2 rfl 3 (.slice y1.a y1.l.length y1.c))
 clear S5
 obtain ⟨f0, f1, f2, f3⟩ := Bag.cs4 S6.out 1 rfl
 obtain ⟨f4, f5, f6, f7⟩ := Bag.cs4 S6.out 2 rfl
 obtain ⟨z0, z1, z2, z3⟩ := Bag.fs4 S6.out 1 rfl
 go_wp2_with fail
 clear f0 f1 f2 f3 f4 f5 f6 f7 z0 z1 z2 z3
 have S7 := Lib.hid (show Sl.Sep w _ [_, L4.boxR (w.heap.size + 1) 135 #[.int .i64 z.k.kind, .int .i64 z.k.n, .string z.k.text, .slice y1.a y1.l.length y1.c], _, _] from L5.put_box5 (L5.put_box5 (L5.put_box5 (L5.put_box5 (S6.out) 1 rfl 0 (.int .i64 z.k.kind)) 1 rfl 1 (.int .i64 z.k.n)) 1 rfl 2 (.string z.k.text)) 1 rfl 3 (.slice y1.a y1.l.length y1.c))
 clear S6
 obtain ⟨f0, f1, f2, f3⟩ := Bag.cs4 S7.out 1 rfl
 refine bodyPost_ret (v := .agg #[.int .i64 z.k.kind, .int .i64 z.k.n, .string z.k.text, .slice y1.a y1.l.length y1.c]) (by simp [results, Tryz.results136, go_sem, *]) rfl ?_
 clear f0 f1 f2 f3
 refine ⟨⟨z.k, y1.a, y1.c, y1.l⟩, rfl, ?_, Bag.bag_from S7.out 3 rfl, S7.out.old⟩
 show (⟨z.k, y1.l⟩ : L6.It) = ⟨z.k, z.l⟩
 rw [show y1.l = z.l from HQ1.out]
theorem info_Item : ∃ i, Tryz.prog.info? 135 = some i ∧ i.zero = some (.agg #[.int .i64 0, .int .i64 0, .string ⟨#[]⟩, .slice none 0 0]) ∧ i.size = 4 ∧ i.bytes = 56 := Ex.infoOf _ _ _ _ (by kernel_rfl)
set_option maxHeartbeats 4000000 in
theorem to_ItemS (a : Option Addr) (c : Nat) (xs : List L6.LI) (hf : wsum wt_Item (coS_Item xs) ≤ 1048576) (w : World) (hr : Reads w w.heap.size a (xs.flatMap cl_Item)) (hx : RowsRd w w.heap.size (rws_Item xs)) :
  Calls Tryz.prog 99 #[.slice a xs.length c] w fun e w' => ∃ a' c' ys, e = .returned (.slice a' ys.length c') ∧ coS_Item ys = coS_Item xs ∧ BagOwn w' w.heap.size (rs_Item a' c' ys) ∧ Below w.heap.size w w' := by
 obtain ⟨i0, hi1, hi2, hi3, hi4⟩ := info_Item
 have HI := Lib.hid (And.intro hi1 (And.intro hi2 (And.intro hi3 hi4)))
 clear hi1 hi2 hi3 hi4
 rw [coS_Item_eq] at hf
 have HR := Lib.hid (fun w' (h : Below w.heap.size w w') => hr.below h)
 have HX := Lib.hid (fun w' (h : Below w.heap.size w w') => (hx.below h).more h.size)
 have HF := Lib.hid hf
 have hl : xs.length ≤ 1048576 := by have := wsum_len wt_Item (xs.map co_Item); rw [List.length_map] at this; omega
 obtain ⟨N, hN⟩ : ∃ n, n = xs.length := ⟨_, rfl⟩
 rw [← hN] at hl ⊢
 have hl' : (N : Int) ≤ 1048576 := by omega
 have HN := Lib.hid hN
 clear hN hr hx hf
 obtain ⟨Z, hZ⟩ : ∃ Z, Z = (madeCells (Value.agg #[.int .i64 0, .int .i64 0, .string ⟨#[]⟩, .slice none 0 0]).cells (N * 4)).toList := ⟨_, rfl⟩
 have HZ := Lib.hid (show Z.length = N * 4 by rw [hZ]; simp [madeCells])
 have HZD := Lib.hid hZ
 clear hZ
 have S1 := Lib.hid (show Sl.Sep w w [] from Sl.Sep.start w)
 go_enter Tryz.func99, Tryz.ntmps99
 go_upto_region 2 with (at_make; refine Run.wpList_make_s S1.out rfl _ _ 68 rfl 135 i0 (.agg #[.int .i64 0, .int .i64 0, .string ⟨#[]⟩, .slice none 0 0]) 4 Tryz.underlying68 HI.out.1 HI.out.2.1 HI.out.2.2.1 _ _ N rfl rfl (by rw [HI.out.2.2.2]; omega) (by unfold maxLen; omega) ?_; intro w1 S')
 obtain ⟨g1, hg⟩ : ∃ g', g' = w.heap.size := ⟨_, rfl⟩
 rw [← hg] at S' ⊢
 clear hg
 have S2 := Lib.hid (show Sl.Sep w _ [Sv.ownV 135 4 (some ⟨g1, 0, none⟩) N N (([] : List L6.LI).flatMap cl_Item ++ Z)] from (by have h := S'; rw [← HZD.out] at h; exact h))
 clear S1
 clear S'
 have S3 := Lib.hid (show Sl.Sep w _ [_, Bag.bag (rws_Item [])] from Bag.push_bag S2.out (Below.refl _ _) (by rw [rws_Item_eq]; exact Bag.BagOwn.nil _ _))
 clear S2
 go_wp2_with fail
 go_loopw [4] (fun i wr => ∃ (k : Nat) (ys : List L6.LI) (Zs : List Value), k ≤ N ∧ i = .int .i64 k ∧ Hid ((ys.map co_Item = (xs.take k).map co_Item ∧ ys.length = k ∧ Zs.length = (N - k) * 4) ∧ Sl.Sep w wr [Sv.ownV 135 4 (some ⟨g1, 0, none⟩) N N (ys.flatMap cl_Item ++ Zs), Bag.bag (rws_Item ys)])) (fun i _ => N - (intOf i).toNat)
 case atStart => exact ⟨0, [], Z, Nat.zero_le _, rfl, And.intro ⟨rfl, rfl, HZ.out⟩ S3.out⟩
 case round =>
  obtain ⟨k, ys, Zs, hk, rfl, hrel⟩ := hrel
  have HC := Lib.hid hrel.out.1
  have S4 := Lib.hid hrel.out.2
  clear hrel S3
  by_cases hlt : (k : Int) < (N : Int)
  ·
   skip
   have hkl : k < xs.length := by have := HN.out; omega
   obtain ⟨x, hx⟩ : ∃ x, xs[k]? = some x := ⟨_, List.getElem?_eq_getElem hkl⟩
   obtain ⟨ad, e'⟩ := el_some cl_Item_len (by decide) (HR.out _ S4.out.old) hkl
   subst e'
   have HK := Lib.hid (fun w' (h : Below w.heap.size w w') => el4 cl_Item_len (HR.out _ h) hx rfl)
   have HTX := Lib.hid (take_next hx)
   have HL := Lib.hid (show (ys.flatMap cl_Item).length = k * 4 ∧ k * 4 + 4 ≤ (ys.flatMap cl_Item ++ Zs).length ∧ 4 ≤ Zs.length from by have h1 := HC.out.2.1; have h2 := HC.out.2.2; rw [List.length_append, flat_len cl_Item_len, h1, h2]; omega)
   have HCI := Lib.hid (fun w' (h : Below w.heap.size w w') => to_Item x (by have h1 := wsum_mem (f := wt_Item) (List.mem_map.2 ⟨x, List.mem_of_getElem? hx, rfl⟩ : co_Item x ∈ xs.map co_Item); have h2 := HF.out; omega) w' (rd_el (rw_ := rw_Item) (by rw [← rws_Item_eq]; exact HX.out w' h) hx))
   dsimp only [vv_Item] at HCI
   clear hx
   obtain ⟨f0, f1, f2, f3⟩ := HK.out _ S4.out.old
   go_wp2_with fail
   go_at_call 136
   refine (HCI.out _ S4.out.old).mono ?_
   rintro e w2 ⟨y, rfl, hcy, ho, hb⟩
   clear f0 f1 f2 f3
   have S5 := Lib.hid (show Sl.Sep w _ [Sv.ownV 135 4 (some ⟨g1, 0, none⟩) N N (ys.flatMap cl_Item ++ Zs), Bag.bag (rws_Item ys), Bag.bag (rw_Item y)] from Bag.push_bag S4.out hb ho)
   clear S4
   clear hb ho
   have HCY := Lib.hid hcy
   clear hcy
   try dsimp only [vv_Item]
   have q0 := (Sv.own_at S5.out 0 rfl).cell (k * 4) (by have := HL.out.2.1; omega)
   have z0 := (Sv.own_at S5.out 0 rfl).free (k * 4)
   have q1 := (Sv.own_at S5.out 0 rfl).cell (k * 4 + 1) (by have := HL.out.2.1; omega)
   have z1 := (Sv.own_at S5.out 0 rfl).free (k * 4 + 1)
   have q2 := (Sv.own_at S5.out 0 rfl).cell (k * 4 + 2) (by have := HL.out.2.1; omega)
   have z2 := (Sv.own_at S5.out 0 rfl).free (k * 4 + 2)
   have q3 := (Sv.own_at S5.out 0 rfl).cell (k * 4 + 3) (by have := HL.out.2.1; omega)
   have z3 := (Sv.own_at S5.out 0 rfl).free (k * 4 + 3)
   go_wp2_with fail
   clear q0 z0 q1 z1 q2 z2 q3 z3
   have S6 := Lib.hid (show Sl.Sep w (World.setCells w2 g1 (k * 4) [.int .i64 y.k.kind, .int .i64 y.k.n, .string y.k.text, .slice y.a y.l.length y.c]) [Sv.ownV 135 4 (some ⟨g1, 0, none⟩) N N ((ys ++ [y]).flatMap cl_Item ++ Zs.drop 4), Bag.bag (rws_Item ys), Bag.bag (rw_Item y)] from (by have h := Run.put_run S5.out 0 rfl (k * 4) [.int .i64 y.k.kind, .int .i64 y.k.n, .string y.k.text, .slice y.a y.l.length y.c] (by have := HL.out.2.1; simpa using this); rw [Run.over_at _ _ _ _ HL.out.1 (by have := HL.out.2.2; simpa using this)] at h; rw [List.flatMap_append, List.append_assoc]; exact h))
   clear S5
   have S7 := Lib.hid (show Sl.Sep w _ [Sv.ownV 135 4 (some ⟨g1, 0, none⟩) N N ((ys ++ [y]).flatMap cl_Item ++ Zs.drop 4), Bag.bag (rws_Item ys ++ (rw_Item y)), Bag.bag ([])] from Bag.bag_join S6.out 1 2 (by decide) rfl rfl)
   clear S6
   have S8 := Lib.hid (show Sl.Sep w _ [_, _] from Bag.take S7.out [0, 1] (by rfl) (by decide))
   clear S7
   go_roundw
   case rel =>
    refine ⟨k + 1, ys ++ [y], Zs.drop 4, by omega, by go_num, And.intro ⟨?_, ?_, ?_⟩ ?_⟩
    ·
     rw [HTX.out, List.map_append, List.map_append, HC.out.1]; rw [show [y].map co_Item = [x].map co_Item from congrArg (fun u => [u]) HCY.out]
    ·
     rw [List.length_append, HC.out.2.1]; rfl
    ·
     rw [List.length_drop, HC.out.2.2]; omega
    ·
     rw [rws_Item_app]; rw [show rws_Item [y] = rw_Item y from by rw [rws_Item_eq]; simp]; exact S8.out
   case measure => simp [intOf]; omega
  ·
   skip
   obtain rfl : k = N := by omega
   go_wp2_with fail
   go_ret
   obtain ⟨hc1, hc2, hc3⟩ := HC.out
   have hZs : Zs = [] := List.eq_nil_of_length_eq_zero (by rw [hc3]; omega)
   have hcon : ys.map co_Item = xs.map co_Item := by rw [hc1, List.take_of_length_le (by have := HN.out; omega)]
   have S90 := Lib.hid (Bag.bag_of_one S4.out 0 (r := row_Item (some ⟨g1, 0, none⟩) k ys) (by unfold RowS.res row_Item; dsimp only; rw [hZs, List.append_nil, hc2]; rfl))
   have S91 := Lib.hid (Bag.bag_join S90.out 0 1 (by decide) rfl rfl)
   have hb := Bag.bag_from S91.out 0 rfl
   subst hc2
   exact ⟨_, _, ys, rfl, by rw [coS_Item_eq, coS_Item_eq]; exact hcon, hb, S91.out.old⟩
set_option maxHeartbeats 4000000 in
theorem sz_Item (z : L6.LI) (q : Int) (hw : Wide_Item z) (hq0 : -1 ≤ q) (hq1 : q ≤ 1048576) (w : World) (hr : RowsRd w w.heap.size (rw_Item z)) : Calls Tryz.prog 132 #[vv_Item z, .int .i64 q] w fun e w' => e = .returned (.int .i64 (lft q (wt_Item (co_Item z)))) ∧ Below w.heap.size w w' := by
 have HS0 := Lib.hid (fun (m : Int) (h0 : -1 ≤ m) (h1 : m ≤ 1048576) w' => sz_Key z.k m (hw.1) h0 h1 w')
 dsimp only [vv_Key] at HS0
 have HS1 := Lib.hid (fun (m : Int) (h0 : -1 ≤ m) (h1 : m ≤ 1048576) w' (h : Below w.heap.size w w') => sz_Record (⟨z.a, z.c, z.l⟩ : LRecord) m (hw.2) h0 h1 w' (((hr).below h).more h.size))
 try dsimp only [vv_Record] at HS1
 have HW := Lib.hid (wt_Item_parts z)
 clear hw hr
 unfold vv_Item
 have S1 := Lib.hid (show Sl.Sep w _ [_] from L4.push_box (Sl.Sep.start w) 182 #[.int .i64 z.k.kind, .int .i64 z.k.n, .string z.k.text, .slice z.a z.l.length z.c] (w.heap.size) (by simp))
 obtain ⟨wa, hwa⟩ : ∃ u, u = (w.alloc (.cells #[.int .i64 z.k.kind, .int .i64 z.k.n, .string z.k.text, .slice z.a z.l.length z.c] 182)) := ⟨_, rfl⟩
 rw [← hwa] at S1
 go_enter Tryz.func132, Tryz.ntmps132
 go_upto_region 1 with fail
 rw [← hwa]
 clear hwa
 obtain ⟨f0, f1, f2, f3⟩ := Bag.cs4 S1.out 0 rfl
 obtain ⟨u0, hu⟩ : ∃ u, lft q (wt_Key (co_Key z.k)) = u := ⟨_, rfl⟩
 have hc0 := lft_cases hu
 have hr0 := lft_range (q := q) (wt_Key (co_Key z.k)) (by omega)
 rw [hu] at hr0
 have HCU := HS0.out q (by omega) (by omega)
 simp only [hu] at HCU
 replace HCU := Lib.hid HCU
 clear hu
 go_wp2_with fail
 go_at_call 161
 refine (HCU.out _).mono ?_
 rintro e w1 ⟨rfl, hb⟩
 clear f0 f1 f2 f3
 have S2 := Lib.hid (S1.out.keep hb)
 clear S1
 clear hb
 obtain ⟨f0, f1, f2, f3⟩ := Bag.cs4 S2.out 0 rfl
 clear HCU
 by_cases hn0 : u0 < 0
 ·
  have hm1 : u0 = -1 := by omega
  subst hm1
  go_wp2_with fail
  go_ret
  exact ⟨by rw [HW.out, lft_neg (by omega)] <;> rfl, S2.out.old⟩
 ·
  skip
  obtain ⟨u1, hu⟩ : ∃ u, lft u0 (wt_Record (co_Record (⟨z.a, z.c, z.l⟩ : LRecord))) = u := ⟨_, rfl⟩
  have hc1 := lft_cases hu
  have hr1 := lft_range (q := u0) (wt_Record (co_Record (⟨z.a, z.c, z.l⟩ : LRecord))) (by omega)
  rw [hu] at hr1
  have HCU := HS1.out u0 (by omega) (by omega)
  simp only [hu] at HCU
  replace HCU := Lib.hid HCU
  clear hu
  go_wp2_with fail
  go_at_call 162
  refine (HCU.out _ S2.out.old).mono ?_
  rintro e w2 ⟨rfl, hb⟩
  clear f0 f1 f2 f3
  have S3 := Lib.hid (S2.out.keep hb)
  clear S2
  clear hb
  obtain ⟨f0, f1, f2, f3⟩ := Bag.cs4 S3.out 0 rfl
  clear HCU
  by_cases hn1 : u1 < 0
  ·
   have hm1 : u1 = -1 := by omega
   subst hm1
   go_wp2_with fail
   go_ret
   exact ⟨by rw [HW.out, lft_neg (by omega)] <;> rfl, S3.out.old⟩
  ·
   skip
   go_wp2_with fail
   go_ret
   exact ⟨by rw [HW.out, lft_pos (by omega)] <;> first | rfl | (refine congrArg (fun i => Ending.returned (.int .i64 i)) ?_; omega), S3.out.old⟩
set_option maxHeartbeats 4000000 in
theorem sz_ItemS (a : Option Addr) (c : Nat) (xs : List L6.LI) (q : Int) (hw : ∀ x ∈ xs, Wide_Item x) (hm : xs.length ≤ maxLen) (hq0 : -1 ≤ q) (hq1 : q ≤ 1048576) (w : World) (hr : Reads w w.heap.size a (xs.flatMap cl_Item)) (hx : RowsRd w w.heap.size (rws_Item xs)) :
  Calls Tryz.prog 93 #[.slice a xs.length c, .int .i64 q] w fun e w' => e = .returned (.int .i64 (lft q (wsum wt_Item (coS_Item xs)))) ∧ Below w.heap.size w w' := by
 have HR := Lib.hid (fun w' (h : Below w.heap.size w w') => hr.below h)
 have HX := Lib.hid (fun w' (h : Below w.heap.size w w') => (hx.below h).more h.size)
 have HWD := Lib.hid hw
 have HW := Lib.hid (show wsum wt_Item (coS_Item xs) = xs.length + fsum (fun x => wt_Item (co_Item x)) xs from by rw [coS_Item_eq, wsum_map])
 obtain ⟨N, hN⟩ : ∃ n, n = xs.length := ⟨_, rfl⟩
 rw [← hN] at hm HW ⊢
 have HN := Lib.hid hN
 have hm' : (N : Int) ≤ 9223372036854775807 := by unfold maxLen at hm; omega
 clear hN hr hx hw hm
 have S1 := Lib.hid (show Sl.Sep w w [] from Sl.Sep.start w)
 by_cases hneg : q - (N : Int) < 0
 ·
  skip
  go_enter Tryz.func93, Tryz.ntmps93
  go_wp2_with fail
  go_ret
  exact ⟨by rw [HW.out, lft_neg (by omega)] <;> rfl, Below.refl _ _⟩
 ·
  skip
  go_enter Tryz.func93, Tryz.ntmps93
  go_wp2_with fail
  go_loopw [1, 5] (fun lv i wr => ∃ (k : Nat) (m : Int), k ≤ N ∧ i = .int .i64 k ∧ lv = .int .i64 m ∧ 0 ≤ m ∧ m ≤ 1048576 ∧ Hid (m = q - N - (fsum (fun x => wt_Item (co_Item x)) (xs.take k) : Int) ∧ Sl.Sep w wr [])) (fun _ i _ => N - (intOf i).toNat)
  case atStart => exact ⟨0, q - N, Nat.zero_le _, rfl, rfl, by omega, by omega, And.intro (by rw [List.take_zero, fsum_nil]; omega) S1.out⟩
  case round =>
   obtain ⟨k, m, hk, rfl, rfl, hm0, hm1, hrel⟩ := hrel
   have HA := Lib.hid hrel.out.1
   have S2 := Lib.hid hrel.out.2
   clear hrel S1
   by_cases hlt : (k : Int) < (N : Int)
   ·
    skip
    have hkl : k < xs.length := by have := HN.out; omega
    obtain ⟨x, hx⟩ : ∃ x, xs[k]? = some x := ⟨_, List.getElem?_eq_getElem hkl⟩
    obtain ⟨ad, e'⟩ := el_some cl_Item_len (by decide) (HR.out _ S2.out.old) (List.getElem?_eq_some_iff.1 hx).1
    subst e'
    have HK := Lib.hid (fun w' (h : Below w.heap.size w w') => el4 cl_Item_len (HR.out _ h) hx rfl)
    have HAT := Lib.hid (fsum_at (f := (fun x => wt_Item (co_Item x))) hx)
    have HTK := Lib.hid (fsum_take (f := (fun x => wt_Item (co_Item x))) hx)
    try dsimp only at HAT HTK
    obtain ⟨fx, hfx⟩ : ∃ u, wt_Item (co_Item x) = u := ⟨_, rfl⟩
    rw [hfx] at HAT HTK
    obtain ⟨u, hu⟩ : ∃ u, lft m fx = u := ⟨_, rfl⟩
    have hcu := lft_cases hu
    have hru := lft_range (q := m) fx (by omega)
    rw [hu] at hru
    have HSI := fun w' (h : Below w.heap.size w w') => sz_Item x m (HWD.out x (List.mem_of_getElem? hx)) (by omega) hm1 w' (rd_el (rw_ := rw_Item) (by rw [← rws_Item_eq]; exact HX.out w' h) hx)
    rw [hfx, hu] at HSI
    dsimp only [vv_Item] at HSI
    replace HSI := Lib.hid HSI
    clear hfx hu hx
    obtain ⟨f0, f1, f2, f3⟩ := HK.out _ S2.out.old
    go_wp2_with fail
    go_at_call 132
    refine (HSI.out _ S2.out.old).mono ?_
    rintro e w1 ⟨rfl, hb⟩
    clear f0 f1 f2 f3
    have S3 := Lib.hid (S2.out.keep hb)
    clear S2
    clear hb
    by_cases h0 : u < 0
    ·
     have hm1' : u = -1 := by omega
     subst hm1'
     go_wp2_with fail
     go_ret
     exact ⟨by rw [HW.out, lft_neg (by have := HA.out; have := HAT.out; omega)] <;> rfl, S3.out.old⟩
    ·
     skip
     go_wp2_with fail
     go_roundw
     case rel => exact ⟨k + 1, u, by omega, by go_num, rfl, by omega, by omega, And.intro (by rw [HTK.out]; have := HA.out; omega) S3.out⟩
     case measure => simp [intOf]; omega
   ·
    skip
    obtain rfl : k = N := by omega
    have HT := HA.out
    rw [List.take_of_length_le (Nat.le_of_eq HN.out.symm)] at HT
    go_wp2_with fail
    go_ret
    exact ⟨by rw [HW.out, lft_pos (by omega)] <;> first | rfl | (refine congrArg (fun i => Ending.returned (.int .i64 i)) ?_; omega), S2.out.old⟩
set_option maxHeartbeats 4000000 in
theorem eq_Item (y z : L6.LI) (hc : co_Item y = co_Item z) (hf : wt_Item (co_Item y) ≤ 1125899906842624) (w : World) (hr : RowsRd w w.heap.size (rw_Item y)) (hr2 : RowsRd w w.heap.size (rw_Item z)) : Calls Tryz.prog 148 #[vv_Item y, vv_Item z] w fun e w' => e = .returned (.bool true) ∧ Below w.heap.size w w' := by
 have hfp := hf
 rw [wt_Item_parts] at hfp
 have ee0 : z.k = y.k := (show y.k = z.k from congrArg L6.It.k (hc)).symm
 have ee1 : z.l.length = y.l.length := (congrArg List.length (show y.l = z.l from congrArg L6.It.l (hc))).symm
 have HE0 := Lib.hid (fun w' => eq_Key y.k w')
 dsimp only [vv_Key] at HE0
 have HE1 := Lib.hid (fun w' (h : Below w.heap.size w w') => eq_Record (⟨y.a, y.c, y.l⟩ : LRecord) (⟨z.a, z.c, z.l⟩ : LRecord) (by have h := congrArg L6.It.l hc; exact h) (by omega) w' (((hr).below h).more h.size) (((hr2).below h).more h.size))
 try dsimp only [vv_Record] at HE1
 simp only [ee0, ee1] at HE1
 have hv : vv_Item z = .agg #[.int .i64 y.k.kind, .int .i64 y.k.n, .string y.k.text, .slice z.a y.l.length z.c] := by unfold vv_Item; simp only [ee0, ee1]
 rw [hv]
 clear hv hfp hf hc hr hr2 ee0 ee1
 unfold vv_Item
 have S1 := Lib.hid (show Sl.Sep w _ [_, _] from L4.push_box (L4.push_box (Sl.Sep.start w) 135 #[.int .i64 y.k.kind, .int .i64 y.k.n, .string y.k.text, .slice y.a y.l.length y.c] (w.heap.size) (by simp)) 135 #[.int .i64 y.k.kind, .int .i64 y.k.n, .string y.k.text, .slice z.a y.l.length z.c] (w.heap.size + 1) (by simp))
 obtain ⟨wa, hwa⟩ : ∃ u, u = ((w.alloc (.cells #[.int .i64 y.k.kind, .int .i64 y.k.n, .string y.k.text, .slice y.a y.l.length y.c] 135)).alloc (.cells #[.int .i64 y.k.kind, .int .i64 y.k.n, .string y.k.text, .slice z.a y.l.length z.c] 135)) := ⟨_, rfl⟩
 rw [← hwa] at S1
 go_enter Tryz.func148, Tryz.ntmps148
 go_upto_region 1 with fail
 rw [← hwa]
 clear hwa
 obtain ⟨f0, f1, f2, f3⟩ := Bag.cs4 S1.out 0 rfl
 obtain ⟨f4, f5, f6, f7⟩ := Bag.cs4 S1.out 1 rfl
 go_wp2_with fail
 go_at_call 174
 refine (HE0.out _).mono ?_
 rintro e w1 ⟨rfl, hb⟩
 clear f0 f1 f2 f3 f4 f5 f6 f7
 have S2 := Lib.hid (S1.out.keep hb)
 clear S1
 clear hb
 obtain ⟨f0, f1, f2, f3⟩ := Bag.cs4 S2.out 0 rfl
 obtain ⟨f4, f5, f6, f7⟩ := Bag.cs4 S2.out 1 rfl
 go_wp2_with fail
 go_at_call 175
 refine (HE1.out _ S2.out.old).mono ?_
 rintro e w2 ⟨rfl, hb⟩
 clear f0 f1 f2 f3 f4 f5 f6 f7
 have S3 := Lib.hid (S2.out.keep hb)
 clear S2
 clear hb
 obtain ⟨f0, f1, f2, f3⟩ := Bag.cs4 S3.out 0 rfl
 obtain ⟨f4, f5, f6, f7⟩ := Bag.cs4 S3.out 1 rfl
 go_wp2_with fail
 go_ret
 exact ⟨rfl, S3.out.old⟩
set_option maxHeartbeats 4000000 in
theorem eq_ItemS (a a2 : Option Addr) (c c2 : Nat) (xs xs2 : List L6.LI) (hc : coS_Item xs = coS_Item xs2) (hf : wsum wt_Item (coS_Item xs) ≤ 1125899906842624) (w : World) (hr : Reads w w.heap.size a (xs.flatMap cl_Item)) (hx : RowsRd w w.heap.size (rws_Item xs)) (hr2 : Reads w w.heap.size a2 (xs2.flatMap cl_Item)) (hx2 : RowsRd w w.heap.size (rws_Item xs2)) :
  Calls Tryz.prog 116 #[.slice a xs.length c, .slice a2 xs2.length c2] w fun e w' => e = .returned (.bool true) ∧ Below w.heap.size w w' := by
 have hlen : xs2.length = xs.length := by have h := congrArg List.length hc; rw [coS_Item_eq, coS_Item_eq, List.length_map, List.length_map] at h; exact h.symm
 have hl : xs.length ≤ 1125899906842624 := by have := wsum_len wt_Item (coS_Item xs); rw [coS_Item_eq, List.length_map] at this; rw [coS_Item_eq] at hf; omega
 have HR := Lib.hid (fun w' (h : Below w.heap.size w w') => hr.below h)
 have HR2 := Lib.hid (fun w' (h : Below w.heap.size w w') => hr2.below h)
 have HX := Lib.hid (fun w' (h : Below w.heap.size w w') => (hx.below h).more h.size)
 have HX2 := Lib.hid (fun w' (h : Below w.heap.size w w') => (hx2.below h).more h.size)
 rw [coS_Item_eq] at hf
 have HF := Lib.hid hf
 have HS := Lib.hid (show xs.map co_Item = xs2.map co_Item from by rw [← coS_Item_eq, ← coS_Item_eq]; exact hc)
 obtain ⟨N, hN⟩ : ∃ n, n = xs.length := ⟨_, rfl⟩
 rw [hlen, ← hN]
 rw [← hN] at hl
 have hl' : (N : Int) ≤ 1125899906842624 := by omega
 have HN := Lib.hid hN
 clear hN hr hr2 hx hx2 hf hc hlen
 have S1 := Lib.hid (show Sl.Sep w w [] from Sl.Sep.start w)
 go_enter Tryz.func116, Tryz.ntmps116
 go_wp2_with fail
 go_loopw [5] (fun i wr => ∃ k : Nat, k ≤ N ∧ i = .int .i64 k ∧ Hid (Sl.Sep w wr [])) (fun i _ => N - (intOf i).toNat)
 case atStart => exact ⟨0, Nat.zero_le _, rfl, S1.out⟩
 case round =>
  obtain ⟨k, hk, rfl, hrel⟩ := hrel
  have S2 := Lib.hid hrel.out
  clear hrel S1
  by_cases hlt : (k : Int) < (N : Int)
  ·
   skip
   have hkl : k < xs.length := by have := HN.out; omega
   obtain ⟨x, hx⟩ : ∃ x, xs[k]? = some x := ⟨_, List.getElem?_eq_getElem hkl⟩
   obtain ⟨ad, e'⟩ := el_some cl_Item_len (by decide) (HR.out _ S2.out.old) (List.getElem?_eq_some_iff.1 hx).1
   subst e'
   have HK := Lib.hid (fun w' (h : Below w.heap.size w w') => el4 cl_Item_len (HR.out _ h) hx rfl)
   obtain ⟨x2, hx2, hcx⟩ := map_same HS.out hx
   obtain ⟨ad2, e'⟩ := el_some cl_Item_len (by decide) (HR2.out _ S2.out.old) (List.getElem?_eq_some_iff.1 hx2).1
   subst e'
   have HK2 := Lib.hid (fun w' (h : Below w.heap.size w w') => el4 cl_Item_len (HR2.out _ h) hx2 rfl)
   have ee0 : x2.k = x.k := (show x.k = x2.k from congrArg L6.It.k (hcx.symm)).symm
   have ee1 : x2.l.length = x.l.length := (congrArg List.length (show x.l = x2.l from congrArg L6.It.l (hcx.symm))).symm
   have HEQ := fun w' (h : Below w.heap.size w w') => eq_Item x x2 hcx.symm (by have h1 := wsum_mem (f := wt_Item) (List.mem_map.2 ⟨x, List.mem_of_getElem? hx, rfl⟩ : co_Item x ∈ xs.map co_Item); have h2 := HF.out; omega) w' (rd_el (rw_ := rw_Item) (by rw [← rws_Item_eq]; exact HX.out w' h) hx) (rd_el (rw_ := rw_Item) (by rw [← rws_Item_eq]; exact HX2.out w' h) hx2)
   dsimp only [vv_Item] at HEQ
   try dsimp only [cl_Item] at HK2
   simp only [ee0, ee1] at HEQ HK2
   replace HEQ := Lib.hid HEQ
   clear hcx ee0 ee1
   try dsimp only [vv_Item] at HEQ
   clear hx hx2
   go_upto_region 6 with fail
   refine wp_region_held_drew (S := (fun w' => (w'.cell? (ad.add (k * 4)) = some (.int .i64 x.k.kind) ∧ w'.cell? (⟨(ad.add (k * 4)).block, (ad.add (k * 4)).off + 1, none⟩) = some (.int .i64 x.k.n) ∧ w'.cell? (⟨(ad.add (k * 4)).block, (ad.add (k * 4)).off + 2, none⟩) = some (.string x.k.text) ∧ w'.cell? (⟨(ad.add (k * 4)).block, (ad.add (k * 4)).off + 3, none⟩) = some (.slice x.a x.l.length x.c)) ∧ (w'.cell? (ad2.add (k * 4)) = some (.int .i64 x.k.kind) ∧ w'.cell? (⟨(ad2.add (k * 4)).block, (ad2.add (k * 4)).off + 1, none⟩) = some (.int .i64 x.k.n) ∧ w'.cell? (⟨(ad2.add (k * 4)).block, (ad2.add (k * 4)).off + 2, none⟩) = some (.string x.k.text) ∧ w'.cell? (⟨(ad2.add (k * 4)).block, (ad2.add (k * 4)).off + 3, none⟩) = some (.slice x2.a x.l.length x2.c)))) (by kernel_rfl) ⟨HK.out _ (Bag.drew1 S2.out).old, HK2.out _ (Bag.drew1 S2.out).old⟩ (fun hS => ?_)
   have S3 := Lib.hid (Bag.drew1 S2.out)
   clear S2
   generalize World.drew _ = w1 at hS S3 ⊢
   refine tk 0 rfl ?_
   try simp only [zp0, zp1, zp2, zp3, zp4]
   refine tk 1 rfl ?_
   try simp only [zp0, zp1, zp2, zp3, zp4]
   refine tk 2 rfl ?_
   try simp only [zp0, zp1, zp2, zp3, zp4]
   refine tk 3 rfl ?_
   try simp only [zp0, zp1, zp2, zp3, zp4]
   refine tk 4 rfl ?_
   try simp only [zp0, zp1, zp2, zp3, zp4]
   refine tk 5 rfl ?_
   try simp only [zp0, zp1, zp2, zp3, zp4]
   refine tk 6 rfl ?_
   try simp only [zp0, zp1, zp2, zp3, zp4]
   refine tk 7 rfl ?_
   try simp only [zp0, zp1, zp2, zp3, zp4]
   refine Reg.one_op (i := 8) rfl (by kernel_rfl) (fun K hK => ?_)
   go_simp
   go_at_call 148
   refine (HEQ.out _ S3.out.old).mono ?_
   rintro e w2 ⟨rfl, hb⟩
   have S4 := Lib.hid (S3.out.keep hb)
   clear S3
   clear hb
   go_wp2_with fail
   refine hK.out _ _ ⟨HK.out _ S4.out.old, HK2.out _ S4.out.old⟩ (fun hS => ?_)
   clear hK K
   try simp only [zp0, zp1, zp2, zp3, zp4]
   refine tk 9 rfl ?_
   try simp only [zp0, zp1, zp2, zp3, zp4]
   refine wpAnyH_done (by kernel_rfl) ?_ _
   obtain ⟨f0, f1, f2, f3⟩ := HK.out _ S4.out.old
   obtain ⟨f4, f5, f6, f7⟩ := HK2.out _ S4.out.old
   go_wp2_with fail
   go_roundw
   case rel => exact ⟨k + 1, by omega, by go_num, S4.out⟩
   case measure => simp [intOf]; omega
  ·
   skip
   go_wp2_with fail
   go_ret
   exact ⟨rfl, S2.out.old⟩
def em_Item (k : Int) (z : L6.LI) : L6.LI := ⟨(⟨k, (k + 1), markT ((k + 1) + 1)⟩ : L4.K), z.a, z.c, (mks em_Field cnt_Field (((k + 1) + 1) + 1) z.l)⟩
def cnt_Item (z : L6.LI) : Nat := 1 + (1 + (1 + (fsum cnt_Field z.l)))
theorem cntS_Item (z : L6.LI) : cnt_Item z ≤ 64 * (wt_Item (co_Item z) + 1) := by
 have h3 := cnt_sum cntS_Field z.l
 have hw : wt_Item (co_Item z) = z.k.text.size + (wsum wt_Field (coS_Field z.l)) := by rfl
 rw [← coS_Field_eq] at h3
 unfold cnt_Item
 omega
theorem em_Item_fp (k : Int) (z : L6.LI) : (rw_Item (em_Item k z)).flatMap RowS.fp = (rw_Item z).flatMap RowS.fp := by
 show ((rs_Field z.a z.c (mks em_Field cnt_Field (((k + 1) + 1) + 1) z.l))).flatMap RowS.fp = ((rs_Field z.a z.c z.l)).flatMap RowS.fp
 simp only [List.flatMap_append, rs_Field_fp]
theorem rs_Item_fp (a : Option Addr) (c : Nat) (xs : List L6.LI) (k : Int) : (rs_Item a c (mks em_Item cnt_Item k xs)).flatMap RowS.fp = (rs_Item a c xs).flatMap RowS.fp := by
 unfold rs_Item
 rw [List.flatMap_cons, List.flatMap_cons, rws_Item_eq, rws_Item_eq, mks_fp em_Item_fp]
 congr 1
 unfold row_Item RowS.fp
 cases a <;> rfl
set_option maxHeartbeats 8000000 in
theorem mark_ItemS_sep (a : Option Addr) (c : Nat) (xs : List L6.LI) (k : Int) (W w : World) (S : Sl.Sep W w [bag (rs_Item a c xs), Run.restL W w (bag (rs_Item a c xs)).fp]) (hf : wsum wt_Item (coS_Item xs) ≤ 1125899906842624) (hk0 : 0 < k) (hk1 : k + (fsum cnt_Item xs : Int) ≤ 2305843009213693952) :
  Calls Tryz.prog 78 #[.slice a xs.length c, .int .i64 k] w fun e w' => e = .returned (.int .i64 (k + (fsum cnt_Item xs : Int))) ∧ Sl.Sep W w' [bag (rs_Item a c (mks em_Item cnt_Item k xs)), Run.restL W w (bag (rs_Item a c xs)).fp] := by
 have HF := Lib.hid hf
 have hl : xs.length ≤ 1125899906842624 := by have := wsum_len wt_Item (coS_Item xs); rw [coS_Item_eq, List.length_map] at this; rw [coS_Item_eq] at hf; omega
 clear hf
 obtain ⟨fps, hfps⟩ : ∃ f, f = (bag (rs_Item a c xs)).fp := ⟨_, rfl⟩
 rw [← hfps] at S ⊢
 clear hfps
 rcases (S.is 0 _ rfl).own (row_Item a c xs) (List.mem_cons_self ..) |>.form with ⟨ha, hn0, -, hc0⟩ | ⟨g, hg, -, -, hnc, -⟩
 ·
  have ha' : a = none := ha
  have hc' : c = 0 := hc0
  have hx : xs = [] := List.eq_nil_of_length_eq_zero hn0
  subst hx
  have H := Lib.hid S
  clear S HF hk1
  go_enter Tryz.func78, Tryz.ntmps78
  go_wp2_with fail
  refine wp_loop_rounds 1 ?_
  rw [rounds_succ]
  go_wp2_with fail
  go_ret
  exact ⟨by rw [fsum_nil]; first | rfl | (refine congrArg (fun i => Ending.returned (.int .i64 i)) ?_; omega), H.out⟩
 have hg' : a = some ⟨g, 0, none⟩ := hg
 subst hg'
 obtain ⟨N, hN⟩ : ∃ n, n = xs.length := ⟨_, rfl⟩
 rw [← hN] at hl ⊢
 have hl' : (N : Int) ≤ 1125899906842624 := by omega
 have HN := Lib.hid hN
 have HK1 := Lib.hid hk1
 have hk2 : k ≤ 2305843009213693952 := by omega
 have S1 := Lib.hid S
 clear hg hN S hnc hk1
 have S2 := Lib.hid (show Sl.Sep W _ [Bag.bag ([row_Item (some ⟨g, 0, none⟩) c xs] ++ rws_Item xs), Run.restL W w fps] from S1.out)
 clear S1
 have S3 := Lib.hid (show Sl.Sep W _ [Bag.bag ([row_Item (some ⟨g, 0, none⟩) c xs]), _, Bag.bag (rws_Item xs)] from Bag.bag_split S2.out 0 rfl)
 clear S2
 have S4 := Lib.hid (show Sl.Sep W _ [Sv.ownV 135 4 (some ⟨g, 0, none⟩) c N ((mks em_Item cnt_Item k [] ++ xs.drop 0).flatMap cl_Item), _, _] from (by have h := Bag.one_of_bag S3.out 0 (r := row_Item (some ⟨g, 0, none⟩) c xs) rfl; unfold RowS.res row_Item at h; dsimp only at h; rw [← HN.out] at h; exact h))
 clear S3
 have S5 := Lib.hid (show Sl.Sep W _ [Sv.ownV 135 4 (some ⟨g, 0, none⟩) c N ((mks em_Item cnt_Item k [] ++ xs.drop 0).flatMap cl_Item), Bag.bag (rws_Item (mks em_Item cnt_Item k []) ++ rws_Item (xs.drop 0)), Run.restL W w fps] from Bag.take (by have h := S4.out; rw [show rws_Item xs = rws_Item (mks em_Item cnt_Item k []) ++ rws_Item (xs.drop 0) from by rw [← rws_Item_app]; rfl] at h; exact h) [0, 2, 1] (by rfl) (by decide))
 clear S4
 go_enter Tryz.func78, Tryz.ntmps78
 go_wp2_with fail
 go_loopw [1, 5] (fun v i wr => ∃ (j : Nat) (m : Int), j ≤ N ∧ i = .int .i64 j ∧ v = .int .i64 m ∧ k ≤ m ∧ m ≤ 2305843009213693952 ∧ Hid (m = k + (fsum cnt_Item (xs.take j) : Int) ∧ Sl.Sep W wr [Sv.ownV 135 4 (some ⟨g, 0, none⟩) c N (((mks em_Item cnt_Item k (xs.take j)) ++ xs.drop j).flatMap cl_Item), Bag.bag (rws_Item (mks em_Item cnt_Item k (xs.take j)) ++ rws_Item (xs.drop j)), Run.restL W w fps])) (fun _ i _ => N - (intOf i).toNat)
 case atStart => exact ⟨0, k, Nat.zero_le _, rfl, rfl, by omega, by omega, And.intro (by rw [List.take_zero, fsum_nil]; omega) S5.out⟩
 case round =>
  obtain ⟨j, m, hj, rfl, rfl, hm0, hm1, hrel⟩ := hrel
  have HM := Lib.hid hrel.out.1
  have S6 := Lib.hid hrel.out.2
  clear hrel S5
  by_cases hlt : (j : Int) < (N : Int)
  ·
   skip
   have hjl : j < xs.length := by have := HN.out; omega
   obtain ⟨x, hx⟩ : ∃ x, xs[j]? = some x := ⟨_, List.getElem?_eq_getElem hjl⟩
   have HFT := Lib.hid (fsum_take (f := cnt_Item) hx)
   have hfa := fsum_at (f := cnt_Item) hx
   have hcx : cnt_Item x = 1 + (1 + (1 + (fsum cnt_Field x.l))) := rfl
   have HMN := Lib.hid (show (mks em_Item cnt_Item k (xs.take (j + 1))) = (mks em_Item cnt_Item k (xs.take j)) ++ [em_Item m x] from by rw [mks_next em_Item cnt_Item k hx, ← HM.out])
   have HDR := Lib.hid (drop_next hx)
   have hwm : wt_Item (co_Item x) + 1 ≤ 1125899906842624 := by have h1 := wsum_mem (f := wt_Item) (List.mem_map.2 ⟨x, List.mem_of_getElem? hx, rfl⟩ : co_Item x ∈ xs.map co_Item); have h2 := HF.out; rw [coS_Item_eq] at h2; omega
   have HFW3 := Lib.hid (show wsum wt_Field (coS_Field x.l) ≤ 1125899906842624 from by have h2 : wt_Item (co_Item x) = x.k.text.size + (wsum wt_Field (coS_Field x.l)) := rfl; omega)
   clear hwm hx
   obtain ⟨s3, hs3⟩ : ∃ u, u = fsum cnt_Field x.l := ⟨_, rfl⟩
   rw [← hs3] at hcx
   have hmc : m + (cnt_Item x : Int) ≤ 2305843009213693952 := by have := HM.out; have := HK1.out; omega
   have HCX := Lib.hid hcx
   have hcx' : (cnt_Item x : Int) = 1 + 1 + 1 + (s3 : Int) := by omega
   rw [hcx'] at hmc
   clear hcx' hcx hfa
   obtain ⟨m1', hm⟩ : ∃ u : Int, u = m + 1 := ⟨_, rfl⟩
   have bd0 : 0 < m1' ∧ m1' ≤ 2305843009213693952 := by omega
   have bl0 : m ≤ m1' := by omega
   have HM1 := Lib.hid hm
   have hme1 := hm
   clear hm
   obtain ⟨m2', hm⟩ : ∃ u : Int, u = m1' + 1 := ⟨_, rfl⟩
   have bd1 : 0 < m2' ∧ m2' ≤ 2305843009213693952 := by omega
   have bl1 : m1' ≤ m2' := by omega
   have HM2 := Lib.hid hm
   have hme2 := hm
   clear hm
   obtain ⟨m3', hm⟩ : ∃ u : Int, u = m2' + 1 := ⟨_, rfl⟩
   have bd2 : 0 < m3' ∧ m3' ≤ 2305843009213693952 := by omega
   have bl2 : m2' ≤ m3' := by omega
   have HM3 := Lib.hid hm
   have hme3 := hm
   clear hm
   obtain ⟨m4', hm⟩ : ∃ u : Int, u = m3' + (s3 : Int) := ⟨_, rfl⟩
   have bd3 : 0 < m4' ∧ m4' ≤ 2305843009213693952 := by omega
   have bl3 : m3' ≤ m4' := by omega
   have HM4 := Lib.hid hm
   have hme4 := hm
   clear hm
   have HS3 := Lib.hid hs3
   clear hs3
   clear hmc hme1 hme2 hme3 hme4
   have HDL := Lib.hid (show ((mks em_Item cnt_Item k (xs.take j)).flatMap cl_Item).length = j * 4 by rw [flat_len cl_Item_len, mks_len, List.length_take, Nat.min_eq_left (by omega)])
   obtain ⟨R0, hR0⟩ : ∃ R0, R0 = (xs.drop (j + 1)).flatMap cl_Item := ⟨_, rfl⟩
   obtain ⟨D0, hD0⟩ : ∃ D0, D0 = (mks em_Item cnt_Item k (xs.take j)).flatMap cl_Item := ⟨_, rfl⟩
   have HR0 := Lib.hid hR0
   have HD0 := Lib.hid hD0
   rw [← hD0] at HDL
   clear hR0 hD0
   have S7 := Lib.hid (show Sl.Sep W _ [Sv.ownV 135 4 (some ⟨g, 0, none⟩) c N (D0 ++ (.int .i64 x.k.kind :: .int .i64 x.k.n :: .string x.k.text :: .slice x.a x.l.length x.c :: R0)), Bag.bag (rws_Item (mks em_Item cnt_Item k (xs.take j)) ++ rws_Item (xs.drop j)), Run.restL W w fps] from (by have h := S6.out; rw [show ((mks em_Item cnt_Item k (xs.take j)) ++ xs.drop j).flatMap cl_Item = D0 ++ (.int .i64 x.k.kind :: .int .i64 x.k.n :: .string x.k.text :: .slice x.a x.l.length x.c :: R0) from by rw [List.flatMap_append, HDR.out, List.flatMap_cons, ← HR0.out, ← HD0.out]; rfl] at h; exact h))
   clear S6
   have S8 := Lib.hid (show Sl.Sep W _ [Sv.ownV 135 4 (some ⟨g, 0, none⟩) c N (D0 ++ (.int .i64 x.k.kind :: .int .i64 x.k.n :: .string x.k.text :: .slice x.a x.l.length x.c :: R0)), Bag.bag ((rws_Item (mks em_Item cnt_Item k (xs.take j)) ++ rws_Item (xs.drop (j + 1))) ++ rw_Item x), Run.restL W w fps] from Bag.bag_perm S7.out 1 rfl (by rw [HDR.out, rws_Item_eq, rws_Item_eq, rws_Item_eq]; exact flat_out _ _ _))
   clear S7
   have S9 := Lib.hid (show Sl.Sep W _ [_, Bag.bag (rws_Item (mks em_Item cnt_Item k (xs.take j)) ++ rws_Item (xs.drop (j + 1))), _, Bag.bag ((rs_Field x.a x.c x.l))] from Bag.bag_split S8.out 1 rfl)
   clear S8
   have q0 : World.cell? wr ⟨g, j * 4, none⟩ = some (.int .i64 x.k.kind) := by rw [(Sv.own_at S9.out 0 rfl).cell (j * 4) (by rw [List.length_append, HDL.out]; simp <;> omega)]; simp [List.getElem_append, HDL.out]
   have z0 := (Sv.own_at S9.out 0 rfl).free (j * 4)
   go_upto_region 6 with fail
   try simp only [← HM1.out]
   clear q0 z0
   have HOV := Lib.hid (show Run.over (D0 ++ (.int .i64 x.k.kind :: .int .i64 x.k.n :: .string x.k.text :: .slice x.a x.l.length x.c :: R0)) (j * 4) [.int .i64 m] = D0 ++ (.int .i64 m :: .int .i64 x.k.n :: .string x.k.text :: .slice x.a x.l.length x.c :: R0) from by rw [show D0 ++ (.int .i64 x.k.kind :: .int .i64 x.k.n :: .string x.k.text :: .slice x.a x.l.length x.c :: R0) = D0 ++ ([.int .i64 x.k.kind] ++ (.int .i64 x.k.n :: .string x.k.text :: .slice x.a x.l.length x.c :: R0)) from by simp, Run.over_mid D0 (.int .i64 x.k.n :: .string x.k.text :: .slice x.a x.l.length x.c :: R0) [.int .i64 m] [.int .i64 x.k.kind] (j * 4) (by simp [HDL.out]) rfl]; simp)
   have S10 := Lib.hid (show Sl.Sep W (wr.setCell ⟨g, j * 4, none⟩ (.int .i64 m)) [Sv.ownV 135 4 (some ⟨g, 0, none⟩) c N (D0 ++ (.int .i64 m :: .int .i64 x.k.n :: .string x.k.text :: .slice x.a x.l.length x.c :: R0)), _, _, _] from (by have h := Run.put_run S9.out 0 rfl (j * 4) [.int .i64 m] (by rw [List.length_append, HDL.out]; simp <;> omega); rw [HOV.out] at h; exact h))
   clear S9
   clear HOV
   generalize (wr.setCell ⟨g, j * 4, none⟩ (.int .i64 m)) = w1 at S10 ⊢
   have q1 : World.cell? w1 ⟨g, j * 4 + 1, none⟩ = some (.int .i64 x.k.n) := by rw [(Sv.own_at S10.out 0 rfl).cell (j * 4 + 1) (by rw [List.length_append, HDL.out]; simp <;> omega)]; simp [List.getElem_append, HDL.out]
   have z1 := (Sv.own_at S10.out 0 rfl).free (j * 4 + 1)
   go_upto_region 8 with fail
   try simp only [← HM2.out]
   clear q1 z1
   have HOV := Lib.hid (show Run.over (D0 ++ (.int .i64 m :: .int .i64 x.k.n :: .string x.k.text :: .slice x.a x.l.length x.c :: R0)) (j * 4 + 1) [.int .i64 m1'] = D0 ++ (.int .i64 m :: .int .i64 m1' :: .string x.k.text :: .slice x.a x.l.length x.c :: R0) from by rw [show D0 ++ (.int .i64 m :: .int .i64 x.k.n :: .string x.k.text :: .slice x.a x.l.length x.c :: R0) = (D0 ++ ([.int .i64 m] : List Value)) ++ ([.int .i64 x.k.n] ++ (.string x.k.text :: .slice x.a x.l.length x.c :: R0)) from by simp, Run.over_mid (D0 ++ ([.int .i64 m] : List Value)) (.string x.k.text :: .slice x.a x.l.length x.c :: R0) [.int .i64 m1'] [.int .i64 x.k.n] (j * 4 + 1) (by simp [HDL.out]) rfl]; simp)
   have S11 := Lib.hid (show Sl.Sep W (w1.setCell ⟨g, j * 4 + 1, none⟩ (.int .i64 m1')) [Sv.ownV 135 4 (some ⟨g, 0, none⟩) c N (D0 ++ (.int .i64 m :: .int .i64 m1' :: .string x.k.text :: .slice x.a x.l.length x.c :: R0)), _, _, _] from (by have h := Run.put_run S10.out 0 rfl (j * 4 + 1) [.int .i64 m1'] (by rw [List.length_append, HDL.out]; simp <;> omega); rw [HOV.out] at h; exact h))
   clear S10
   clear HOV
   generalize (w1.setCell ⟨g, j * 4 + 1, none⟩ (.int .i64 m1')) = w2 at S11 ⊢
   have HMT := Lib.hid (fun w' => L5.markText_any m2' (by omega) (by omega) w')
   go_wp2_with fail
   go_at_call 48
   refine (HMT.out _).mono ?_
   rintro e w3 ⟨rfl, hb⟩
   have S12 := Lib.hid (S11.out.keep hb)
   clear S11
   clear hb
   clear HMT
   have q2 : World.cell? w3 ⟨g, j * 4 + 2, none⟩ = some (.string x.k.text) := by rw [(Sv.own_at S12.out 0 rfl).cell (j * 4 + 2) (by rw [List.length_append, HDL.out]; simp <;> omega)]; simp [List.getElem_append, HDL.out]
   have z2 := (Sv.own_at S12.out 0 rfl).free (j * 4 + 2)
   go_upto_region 10 with fail
   try simp only [← HM3.out]
   clear q2 z2
   have HOV := Lib.hid (show Run.over (D0 ++ (.int .i64 m :: .int .i64 m1' :: .string x.k.text :: .slice x.a x.l.length x.c :: R0)) (j * 4 + 2) [.string (markT m2')] = D0 ++ (.int .i64 m :: .int .i64 m1' :: .string (markT m2') :: .slice x.a x.l.length x.c :: R0) from by rw [show D0 ++ (.int .i64 m :: .int .i64 m1' :: .string x.k.text :: .slice x.a x.l.length x.c :: R0) = (D0 ++ ([.int .i64 m, .int .i64 m1'] : List Value)) ++ ([.string x.k.text] ++ (.slice x.a x.l.length x.c :: R0)) from by simp, Run.over_mid (D0 ++ ([.int .i64 m, .int .i64 m1'] : List Value)) (.slice x.a x.l.length x.c :: R0) [.string (markT m2')] [.string x.k.text] (j * 4 + 2) (by simp [HDL.out]) rfl]; simp)
   have S13 := Lib.hid (show Sl.Sep W (w3.setCell ⟨g, j * 4 + 2, none⟩ (.string (markT m2'))) [Sv.ownV 135 4 (some ⟨g, 0, none⟩) c N (D0 ++ (.int .i64 m :: .int .i64 m1' :: .string (markT m2') :: .slice x.a x.l.length x.c :: R0)), Bag.bag (rws_Item (mks em_Item cnt_Item k (xs.take j)) ++ rws_Item (xs.drop (j + 1))), Run.restL W w fps, Bag.bag ((rs_Field x.a x.c x.l))] from (by have h := Run.put_run S12.out 0 rfl (j * 4 + 2) [.string (markT m2')] (by rw [List.length_append, HDL.out]; simp <;> omega); rw [HOV.out] at h; exact h))
   clear S12
   clear HOV
   generalize (w3.setCell ⟨g, j * 4 + 2, none⟩ (.string (markT m2'))) = w4 at S13 ⊢
   have q3 : World.cell? w4 ⟨g, j * 4 + 3, none⟩ = some (.slice x.a x.l.length x.c) := by rw [(Sv.own_at S13.out 0 rfl).cell (j * 4 + 3) (by rw [List.length_append, HDL.out]; simp <;> omega)]; simp [List.getElem_append, HDL.out]
   go_wp2_with fail
   go_at_call 117
   have HC := mark_FieldS S13.out 3 (a := x.a) (c := x.c) (xs := x.l) rfl m3' HFW3.out (by omega) (by have := HS3.out; have := bd3.2; have := HM4.out; omega)
   rw [← HS3.out, ← HM4.out] at HC
   refine HC.mono ?_
   clear HC
   rintro e w5 ⟨rfl, hS⟩
   clear q3
   have S14 := Lib.hid (show Sl.Sep W _ [_, _, _, Bag.bag (rs_Field x.a x.c (mks em_Field cnt_Field m3' x.l))] from hS)
   clear S13
   clear hS
   go_wp2_with fail
   have HEM := Lib.hid (show rw_Item (em_Item m x) = (rs_Field x.a x.c (mks em_Field cnt_Field m3' x.l)) from by first | rfl | (simp only [HM4.out, HM3.out, HM2.out, HM1.out, HS3.out]; rfl))
   have S15 := Lib.hid (show Sl.Sep W _ [_, _, _, Bag.bag (rw_Item (em_Item m x))] from (by rw [HEM.out]; exact S14.out))
   clear S14
   have S16 := Lib.hid (show Sl.Sep W _ [_, Bag.bag ((rws_Item (mks em_Item cnt_Item k (xs.take j)) ++ rws_Item (xs.drop (j + 1))) ++ (rw_Item (em_Item m x))), _, Bag.bag ([])] from Bag.bag_join S15.out 1 3 (by decide) rfl rfl)
   clear S15
   have S17 := Lib.hid (show Sl.Sep W _ [_, _, _] from Bag.take S16.out [0, 1, 2] (by rfl) (by decide))
   clear S16
   have S18 := Lib.hid (show Sl.Sep W _ [Sv.ownV 135 4 (some ⟨g, 0, none⟩) c N (D0 ++ (.int .i64 m :: .int .i64 m1' :: .string (markT m2') :: .slice x.a x.l.length x.c :: R0)), Bag.bag (rws_Item (mks em_Item cnt_Item k (xs.take (j + 1))) ++ rws_Item (xs.drop (j + 1))), Run.restL W w fps] from (by rw [HMN.out, rws_Item_eq, rws_Item_eq]; have h := S17.out; rw [rws_Item_eq, rws_Item_eq] at h; exact Bag.bag_perm h 1 rfl (flat_back _ _ _)))
   clear S17
   have HROW := Lib.hid (show ((mks em_Item cnt_Item k (xs.take (j + 1))) ++ xs.drop (j + 1)).flatMap cl_Item = D0 ++ (.int .i64 m :: .int .i64 m1' :: .string (markT m2') :: .slice x.a x.l.length x.c :: R0) from by rw [HMN.out, List.flatMap_append, List.flatMap_append, ← HR0.out, ← HD0.out, List.append_assoc, List.flatMap_cons, List.flatMap_nil, List.append_nil]; simp only [HM4.out, HM3.out, HM2.out, HM1.out, HS3.out]; unfold cl_Item em_Item; simp only [mks_len]; rfl)
   have S19 := Lib.hid (show Sl.Sep W _ [Sv.ownV 135 4 (some ⟨g, 0, none⟩) c N (((mks em_Item cnt_Item k (xs.take (j + 1))) ++ xs.drop (j + 1)).flatMap cl_Item), _, _] from (by rw [HROW.out]; exact S18.out))
   clear S18
   go_roundw
   case rel => exact ⟨j + 1, m4', by omega, by go_num, by first | rfl | go_num, by omega, by omega, And.intro (by have h1 := HFT.out; have h2 := HCX.out; have h3 := HM.out; have := HM1.out; have := HM2.out; have := HM3.out; have := HM4.out; omega) S19.out⟩
   case measure => simp [intOf]; omega
  ·
   skip
   obtain rfl : j = N := by omega
   have hT : xs.take j = xs := List.take_of_length_le (by have := HN.out; omega)
   have hD : xs.drop j = [] := List.drop_of_length_le (by have := HN.out; omega)
   have HT := Lib.hid hT
   have HD := Lib.hid hD
   clear hT hD
   have S7 := Lib.hid (show Sl.Sep W _ [Sv.ownV 135 4 (some ⟨g, 0, none⟩) c j ((mks em_Item cnt_Item k xs).flatMap cl_Item), Bag.bag (rws_Item (mks em_Item cnt_Item k xs)), Run.restL W w fps] from (by have h := S6.out; rw [HT.out, HD.out, List.append_nil, ← rws_Item_app, List.append_nil] at h; exact h))
   clear S6
   have S8 := Lib.hid (show Sl.Sep W _ [Bag.bag ([row_Item (some ⟨g, 0, none⟩) c (mks em_Item cnt_Item k xs)]), _, _] from Bag.bag_of_one S7.out 0 (r := row_Item (some ⟨g, 0, none⟩) c (mks em_Item cnt_Item k xs)) (by unfold RowS.res row_Item; dsimp only; rw [mks_len, ← HN.out]; rfl))
   clear S7
   have S9 := Lib.hid (show Sl.Sep W _ [Bag.bag ([row_Item (some ⟨g, 0, none⟩) c (mks em_Item cnt_Item k xs)] ++ (rws_Item (mks em_Item cnt_Item k xs))), Bag.bag ([]), _] from Bag.bag_join S8.out 0 1 (by decide) rfl rfl)
   clear S8
   have S10 := Lib.hid (show Sl.Sep W _ [_, _] from Bag.take S9.out [0, 2] (by rfl) (by decide))
   clear S9
   go_wp2_with fail
   go_ret
   exact ⟨by have h := HM.out; rw [HT.out] at h; rw [← h] <;> rfl, S10.out⟩
theorem mark_ItemS {W w : World} {rs : List Res} (h : Sl.Sep W w rs) (i : Nat) {a : Option Addr} {c : Nat} {xs : List L6.LI} (hi : rs[i]? = some (bag (rs_Item a c xs))) (k : Int) (hf : wsum wt_Item (coS_Item xs) ≤ 1125899906842624) (hk0 : 0 < k) (hk1 : k + (fsum cnt_Item xs : Int) ≤ 2305843009213693952) :
  Calls Tryz.prog 78 #[.slice a xs.length c, .int .i64 k] w fun e w' => e = .returned (.int .i64 (k + (fsum cnt_Item xs : Int))) ∧ Sl.Sep W w' (rs.set i (bag (rs_Item a c (mks em_Item cnt_Item k xs)))) :=
 (mark_ItemS_sep a c xs k W w (Run.restL_start h i hi) hf hk0 hk1).mono fun _ _ ⟨he, hs⟩ => ⟨he, Run.restL_back h i hi hs (rs_Item_fp a c xs k)⟩
set_option maxHeartbeats 8000000 in
theorem held_ItemS (a : Option Addr) (c : Nat) (xs : List L6.LI) (k : Int) (hf : wsum wt_Item (coS_Item xs) ≤ 1125899906842624) (hk0 : 0 < k) (hk1 : k + (fsum cnt_Item xs : Int) ≤ 2305843009213693952) (w : World) (hr : Reads w w.heap.size a ((mks em_Item cnt_Item k xs).flatMap cl_Item)) (hx : RowsRd w w.heap.size (rws_Item (mks em_Item cnt_Item k xs))) :
  Calls Tryz.prog 79 #[.slice a xs.length c, .int .i64 k] w fun e w' => e = .returned (.int .i64 (k + (fsum cnt_Item xs : Int))) ∧ Below w.heap.size w w' := by
 have HF := Lib.hid hf
 have hl : xs.length ≤ 1125899906842624 := by have := wsum_len wt_Item (coS_Item xs); rw [coS_Item_eq, List.length_map] at this; rw [coS_Item_eq] at hf; omega
 clear hf
 have HR := Lib.hid (fun w' (h : Below w.heap.size w w') => hr.below h)
 have HX := Lib.hid (fun w' (h : Below w.heap.size w w') => (hx.below h).more h.size)
 obtain ⟨N, hN⟩ : ∃ n, n = xs.length := ⟨_, rfl⟩
 rw [← hN] at hl ⊢
 have hl' : (N : Int) ≤ 1125899906842624 := by omega
 have HN := Lib.hid hN
 have HK1 := Lib.hid hk1
 have hk2 : k ≤ 2305843009213693952 := by omega
 clear hN hr hx hk1
 have S1 := Lib.hid (show Sl.Sep w w [] from Sl.Sep.start w)
 go_enter Tryz.func79, Tryz.ntmps79
 go_wp2_with fail
 go_loopw [1, 5] (fun v i wr => ∃ (j : Nat) (m : Int), j ≤ N ∧ i = .int .i64 j ∧ v = .int .i64 m ∧ k ≤ m ∧ m ≤ 2305843009213693952 ∧ Hid (m = k + (fsum cnt_Item (xs.take j) : Int) ∧ Sl.Sep w wr [])) (fun _ i _ => N - (intOf i).toNat)
 case atStart => exact ⟨0, k, Nat.zero_le _, rfl, rfl, by omega, by omega, And.intro (by rw [List.take_zero, fsum_nil]; omega) S1.out⟩
 case round =>
  obtain ⟨j, m, hj, rfl, rfl, hm0, hm1, hrel⟩ := hrel
  have HM := Lib.hid hrel.out.1
  have S2 := Lib.hid hrel.out.2
  clear hrel S1
  by_cases hlt : (j : Int) < (N : Int)
  ·
   skip
   have hjl : j < xs.length := by have := HN.out; omega
   obtain ⟨x, hx⟩ : ∃ x, xs[j]? = some x := ⟨_, List.getElem?_eq_getElem hjl⟩
   have HFT := Lib.hid (fsum_take (f := cnt_Item) hx)
   have hfa := fsum_at (f := cnt_Item) hx
   have hcx : cnt_Item x = 1 + (1 + (1 + (fsum cnt_Field x.l))) := rfl
   have hmx : (mks em_Item cnt_Item k xs)[j]? = some (em_Item m x) := by rw [mks_at em_Item cnt_Item k hx, ← HM.out]
   obtain ⟨ad, e'⟩ := el_some cl_Item_len (by decide) (HR.out _ S2.out.old) (List.getElem?_eq_some_iff.1 hmx).1
   subst e'
   have HK := fun w' (h : Below w.heap.size w w') => el4 cl_Item_len (HR.out _ h) hmx rfl
   dsimp only [em_Item] at HK
   have hwm : wt_Item (co_Item x) + 1 ≤ 1125899906842624 := by have h1 := wsum_mem (f := wt_Item) (List.mem_map.2 ⟨x, List.mem_of_getElem? hx, rfl⟩ : co_Item x ∈ xs.map co_Item); have h2 := HF.out; rw [coS_Item_eq] at h2; omega
   have HFW3 := Lib.hid (show wsum wt_Field (coS_Field x.l) ≤ 1125899906842624 from by have h2 : wt_Item (co_Item x) = x.k.text.size + (wsum wt_Field (coS_Field x.l)) := rfl; omega)
   clear hwm
   obtain ⟨s3, hs3⟩ : ∃ u, u = fsum cnt_Field x.l := ⟨_, rfl⟩
   rw [← hs3] at hcx
   have hmc : m + (cnt_Item x : Int) ≤ 2305843009213693952 := by have := HM.out; have := HK1.out; omega
   have HCX := Lib.hid hcx
   have hcx' : (cnt_Item x : Int) = 1 + 1 + 1 + (s3 : Int) := by omega
   rw [hcx'] at hmc
   clear hcx' hcx hfa
   obtain ⟨m1', hm⟩ : ∃ u : Int, u = m + 1 := ⟨_, rfl⟩
   have bd0 : 0 < m1' ∧ m1' ≤ 2305843009213693952 := by omega
   have bl0 : m ≤ m1' := by omega
   have HM1 := Lib.hid hm
   have hme1 := hm
   clear hm
   obtain ⟨m2', hm⟩ : ∃ u : Int, u = m1' + 1 := ⟨_, rfl⟩
   have bd1 : 0 < m2' ∧ m2' ≤ 2305843009213693952 := by omega
   have bl1 : m1' ≤ m2' := by omega
   have HM2 := Lib.hid hm
   have hme2 := hm
   clear hm
   obtain ⟨m3', hm⟩ : ∃ u : Int, u = m2' + 1 := ⟨_, rfl⟩
   have bd2 : 0 < m3' ∧ m3' ≤ 2305843009213693952 := by omega
   have bl2 : m2' ≤ m3' := by omega
   have HM3 := Lib.hid hm
   have hme3 := hm
   clear hm
   obtain ⟨m4', hm⟩ : ∃ u : Int, u = m3' + (s3 : Int) := ⟨_, rfl⟩
   have bd3 : 0 < m4' ∧ m4' ≤ 2305843009213693952 := by omega
   have bl3 : m3' ≤ m4' := by omega
   have HM4 := Lib.hid hm
   have hme4 := hm
   clear hm
   have HRX := fun w' (h : Below w.heap.size w w') => rd_el (rw_ := rw_Item) (by rw [← rws_Item_eq]; exact HX.out w' h) hmx
   have hpt3 : rw_Item (em_Item m x) = (rs_Field x.a x.c (mks em_Field cnt_Field (((m + 1) + 1) + 1) x.l)) := rfl
   have HD3 := fun w' (h : Below w.heap.size w w') => (show RowsRd w' w'.heap.size (rs_Field x.a x.c (mks em_Field cnt_Field (((m + 1) + 1) + 1) x.l)) from (by have h1 := HRX w' h; rw [hpt3] at h1; exact h1))
   try simp only [← hs3] at HK HD3
   try simp only [mks_len] at HK
   try simp only [← hme1] at HK HD3
   try simp only [← hme2] at HK HD3
   try simp only [← hme3] at HK HD3
   try simp only [← hme4] at HK HD3
   have HC3 := fun w' (h : Below w.heap.size w w') => held_FieldS x.a x.c x.l m3' HFW3.out (by omega) (by have := bd3.2; omega) w' (rd_head (HD3 w' h)).reads (rd_tail (HD3 w' h))
   rw [← hs3, ← hme4] at HC3
   replace HC3 := Lib.hid HC3
   obtain ⟨tt2, htt⟩ : ∃ t, markT m2' = t := ⟨_, rfl⟩
   have HMT2 := fun w' => L5.markText_any m2' (by omega) (by omega) w'
   rw [htt] at HMT2
   simp only [htt] at HK
   replace HMT2 := Lib.hid HMT2
   clear htt
   replace HK := Lib.hid HK
   clear hmx hx hme1 hme2 hme3 hme4 hs3 HD3 HRX hpt3 hmc
   obtain ⟨f0, f1, f2, f3⟩ := HK.out _ S2.out.old
   go_upto_region 7 with fail
   try simp only [← HM1.out]
   go_upto_region 10 with fail
   try simp only [← HM2.out]
   clear f0 f1 f2 f3
   refine wp_region_held_drew (S := (fun w' => (w'.cell? (ad.add (j * 4)) = some (.int .i64 m) ∧ w'.cell? (⟨(ad.add (j * 4)).block, (ad.add (j * 4)).off + 1, none⟩) = some (.int .i64 m1') ∧ w'.cell? (⟨(ad.add (j * 4)).block, (ad.add (j * 4)).off + 2, none⟩) = some (.string tt2) ∧ w'.cell? (⟨(ad.add (j * 4)).block, (ad.add (j * 4)).off + 3, none⟩) = some (.slice x.a x.l.length x.c)))) (by kernel_rfl) (HK.out _ (Bag.drew1 S2.out).old) (fun hS => ?_)
   have S3 := Lib.hid (Bag.drew1 S2.out)
   clear S2
   generalize World.drew _ = w1 at hS S3 ⊢
   refine tk 0 rfl ?_
   try simp only [zp0, zp1, zp2, zp3, zp4]
   refine tk 1 rfl ?_
   try simp only [zp0, zp1, zp2, zp3, zp4]
   refine tk 2 rfl ?_
   try simp only [zp0, zp1, zp2, zp3, zp4]
   refine tk 3 rfl ?_
   try simp only [zp0, zp1, zp2, zp3, zp4]
   refine tk 4 rfl ?_
   try simp only [zp0, zp1, zp2, zp3, zp4]
   refine tk 5 rfl ?_
   try simp only [zp0, zp1, zp2, zp3, zp4]
   refine tk 6 rfl ?_
   try simp only [zp0, zp1, zp2, zp3, zp4]
   refine Reg.one_op (i := 7) rfl (by kernel_rfl) (fun K hK => ?_)
   go_simp
   go_at_call 48
   refine (HMT2.out _).mono ?_
   rintro e w2 ⟨rfl, hb⟩
   have S4 := Lib.hid (S3.out.keep hb)
   clear S3
   clear hb
   go_wp2_with fail
   refine hK.out _ _ (HK.out _ S4.out.old) (fun hS => ?_)
   clear hK K
   try simp only [zp0, zp1, zp2, zp3, zp4]
   refine tk 8 rfl ?_
   try simp only [zp0, zp1, zp2, zp3, zp4]
   refine wpAnyH_done (by kernel_rfl) ?_ _
   obtain ⟨f0, f1, f2, f3⟩ := HK.out _ S4.out.old
   go_upto_region 13 with fail
   try simp only [← HM3.out]
   go_wp2_with fail
   go_at_call 118
   refine (HC3.out _ S4.out.old).mono ?_
   rintro e w3 ⟨rfl, hb⟩
   clear f0 f1 f2 f3
   have S5 := Lib.hid (S4.out.keep hb)
   clear S4
   clear hb
   obtain ⟨f0, f1, f2, f3⟩ := HK.out _ S5.out.old
   have hneg3 : ¬ (m4' < 0) := by omega
   go_wp2_with fail
   go_roundw
   case rel => exact ⟨j + 1, m4', by omega, by go_num, by first | rfl | go_num, by omega, by omega, And.intro (by have h1 := HFT.out; have h2 := HCX.out; have h3 := HM.out; have := HM1.out; have := HM2.out; have := HM3.out; have := HM4.out; omega) S5.out⟩
   case measure => simp [intOf]; omega
  ·
   skip
   obtain rfl : j = N := by omega
   have hT : xs.take j = xs := List.take_of_length_le (by have := HN.out; omega)
   have HT := Lib.hid hT
   clear hT
   go_wp2_with fail
   go_ret
   exact ⟨by have h := HM.out; rw [HT.out] at h; rw [← h] <;> rfl, S2.out.old⟩
end Go.Proofs.YthljdhfgphebnaaGreat.V

set_option linter.unusedSimpArgs false
namespace Go.Proofs.YthljdhfgphebnaaGreat.V
open Go.ChangeShapes Go.WideShapes Go.ChangeAt Go.RowKit Mem Sl Sv Bag
open L5 (markT)
def co_Store : L6.LS → L6.S6 := L6.LS.con
def coS_Store (xs : List L6.LS) : List L6.S6 := xs.map co_Store
theorem coS_Store_eq (xs : List L6.LS) : coS_Store xs = xs.map co_Store := rfl
def cl_Store (z : L6.LS) : List Value := [.string z.name, .slice z.a z.xs.length z.c, .int .i64 z.auto]
def vv_Store (z : L6.LS) : Value := .agg #[.string z.name, .slice z.a z.xs.length z.c, .int .i64 z.auto]
def rw_Store (z : L6.LS) : List RowS := rs_Item z.a z.c z.xs
def wt_Store (c : L6.S6) : Nat := c.name.size + (wsum wt_Item c.items)
theorem wt_Store_parts (z : L6.LS) : wt_Store (co_Store z) = z.name.size + (wsum wt_Item (coS_Item z.xs)) := rfl
theorem cl_Store_len (z : L6.LS) : (cl_Store z).length = 3 := rfl
theorem cl_Store_one (z : L6.LS) : ∀ u ∈ cl_Store z, u.oneCell' = true := by
 intro u hu
 unfold cl_Store at hu
 rcases List.mem_cons.1 hu with rfl | hu
 ·
  rfl
 rcases List.mem_cons.1 hu with rfl | hu
 ·
  rfl
 rcases List.mem_cons.1 hu with rfl | hu
 ·
  rfl
 cases hu
def row_Store (a : Option Addr) (c : Nat) (xs : List L6.LS) : RowS := ⟨70, 3, a, c, xs.length, xs.flatMap cl_Store⟩
def rws_Store (xs : List L6.LS) : List RowS := xs.flatMap rw_Store
theorem rws_Store_eq (xs : List L6.LS) : rws_Store xs = xs.flatMap rw_Store := rfl
def rs_Store (a : Option Addr) (c : Nat) (xs : List L6.LS) : List RowS := row_Store a c xs :: rws_Store xs
theorem rws_Store_app (xs ys : List L6.LS) : rws_Store (xs ++ ys) = rws_Store xs ++ rws_Store ys := by rw [rws_Store_eq, rws_Store_eq, rws_Store_eq, List.flatMap_append]
def Wide_Store (z : L6.LS) : Prop := z.name.size ≤ maxLen ∧ (z.xs.length ≤ maxLen ∧ ∀ x ∈ z.xs, Wide_Item x) ∧ (-9223372036854775808 ≤ z.auto ∧ z.auto ≤ 9223372036854775807)
section
variable {H : Type} {enc : TypeId × Value → H} {W : World} {b : Nat} {sp : Nat → Bool} {hd : Bool}
theorem trod_Store {fuel : Nat} {cs : List Value} {x : DataW H × List MemPlace} (h : DataW.trod enc Tryz.prog W b sp hd fuel 104 cs = some x) (hlt : ∀ p ∈ x.2, p.block < W.heap.size) : ∃ z : L6.LS, cs = cl_Store z ∧ RowsRd W W.heap.size (rw_Store z) ∧ Wide_Store z := by
 obtain ⟨xs, n, _, hx, hl, hlen, hf⟩ := DataW.trod_struct Tryz.underlying104 h
 have hlN : cs.length = 3 := hl.trans (by kernel_rfl)
 match cs, hlN with
 | [c0, c1, c2], _ =>
  have h0 : DataW.trod enc Tryz.prog W b sp hd n 9 (List.take (Tryz.prog.cellsOf 9) (List.drop 0 [c0, c1, c2])) = xs[0]? := hf 0 _ rfl
  rw [show Tryz.prog.cellsOf 9 = 1 by kernel_rfl, List.getElem?_eq_getElem (by rw [hlen]; decide)] at h0
  obtain ⟨x0, e0, _, w0⟩ := DataW.trod_string Tryz.underlying9 h0
  have h1 : DataW.trod enc Tryz.prog W b sp hd n 102 (List.take (Tryz.prog.cellsOf 102) (List.drop 1 [c0, c1, c2])) = xs[1]? := hf 1 _ rfl
  rw [show Tryz.prog.cellsOf 102 = 1 by kernel_rfl, List.getElem?_eq_getElem (by rw [hlen]; decide)] at h1
  obtain ⟨a1, x1, c1', e1, r1, v1, l1, w1⟩ := trods_Item h1 (fun p hp => hlt p (by rw [hx]; exact List.mem_flatMap.2 ⟨_, List.getElem_mem (show 1 < xs.length by rw [hlen]; decide), hp⟩))
  have h2 : DataW.trod enc Tryz.prog W b sp hd n 3 (List.take (Tryz.prog.cellsOf 3) (List.drop 2 [c0, c1, c2])) = xs[2]? := hf 2 _ rfl
  rw [show Tryz.prog.cellsOf 3 = 1 by kernel_rfl, List.getElem?_eq_getElem (by rw [hlen]; decide)] at h2
  obtain ⟨x2, e2, _, w2⟩ := DataW.trod_int Tryz.underlying3 h2
  simp only [List.drop_succ_cons, List.drop_zero, List.take_succ_cons, List.take_zero, List.cons.injEq, and_true] at e0
  subst e0
  simp only [List.drop_succ_cons, List.drop_zero, List.take_succ_cons, List.take_zero, List.cons.injEq, and_true] at e1
  subst e1
  simp only [List.drop_succ_cons, List.drop_zero, List.take_succ_cons, List.take_zero, List.cons.injEq, and_true] at e2
  subst e2
  exact ⟨⟨x0, a1, c1', x1, x2⟩, rfl, rd_cons ⟨r1.1, r1.2.1, r1.2.2⟩ (by rw [rws_Item_eq]; exact v1), ⟨w0, ⟨l1, w1⟩, Law.wf_i64 w2⟩⟩
theorem trods_Store {fuel : Nat} {cs : List Value} {x : DataW H × List MemPlace} (h : DataW.trod enc Tryz.prog W b sp hd fuel 22 cs = some x) (hlt : ∀ p ∈ x.2, p.block < W.heap.size) :
  ∃ (a : Option Addr) (xs : List L6.LS) (c : Nat), cs = [.slice a xs.length c] ∧ (Reads W W.heap.size a (xs.flatMap cl_Store) ∧ xs.length ≤ c ∧ (a = none → c = 0)) ∧ RowsRd W W.heap.size (xs.flatMap rw_Store) ∧ xs.length ≤ maxLen ∧ ∀ z ∈ xs, Wide_Store z :=
 trods cl_Store 3 cl_Store_len (by decide) rw_Store Wide_Store 22 104 Tryz.underlying22 (by kernel_rfl) (fun h hl => trod_Store h hl) h hlt
end
set_option maxHeartbeats 4000000 in
theorem to_Store (z : L6.LS) (hf : wt_Store (co_Store z) ≤ 1048576) (w : World) (hr : RowsRd w w.heap.size (rw_Store z)) : Calls Tryz.prog 66 #[vv_Store z] w fun e w' => ∃ y : L6.LS, e = .returned (vv_Store y) ∧ co_Store y = co_Store z ∧ BagOwn w' w.heap.size (rw_Store y) ∧ Below w.heap.size w w' := by
 have hfp := hf
 rw [wt_Store_parts] at hfp
 have HC1 := Lib.hid (fun w' (h : Below w.heap.size w w') => to_ItemS z.a z.c z.xs (by omega) w' (((rd_head hr).reads.below h).more h.size) (((rd_tail hr).below h).more h.size))
 clear hfp hf hr
 unfold vv_Store
 have S1 := Lib.hid (show Sl.Sep w _ [_, _] from L4.push_box (L4.push_box (Sl.Sep.start w) 104 #[.string z.name, .slice z.a z.xs.length z.c, .int .i64 z.auto] (w.heap.size) (by simp)) 70 #[.string ⟨#[]⟩, .slice none 0 0, .int .i64 0] (w.heap.size + 1) (by simp))
 obtain ⟨wa, hwa⟩ : ∃ u, u = ((w.alloc (.cells #[.string z.name, .slice z.a z.xs.length z.c, .int .i64 z.auto] 104)).alloc (.cells #[.string ⟨#[]⟩, .slice none 0 0, .int .i64 0] 70)) := ⟨_, rfl⟩
 rw [← hwa] at S1
 go_enter Tryz.func66, Tryz.ntmps66
 go_upto_region 1 with fail
 rw [← hwa]
 clear hwa
 go_upto_region 2 with fail
 have S2 := Lib.hid (show Sl.Sep w _ [_, _, _] from L4.push_box S1.out 70 #[.string ⟨#[]⟩, .slice none 0 0, .int .i64 0] wa.heap.size rfl)
 clear S1
 obtain ⟨g1, hg⟩ : ∃ g', g' = wa.heap.size := ⟨_, rfl⟩
 rw [← hg] at S2 ⊢
 clear hg
 generalize wa.alloc (.cells #[.string ⟨#[]⟩, .slice none 0 0, .int .i64 0] 70) = w1 at S2 ⊢
 obtain ⟨f0, f1, f2⟩ := Bag.cs3 S2.out 0 rfl
 obtain ⟨f3, f4, f5⟩ := Bag.cs3 S2.out 2 rfl
 have z0 := Bag.free_at S2.out 2 rfl 0
 go_upto_region 3 with fail
 clear f0 f1 f2 f3 f4 f5 z0
 have S3 := Lib.hid (show Sl.Sep w _ [_, _, L4.boxR g1 70 #[.string z.name, .slice none 0 0, .int .i64 0]] from L5.put_box5 (S2.out) 2 rfl 0 (.string z.name))
 clear S2
 obtain ⟨f0, f1, f2⟩ := Bag.cs3 S3.out 0 rfl
 go_wp2_with fail
 go_at_call 99
 refine (HC1.out _ S3.out.old).mono ?_
 rintro e w2 ⟨a1', c1', y1, rfl, hc1, ho, hb⟩
 clear f0 f1 f2
 have S4 := Lib.hid (show Sl.Sep w _ [_, _, _, Bag.bag (rs_Item a1' c1' y1)] from Bag.push_bag S3.out hb ho)
 clear S3
 clear hb ho
 have HQ1 := Lib.hid hc1
 clear hc1
 obtain ⟨f0, f1, f2⟩ := Bag.cs3 S4.out 0 rfl
 obtain ⟨f3, f4, f5⟩ := Bag.cs3 S4.out 2 rfl
 have z1 := Bag.free_at S4.out 2 rfl 1
 go_upto_region 4 with fail
 clear f0 f1 f2 f3 f4 f5 z1
 have S5 := Lib.hid (show Sl.Sep w _ [_, _, L4.boxR g1 70 #[.string z.name, .slice a1' y1.length c1', .int .i64 0], _] from L5.put_box5 (S4.out) 2 rfl 1 (.slice a1' y1.length c1'))
 clear S4
 obtain ⟨f0, f1, f2⟩ := Bag.cs3 S5.out 0 rfl
 obtain ⟨f3, f4, f5⟩ := Bag.cs3 S5.out 2 rfl
 have z2 := Bag.free_at S5.out 2 rfl 2
 go_upto_region 5 with fail
 clear f0 f1 f2 f3 f4 f5 z2
 have S6 := Lib.hid (show Sl.Sep w _ [_, _, L4.boxR g1 70 #[.string z.name, .slice a1' y1.length c1', .int .i64 z.auto], _] from L5.put_box5 (S5.out) 2 rfl 2 (.int .i64 z.auto))
 clear S5
 obtain ⟨f0, f1, f2⟩ := Bag.cs3 S6.out 1 rfl
 obtain ⟨f3, f4, f5⟩ := Bag.cs3 S6.out 2 rfl
 obtain ⟨z0, z1, z2⟩ := Bag.fs3 S6.out 1 rfl
 go_wp2_with fail
 clear f0 f1 f2 f3 f4 f5 z0 z1 z2
 have S7 := Lib.hid (show Sl.Sep w _ [_, L4.boxR (w.heap.size + 1) 70 #[.string z.name, .slice a1' y1.length c1', .int .i64 z.auto], _, _] from L5.put_box5 (L5.put_box5 (L5.put_box5 (S6.out) 1 rfl 0 (.string z.name)) 1 rfl 1 (.slice a1' y1.length c1')) 1 rfl 2 (.int .i64 z.auto))
 clear S6
 obtain ⟨f0, f1, f2⟩ := Bag.cs3 S7.out 1 rfl
 refine bodyPost_ret (v := .agg #[.string z.name, .slice a1' y1.length c1', .int .i64 z.auto]) (by simp [results, Tryz.results66, go_sem, *]) rfl ?_
 clear f0 f1 f2
 refine ⟨⟨z.name, a1', c1', y1, z.auto⟩, rfl, ?_, Bag.bag_from S7.out 3 rfl, S7.out.old⟩
 show (⟨z.name, coS_Item y1, z.auto⟩ : L6.S6) = (⟨z.name, coS_Item z.xs, z.auto⟩ : L6.S6)
 rw [HQ1.out]
theorem info_Store : ∃ i, Tryz.prog.info? 70 = some i ∧ i.zero = some (.agg #[.string ⟨#[]⟩, .slice none 0 0, .int .i64 0]) ∧ i.size = 3 ∧ i.bytes = 48 := Ex.infoOf _ _ _ _ (by kernel_rfl)
set_option maxHeartbeats 4000000 in
theorem to_StoreS (a : Option Addr) (c : Nat) (xs : List L6.LS) (hf : wsum wt_Store (coS_Store xs) ≤ 1048576) (w : World) (hr : Reads w w.heap.size a (xs.flatMap cl_Store)) (hx : RowsRd w w.heap.size (rws_Store xs)) :
  Calls Tryz.prog 35 #[.slice a xs.length c] w fun e w' => ∃ a' c' ys, e = .returned (.slice a' ys.length c') ∧ coS_Store ys = coS_Store xs ∧ BagOwn w' w.heap.size (rs_Store a' c' ys) ∧ Below w.heap.size w w' := by
 obtain ⟨i0, hi1, hi2, hi3, hi4⟩ := info_Store
 have HI := Lib.hid (And.intro hi1 (And.intro hi2 (And.intro hi3 hi4)))
 clear hi1 hi2 hi3 hi4
 rw [coS_Store_eq] at hf
 have HR := Lib.hid (fun w' (h : Below w.heap.size w w') => hr.below h)
 have HX := Lib.hid (fun w' (h : Below w.heap.size w w') => (hx.below h).more h.size)
 have HF := Lib.hid hf
 have hl : xs.length ≤ 1048576 := by have := wsum_len wt_Store (xs.map co_Store); rw [List.length_map] at this; omega
 obtain ⟨N, hN⟩ : ∃ n, n = xs.length := ⟨_, rfl⟩
 rw [← hN] at hl ⊢
 have hl' : (N : Int) ≤ 1048576 := by omega
 have HN := Lib.hid hN
 clear hN hr hx hf
 obtain ⟨Z, hZ⟩ : ∃ Z, Z = (madeCells (Value.agg #[.string ⟨#[]⟩, .slice none 0 0, .int .i64 0]).cells (N * 3)).toList := ⟨_, rfl⟩
 have HZ := Lib.hid (show Z.length = N * 3 by rw [hZ]; simp [madeCells])
 have HZD := Lib.hid hZ
 clear hZ
 have S1 := Lib.hid (show Sl.Sep w w [] from Sl.Sep.start w)
 go_enter Tryz.func35, Tryz.ntmps35
 go_upto_region 2 with (at_make; refine Run.wpList_make_s S1.out rfl _ _ 30 rfl 70 i0 (.agg #[.string ⟨#[]⟩, .slice none 0 0, .int .i64 0]) 3 Tryz.underlying30 HI.out.1 HI.out.2.1 HI.out.2.2.1 _ _ N rfl rfl (by rw [HI.out.2.2.2]; omega) (by unfold maxLen; omega) ?_; intro w1 S')
 obtain ⟨g1, hg⟩ : ∃ g', g' = w.heap.size := ⟨_, rfl⟩
 rw [← hg] at S' ⊢
 clear hg
 have S2 := Lib.hid (show Sl.Sep w _ [Sv.ownV 70 3 (some ⟨g1, 0, none⟩) N N (([] : List L6.LS).flatMap cl_Store ++ Z)] from (by have h := S'; rw [← HZD.out] at h; exact h))
 clear S1
 clear S'
 have S3 := Lib.hid (show Sl.Sep w _ [_, Bag.bag (rws_Store [])] from Bag.push_bag S2.out (Below.refl _ _) (by rw [rws_Store_eq]; exact Bag.BagOwn.nil _ _))
 clear S2
 go_wp2_with fail
 go_loopw [4] (fun i wr => ∃ (k : Nat) (ys : List L6.LS) (Zs : List Value), k ≤ N ∧ i = .int .i64 k ∧ Hid ((ys.map co_Store = (xs.take k).map co_Store ∧ ys.length = k ∧ Zs.length = (N - k) * 3) ∧ Sl.Sep w wr [Sv.ownV 70 3 (some ⟨g1, 0, none⟩) N N (ys.flatMap cl_Store ++ Zs), Bag.bag (rws_Store ys)])) (fun i _ => N - (intOf i).toNat)
 case atStart => exact ⟨0, [], Z, Nat.zero_le _, rfl, And.intro ⟨rfl, rfl, HZ.out⟩ S3.out⟩
 case round =>
  obtain ⟨k, ys, Zs, hk, rfl, hrel⟩ := hrel
  have HC := Lib.hid hrel.out.1
  have S4 := Lib.hid hrel.out.2
  clear hrel S3
  by_cases hlt : (k : Int) < (N : Int)
  ·
   skip
   have hkl : k < xs.length := by have := HN.out; omega
   obtain ⟨x, hx⟩ : ∃ x, xs[k]? = some x := ⟨_, List.getElem?_eq_getElem hkl⟩
   obtain ⟨ad, e'⟩ := el_some cl_Store_len (by decide) (HR.out _ S4.out.old) hkl
   subst e'
   have HK := Lib.hid (fun w' (h : Below w.heap.size w w') => el3 cl_Store_len (HR.out _ h) hx rfl)
   have HTX := Lib.hid (take_next hx)
   have HL := Lib.hid (show (ys.flatMap cl_Store).length = k * 3 ∧ k * 3 + 3 ≤ (ys.flatMap cl_Store ++ Zs).length ∧ 3 ≤ Zs.length from by have h1 := HC.out.2.1; have h2 := HC.out.2.2; rw [List.length_append, flat_len cl_Store_len, h1, h2]; omega)
   have HCI := Lib.hid (fun w' (h : Below w.heap.size w w') => to_Store x (by have h1 := wsum_mem (f := wt_Store) (List.mem_map.2 ⟨x, List.mem_of_getElem? hx, rfl⟩ : co_Store x ∈ xs.map co_Store); have h2 := HF.out; omega) w' (rd_el (rw_ := rw_Store) (by rw [← rws_Store_eq]; exact HX.out w' h) hx))
   dsimp only [vv_Store] at HCI
   clear hx
   obtain ⟨f0, f1, f2⟩ := HK.out _ S4.out.old
   go_wp2_with fail
   go_at_call 66
   refine (HCI.out _ S4.out.old).mono ?_
   rintro e w2 ⟨y, rfl, hcy, ho, hb⟩
   clear f0 f1 f2
   have S5 := Lib.hid (show Sl.Sep w _ [Sv.ownV 70 3 (some ⟨g1, 0, none⟩) N N (ys.flatMap cl_Store ++ Zs), Bag.bag (rws_Store ys), Bag.bag (rw_Store y)] from Bag.push_bag S4.out hb ho)
   clear S4
   clear hb ho
   have HCY := Lib.hid hcy
   clear hcy
   try dsimp only [vv_Store]
   have q0 := (Sv.own_at S5.out 0 rfl).cell (k * 3) (by have := HL.out.2.1; omega)
   have z0 := (Sv.own_at S5.out 0 rfl).free (k * 3)
   have q1 := (Sv.own_at S5.out 0 rfl).cell (k * 3 + 1) (by have := HL.out.2.1; omega)
   have z1 := (Sv.own_at S5.out 0 rfl).free (k * 3 + 1)
   have q2 := (Sv.own_at S5.out 0 rfl).cell (k * 3 + 2) (by have := HL.out.2.1; omega)
   have z2 := (Sv.own_at S5.out 0 rfl).free (k * 3 + 2)
   go_wp2_with fail
   clear q0 z0 q1 z1 q2 z2
   have S6 := Lib.hid (show Sl.Sep w (World.setCells w2 g1 (k * 3) [.string y.name, .slice y.a y.xs.length y.c, .int .i64 y.auto]) [Sv.ownV 70 3 (some ⟨g1, 0, none⟩) N N ((ys ++ [y]).flatMap cl_Store ++ Zs.drop 3), Bag.bag (rws_Store ys), Bag.bag (rw_Store y)] from (by have h := Run.put_run S5.out 0 rfl (k * 3) [.string y.name, .slice y.a y.xs.length y.c, .int .i64 y.auto] (by have := HL.out.2.1; simpa using this); rw [Run.over_at _ _ _ _ HL.out.1 (by have := HL.out.2.2; simpa using this)] at h; rw [List.flatMap_append, List.append_assoc]; exact h))
   clear S5
   have S7 := Lib.hid (show Sl.Sep w _ [Sv.ownV 70 3 (some ⟨g1, 0, none⟩) N N ((ys ++ [y]).flatMap cl_Store ++ Zs.drop 3), Bag.bag (rws_Store ys ++ (rw_Store y)), Bag.bag ([])] from Bag.bag_join S6.out 1 2 (by decide) rfl rfl)
   clear S6
   have S8 := Lib.hid (show Sl.Sep w _ [_, _] from Bag.take S7.out [0, 1] (by rfl) (by decide))
   clear S7
   go_roundw
   case rel =>
    refine ⟨k + 1, ys ++ [y], Zs.drop 3, by omega, by go_num, And.intro ⟨?_, ?_, ?_⟩ ?_⟩
    ·
     rw [HTX.out, List.map_append, List.map_append, HC.out.1]; rw [show [y].map co_Store = [x].map co_Store from congrArg (fun u => [u]) HCY.out]
    ·
     rw [List.length_append, HC.out.2.1]; rfl
    ·
     rw [List.length_drop, HC.out.2.2]; omega
    ·
     rw [rws_Store_app]; rw [show rws_Store [y] = rw_Store y from by rw [rws_Store_eq]; simp]; exact S8.out
   case measure => simp [intOf]; omega
  ·
   skip
   obtain rfl : k = N := by omega
   go_wp2_with fail
   go_ret
   obtain ⟨hc1, hc2, hc3⟩ := HC.out
   have hZs : Zs = [] := List.eq_nil_of_length_eq_zero (by rw [hc3]; omega)
   have hcon : ys.map co_Store = xs.map co_Store := by rw [hc1, List.take_of_length_le (by have := HN.out; omega)]
   have S90 := Lib.hid (Bag.bag_of_one S4.out 0 (r := row_Store (some ⟨g1, 0, none⟩) k ys) (by unfold RowS.res row_Store; dsimp only; rw [hZs, List.append_nil, hc2]; rfl))
   have S91 := Lib.hid (Bag.bag_join S90.out 0 1 (by decide) rfl rfl)
   have hb := Bag.bag_from S91.out 0 rfl
   subst hc2
   exact ⟨_, _, ys, rfl, by rw [coS_Store_eq, coS_Store_eq]; exact hcon, hb, S91.out.old⟩
set_option maxHeartbeats 4000000 in
theorem sz_Store (z : L6.LS) (q : Int) (hw : Wide_Store z) (hq0 : -1 ≤ q) (hq1 : q ≤ 1048576) (w : World) (hr : RowsRd w w.heap.size (rw_Store z)) : Calls Tryz.prog 60 #[vv_Store z, .int .i64 q] w fun e w' => e = .returned (.int .i64 (lft q (wt_Store (co_Store z)))) ∧ Below w.heap.size w w' := by
 have hs0 : (z.name.size : Int) ≤ 9223372036854775807 := by have h : z.name.size ≤ maxLen := hw.1; unfold maxLen at h; omega
 have HS1 := Lib.hid (fun (m : Int) (h0 : -1 ≤ m) (h1 : m ≤ 1048576) w' (h : Below w.heap.size w w') => sz_ItemS z.a z.c z.xs m hw.2.1.2 hw.2.1.1 h0 h1 w' (((rd_head hr).reads.below h).more h.size) (((rd_tail hr).below h).more h.size))
 have HW := Lib.hid (wt_Store_parts z)
 clear hw hr
 unfold vv_Store
 have S1 := Lib.hid (show Sl.Sep w _ [_] from L4.push_box (Sl.Sep.start w) 104 #[.string z.name, .slice z.a z.xs.length z.c, .int .i64 z.auto] (w.heap.size) (by simp))
 obtain ⟨wa, hwa⟩ : ∃ u, u = (w.alloc (.cells #[.string z.name, .slice z.a z.xs.length z.c, .int .i64 z.auto] 104)) := ⟨_, rfl⟩
 rw [← hwa] at S1
 go_enter Tryz.func60, Tryz.ntmps60
 go_upto_region 1 with fail
 rw [← hwa]
 clear hwa
 obtain ⟨f0, f1, f2⟩ := Bag.cs3 S1.out 0 rfl
 by_cases hn0 : q - (z.name.size : Int) < 0
 ·
  skip
  go_wp2_with fail
  go_ret
  exact ⟨by rw [HW.out, lft_neg (by omega)] <;> rfl, S1.out.old⟩
 ·
  skip
  obtain ⟨u1, hu⟩ : ∃ u, lft (q - (z.name.size : Int)) (wsum wt_Item (coS_Item z.xs)) = u := ⟨_, rfl⟩
  have hc1 := lft_cases hu
  have hr1 := lft_range (q := (q - (z.name.size : Int))) (wsum wt_Item (coS_Item z.xs)) (by omega)
  rw [hu] at hr1
  have HCU := HS1.out (q - (z.name.size : Int)) (by omega) (by omega)
  simp only [hu] at HCU
  replace HCU := Lib.hid HCU
  clear hu
  go_wp2_with fail
  go_at_call 93
  refine (HCU.out _ S1.out.old).mono ?_
  rintro e w1 ⟨rfl, hb⟩
  clear f0 f1 f2
  have S2 := Lib.hid (S1.out.keep hb)
  clear S1
  clear hb
  obtain ⟨f0, f1, f2⟩ := Bag.cs3 S2.out 0 rfl
  clear HCU
  by_cases hn1 : u1 < 0
  ·
   have hm1 : u1 = -1 := by omega
   subst hm1
   go_wp2_with fail
   go_ret
   exact ⟨by rw [HW.out, lft_neg (by omega)] <;> rfl, S2.out.old⟩
  ·
   skip
   go_wp2_with fail
   go_ret
   exact ⟨by rw [HW.out, lft_pos (by omega)] <;> first | rfl | (refine congrArg (fun i => Ending.returned (.int .i64 i)) ?_; omega), S2.out.old⟩
set_option maxHeartbeats 4000000 in
theorem sz_StoreS (a : Option Addr) (c : Nat) (xs : List L6.LS) (q : Int) (hw : ∀ x ∈ xs, Wide_Store x) (hm : xs.length ≤ maxLen) (hq0 : -1 ≤ q) (hq1 : q ≤ 1048576) (w : World) (hr : Reads w w.heap.size a (xs.flatMap cl_Store)) (hx : RowsRd w w.heap.size (rws_Store xs)) :
  Calls Tryz.prog 28 #[.slice a xs.length c, .int .i64 q] w fun e w' => e = .returned (.int .i64 (lft q (wsum wt_Store (coS_Store xs)))) ∧ Below w.heap.size w w' := by
 have HR := Lib.hid (fun w' (h : Below w.heap.size w w') => hr.below h)
 have HX := Lib.hid (fun w' (h : Below w.heap.size w w') => (hx.below h).more h.size)
 have HWD := Lib.hid hw
 have HW := Lib.hid (show wsum wt_Store (coS_Store xs) = xs.length + fsum (fun x => wt_Store (co_Store x)) xs from by rw [coS_Store_eq, wsum_map])
 obtain ⟨N, hN⟩ : ∃ n, n = xs.length := ⟨_, rfl⟩
 rw [← hN] at hm HW ⊢
 have HN := Lib.hid hN
 have hm' : (N : Int) ≤ 9223372036854775807 := by unfold maxLen at hm; omega
 clear hN hr hx hw hm
 have S1 := Lib.hid (show Sl.Sep w w [] from Sl.Sep.start w)
 by_cases hneg : q - (N : Int) < 0
 ·
  skip
  go_enter Tryz.func28, Tryz.ntmps28
  go_wp2_with fail
  go_ret
  exact ⟨by rw [HW.out, lft_neg (by omega)] <;> rfl, Below.refl _ _⟩
 ·
  skip
  go_enter Tryz.func28, Tryz.ntmps28
  go_wp2_with fail
  go_loopw [1, 5] (fun lv i wr => ∃ (k : Nat) (m : Int), k ≤ N ∧ i = .int .i64 k ∧ lv = .int .i64 m ∧ 0 ≤ m ∧ m ≤ 1048576 ∧ Hid (m = q - N - (fsum (fun x => wt_Store (co_Store x)) (xs.take k) : Int) ∧ Sl.Sep w wr [])) (fun _ i _ => N - (intOf i).toNat)
  case atStart => exact ⟨0, q - N, Nat.zero_le _, rfl, rfl, by omega, by omega, And.intro (by rw [List.take_zero, fsum_nil]; omega) S1.out⟩
  case round =>
   obtain ⟨k, m, hk, rfl, rfl, hm0, hm1, hrel⟩ := hrel
   have HA := Lib.hid hrel.out.1
   have S2 := Lib.hid hrel.out.2
   clear hrel S1
   by_cases hlt : (k : Int) < (N : Int)
   ·
    skip
    have hkl : k < xs.length := by have := HN.out; omega
    obtain ⟨x, hx⟩ : ∃ x, xs[k]? = some x := ⟨_, List.getElem?_eq_getElem hkl⟩
    obtain ⟨ad, e'⟩ := el_some cl_Store_len (by decide) (HR.out _ S2.out.old) (List.getElem?_eq_some_iff.1 hx).1
    subst e'
    have HK := Lib.hid (fun w' (h : Below w.heap.size w w') => el3 cl_Store_len (HR.out _ h) hx rfl)
    have HAT := Lib.hid (fsum_at (f := (fun x => wt_Store (co_Store x))) hx)
    have HTK := Lib.hid (fsum_take (f := (fun x => wt_Store (co_Store x))) hx)
    try dsimp only at HAT HTK
    obtain ⟨fx, hfx⟩ : ∃ u, wt_Store (co_Store x) = u := ⟨_, rfl⟩
    rw [hfx] at HAT HTK
    obtain ⟨u, hu⟩ : ∃ u, lft m fx = u := ⟨_, rfl⟩
    have hcu := lft_cases hu
    have hru := lft_range (q := m) fx (by omega)
    rw [hu] at hru
    have HSI := fun w' (h : Below w.heap.size w w') => sz_Store x m (HWD.out x (List.mem_of_getElem? hx)) (by omega) hm1 w' (rd_el (rw_ := rw_Store) (by rw [← rws_Store_eq]; exact HX.out w' h) hx)
    rw [hfx, hu] at HSI
    dsimp only [vv_Store] at HSI
    replace HSI := Lib.hid HSI
    clear hfx hu hx
    obtain ⟨f0, f1, f2⟩ := HK.out _ S2.out.old
    go_wp2_with fail
    go_at_call 60
    refine (HSI.out _ S2.out.old).mono ?_
    rintro e w1 ⟨rfl, hb⟩
    clear f0 f1 f2
    have S3 := Lib.hid (S2.out.keep hb)
    clear S2
    clear hb
    by_cases h0 : u < 0
    ·
     have hm1' : u = -1 := by omega
     subst hm1'
     go_wp2_with fail
     go_ret
     exact ⟨by rw [HW.out, lft_neg (by have := HA.out; have := HAT.out; omega)] <;> rfl, S3.out.old⟩
    ·
     skip
     go_wp2_with fail
     go_roundw
     case rel => exact ⟨k + 1, u, by omega, by go_num, rfl, by omega, by omega, And.intro (by rw [HTK.out]; have := HA.out; omega) S3.out⟩
     case measure => simp [intOf]; omega
   ·
    skip
    obtain rfl : k = N := by omega
    have HT := HA.out
    rw [List.take_of_length_le (Nat.le_of_eq HN.out.symm)] at HT
    go_wp2_with fail
    go_ret
    exact ⟨by rw [HW.out, lft_pos (by omega)] <;> first | rfl | (refine congrArg (fun i => Ending.returned (.int .i64 i)) ?_; omega), S2.out.old⟩
set_option maxHeartbeats 4000000 in
theorem eq_Store (y z : L6.LS) (hc : co_Store y = co_Store z) (hf : wt_Store (co_Store y) ≤ 1125899906842624) (w : World) (hr : RowsRd w w.heap.size (rw_Store y)) (hr2 : RowsRd w w.heap.size (rw_Store z)) : Calls Tryz.prog 76 #[vv_Store y, vv_Store z] w fun e w' => e = .returned (.bool true) ∧ Below w.heap.size w w' := by
 have hfp := hf
 rw [wt_Store_parts] at hfp
 have ee0 : z.name = y.name := (show y.name = z.name from congrArg L6.S6.name (hc)).symm
 have ee1 : z.xs.length = y.xs.length := (by have h := congrArg List.length (show coS_Item y.xs = coS_Item z.xs from congrArg L6.S6.items (hc)); rw [coS_Item_eq, coS_Item_eq, List.length_map, List.length_map] at h; exact h.symm)
 have ee2 : z.auto = y.auto := (show y.auto = z.auto from congrArg L6.S6.auto (hc)).symm
 have HE1 := Lib.hid (fun w' (h : Below w.heap.size w w') => eq_ItemS y.a z.a y.c z.c y.xs z.xs (congrArg L6.S6.items hc) (by omega) w' (((rd_head hr).reads.below h).more h.size) (((rd_tail hr).below h).more h.size) (((rd_head hr2).reads.below h).more h.size) (((rd_tail hr2).below h).more h.size))
 simp only [ee0, ee1, ee2] at HE1
 have hv : vv_Store z = .agg #[.string y.name, .slice z.a y.xs.length z.c, .int .i64 y.auto] := by unfold vv_Store; simp only [ee0, ee1, ee2]
 rw [hv]
 clear hv hfp hf hc hr hr2 ee0 ee1 ee2
 unfold vv_Store
 have S1 := Lib.hid (show Sl.Sep w _ [_, _] from L4.push_box (L4.push_box (Sl.Sep.start w) 70 #[.string y.name, .slice y.a y.xs.length y.c, .int .i64 y.auto] (w.heap.size) (by simp)) 70 #[.string y.name, .slice z.a y.xs.length z.c, .int .i64 y.auto] (w.heap.size + 1) (by simp))
 obtain ⟨wa, hwa⟩ : ∃ u, u = ((w.alloc (.cells #[.string y.name, .slice y.a y.xs.length y.c, .int .i64 y.auto] 70)).alloc (.cells #[.string y.name, .slice z.a y.xs.length z.c, .int .i64 y.auto] 70)) := ⟨_, rfl⟩
 rw [← hwa] at S1
 go_enter Tryz.func76, Tryz.ntmps76
 go_upto_region 1 with fail
 rw [← hwa]
 clear hwa
 obtain ⟨f0, f1, f2⟩ := Bag.cs3 S1.out 0 rfl
 obtain ⟨f3, f4, f5⟩ := Bag.cs3 S1.out 1 rfl
 go_wp2_with fail
 go_at_call 116
 refine (HE1.out _ S1.out.old).mono ?_
 rintro e w1 ⟨rfl, hb⟩
 clear f0 f1 f2 f3 f4 f5
 have S2 := Lib.hid (S1.out.keep hb)
 clear S1
 clear hb
 obtain ⟨f0, f1, f2⟩ := Bag.cs3 S2.out 0 rfl
 obtain ⟨f3, f4, f5⟩ := Bag.cs3 S2.out 1 rfl
 go_wp2_with fail
 go_ret
 exact ⟨rfl, S2.out.old⟩
set_option maxHeartbeats 4000000 in
theorem eq_StoreS (a a2 : Option Addr) (c c2 : Nat) (xs xs2 : List L6.LS) (hc : coS_Store xs = coS_Store xs2) (hf : wsum wt_Store (coS_Store xs) ≤ 1125899906842624) (w : World) (hr : Reads w w.heap.size a (xs.flatMap cl_Store)) (hx : RowsRd w w.heap.size (rws_Store xs)) (hr2 : Reads w w.heap.size a2 (xs2.flatMap cl_Store)) (hx2 : RowsRd w w.heap.size (rws_Store xs2)) :
  Calls Tryz.prog 40 #[.slice a xs.length c, .slice a2 xs2.length c2] w fun e w' => e = .returned (.bool true) ∧ Below w.heap.size w w' := by
 have hlen : xs2.length = xs.length := by have h := congrArg List.length hc; rw [coS_Store_eq, coS_Store_eq, List.length_map, List.length_map] at h; exact h.symm
 have hl : xs.length ≤ 1125899906842624 := by have := wsum_len wt_Store (coS_Store xs); rw [coS_Store_eq, List.length_map] at this; rw [coS_Store_eq] at hf; omega
 have HR := Lib.hid (fun w' (h : Below w.heap.size w w') => hr.below h)
 have HR2 := Lib.hid (fun w' (h : Below w.heap.size w w') => hr2.below h)
 have HX := Lib.hid (fun w' (h : Below w.heap.size w w') => (hx.below h).more h.size)
 have HX2 := Lib.hid (fun w' (h : Below w.heap.size w w') => (hx2.below h).more h.size)
 rw [coS_Store_eq] at hf
 have HF := Lib.hid hf
 have HS := Lib.hid (show xs.map co_Store = xs2.map co_Store from by rw [← coS_Store_eq, ← coS_Store_eq]; exact hc)
 obtain ⟨N, hN⟩ : ∃ n, n = xs.length := ⟨_, rfl⟩
 rw [hlen, ← hN]
 rw [← hN] at hl
 have hl' : (N : Int) ≤ 1125899906842624 := by omega
 have HN := Lib.hid hN
 clear hN hr hr2 hx hx2 hf hc hlen
 have S1 := Lib.hid (show Sl.Sep w w [] from Sl.Sep.start w)
 go_enter Tryz.func40, Tryz.ntmps40
 go_wp2_with fail
 go_loopw [5] (fun i wr => ∃ k : Nat, k ≤ N ∧ i = .int .i64 k ∧ Hid (Sl.Sep w wr [])) (fun i _ => N - (intOf i).toNat)
 case atStart => exact ⟨0, Nat.zero_le _, rfl, S1.out⟩
 case round =>
  obtain ⟨k, hk, rfl, hrel⟩ := hrel
  have S2 := Lib.hid hrel.out
  clear hrel S1
  by_cases hlt : (k : Int) < (N : Int)
  ·
   skip
   have hkl : k < xs.length := by have := HN.out; omega
   obtain ⟨x, hx⟩ : ∃ x, xs[k]? = some x := ⟨_, List.getElem?_eq_getElem hkl⟩
   obtain ⟨ad, e'⟩ := el_some cl_Store_len (by decide) (HR.out _ S2.out.old) (List.getElem?_eq_some_iff.1 hx).1
   subst e'
   have HK := Lib.hid (fun w' (h : Below w.heap.size w w') => el3 cl_Store_len (HR.out _ h) hx rfl)
   obtain ⟨x2, hx2, hcx⟩ := map_same HS.out hx
   obtain ⟨ad2, e'⟩ := el_some cl_Store_len (by decide) (HR2.out _ S2.out.old) (List.getElem?_eq_some_iff.1 hx2).1
   subst e'
   have HK2 := Lib.hid (fun w' (h : Below w.heap.size w w') => el3 cl_Store_len (HR2.out _ h) hx2 rfl)
   have ee0 : x2.name = x.name := (show x.name = x2.name from congrArg L6.S6.name (hcx.symm)).symm
   have ee1 : x2.xs.length = x.xs.length := (by have h := congrArg List.length (show coS_Item x.xs = coS_Item x2.xs from congrArg L6.S6.items (hcx.symm)); rw [coS_Item_eq, coS_Item_eq, List.length_map, List.length_map] at h; exact h.symm)
   have ee2 : x2.auto = x.auto := (show x.auto = x2.auto from congrArg L6.S6.auto (hcx.symm)).symm
   have HEQ := fun w' (h : Below w.heap.size w w') => eq_Store x x2 hcx.symm (by have h1 := wsum_mem (f := wt_Store) (List.mem_map.2 ⟨x, List.mem_of_getElem? hx, rfl⟩ : co_Store x ∈ xs.map co_Store); have h2 := HF.out; omega) w' (rd_el (rw_ := rw_Store) (by rw [← rws_Store_eq]; exact HX.out w' h) hx) (rd_el (rw_ := rw_Store) (by rw [← rws_Store_eq]; exact HX2.out w' h) hx2)
   dsimp only [vv_Store] at HEQ
   try dsimp only [cl_Store] at HK2
   simp only [ee0, ee1, ee2] at HEQ HK2
   replace HEQ := Lib.hid HEQ
   clear hcx ee0 ee1 ee2
   try dsimp only [vv_Store] at HEQ
   clear hx hx2
   go_upto_region 6 with fail
   refine wp_region_held_drew (S := (fun w' => (w'.cell? (ad.add (k * 3)) = some (.string x.name) ∧ w'.cell? (⟨(ad.add (k * 3)).block, (ad.add (k * 3)).off + 1, none⟩) = some (.slice x.a x.xs.length x.c) ∧ w'.cell? (⟨(ad.add (k * 3)).block, (ad.add (k * 3)).off + 2, none⟩) = some (.int .i64 x.auto)) ∧ (w'.cell? (ad2.add (k * 3)) = some (.string x.name) ∧ w'.cell? (⟨(ad2.add (k * 3)).block, (ad2.add (k * 3)).off + 1, none⟩) = some (.slice x2.a x.xs.length x2.c) ∧ w'.cell? (⟨(ad2.add (k * 3)).block, (ad2.add (k * 3)).off + 2, none⟩) = some (.int .i64 x.auto)))) (by kernel_rfl) ⟨HK.out _ (Bag.drew1 S2.out).old, HK2.out _ (Bag.drew1 S2.out).old⟩ (fun hS => ?_)
   have S3 := Lib.hid (Bag.drew1 S2.out)
   clear S2
   generalize World.drew _ = w1 at hS S3 ⊢
   refine tk 0 rfl ?_
   try simp only [zp0, zp1, zp2, zp3, zp4]
   refine tk 1 rfl ?_
   try simp only [zp0, zp1, zp2, zp3, zp4]
   refine tk 2 rfl ?_
   try simp only [zp0, zp1, zp2, zp3, zp4]
   refine tk 3 rfl ?_
   try simp only [zp0, zp1, zp2, zp3, zp4]
   refine tk 4 rfl ?_
   try simp only [zp0, zp1, zp2, zp3, zp4]
   refine tk 5 rfl ?_
   try simp only [zp0, zp1, zp2, zp3, zp4]
   refine tk 6 rfl ?_
   try simp only [zp0, zp1, zp2, zp3, zp4]
   refine tk 7 rfl ?_
   try simp only [zp0, zp1, zp2, zp3, zp4]
   refine Reg.one_op (i := 8) rfl (by kernel_rfl) (fun K hK => ?_)
   go_simp
   go_at_call 76
   refine (HEQ.out _ S3.out.old).mono ?_
   rintro e w2 ⟨rfl, hb⟩
   have S4 := Lib.hid (S3.out.keep hb)
   clear S3
   clear hb
   go_wp2_with fail
   refine hK.out _ _ ⟨HK.out _ S4.out.old, HK2.out _ S4.out.old⟩ (fun hS => ?_)
   clear hK K
   try simp only [zp0, zp1, zp2, zp3, zp4]
   refine tk 9 rfl ?_
   try simp only [zp0, zp1, zp2, zp3, zp4]
   refine wpAnyH_done (by kernel_rfl) ?_ _
   obtain ⟨f0, f1, f2⟩ := HK.out _ S4.out.old
   obtain ⟨f3, f4, f5⟩ := HK2.out _ S4.out.old
   go_wp2_with fail
   go_roundw
   case rel => exact ⟨k + 1, by omega, by go_num, S4.out⟩
   case measure => simp [intOf]; omega
  ·
   skip
   go_wp2_with fail
   go_ret
   exact ⟨rfl, S2.out.old⟩
def em_Store (k : Int) (z : L6.LS) : L6.LS := ⟨markT k, z.a, z.c, (mks em_Item cnt_Item (k + 1) z.xs), ((k + 1) + (fsum cnt_Item z.xs : Int))⟩
def cnt_Store (z : L6.LS) : Nat := 1 + (fsum cnt_Item z.xs + (1))
theorem cntS_Store (z : L6.LS) : cnt_Store z ≤ 64 * (wt_Store (co_Store z) + 1) := by
 have h1 := cnt_sum cntS_Item z.xs
 have hw : wt_Store (co_Store z) = z.name.size + (wsum wt_Item (coS_Item z.xs)) := by rfl
 rw [← coS_Item_eq] at h1
 unfold cnt_Store
 omega
theorem em_Store_fp (k : Int) (z : L6.LS) : (rw_Store (em_Store k z)).flatMap RowS.fp = (rw_Store z).flatMap RowS.fp := by
 show (rs_Item z.a z.c (mks em_Item cnt_Item (k + 1) z.xs)).flatMap RowS.fp = (rs_Item z.a z.c z.xs).flatMap RowS.fp
 simp only [List.flatMap_append, rs_Item_fp]
theorem rs_Store_fp (a : Option Addr) (c : Nat) (xs : List L6.LS) (k : Int) : (rs_Store a c (mks em_Store cnt_Store k xs)).flatMap RowS.fp = (rs_Store a c xs).flatMap RowS.fp := by
 unfold rs_Store
 rw [List.flatMap_cons, List.flatMap_cons, rws_Store_eq, rws_Store_eq, mks_fp em_Store_fp]
 congr 1
 unfold row_Store RowS.fp
 cases a <;> rfl
set_option maxHeartbeats 8000000 in
theorem mark_StoreS_sep (a : Option Addr) (c : Nat) (xs : List L6.LS) (k : Int) (W w : World) (S : Sl.Sep W w [bag (rs_Store a c xs), Run.restL W w (bag (rs_Store a c xs)).fp]) (hf : wsum wt_Store (coS_Store xs) ≤ 1125899906842624) (hk0 : 0 < k) (hk1 : k + (fsum cnt_Store xs : Int) ≤ 2305843009213693952) :
  Calls Tryz.prog 42 #[.slice a xs.length c, .int .i64 k] w fun e w' => e = .returned (.int .i64 (k + (fsum cnt_Store xs : Int))) ∧ Sl.Sep W w' [bag (rs_Store a c (mks em_Store cnt_Store k xs)), Run.restL W w (bag (rs_Store a c xs)).fp] := by
 have HF := Lib.hid hf
 have hl : xs.length ≤ 1125899906842624 := by have := wsum_len wt_Store (coS_Store xs); rw [coS_Store_eq, List.length_map] at this; rw [coS_Store_eq] at hf; omega
 clear hf
 obtain ⟨fps, hfps⟩ : ∃ f, f = (bag (rs_Store a c xs)).fp := ⟨_, rfl⟩
 rw [← hfps] at S ⊢
 clear hfps
 rcases (S.is 0 _ rfl).own (row_Store a c xs) (List.mem_cons_self ..) |>.form with ⟨ha, hn0, -, hc0⟩ | ⟨g, hg, -, -, hnc, -⟩
 ·
  have ha' : a = none := ha
  have hc' : c = 0 := hc0
  have hx : xs = [] := List.eq_nil_of_length_eq_zero hn0
  subst hx
  have H := Lib.hid S
  clear S HF hk1
  go_enter Tryz.func42, Tryz.ntmps42
  go_wp2_with fail
  refine wp_loop_rounds 1 ?_
  rw [rounds_succ]
  go_wp2_with fail
  go_ret
  exact ⟨by rw [fsum_nil]; first | rfl | (refine congrArg (fun i => Ending.returned (.int .i64 i)) ?_; omega), H.out⟩
 have hg' : a = some ⟨g, 0, none⟩ := hg
 subst hg'
 obtain ⟨N, hN⟩ : ∃ n, n = xs.length := ⟨_, rfl⟩
 rw [← hN] at hl ⊢
 have hl' : (N : Int) ≤ 1125899906842624 := by omega
 have HN := Lib.hid hN
 have HK1 := Lib.hid hk1
 have hk2 : k ≤ 2305843009213693952 := by omega
 have S1 := Lib.hid S
 clear hg hN S hnc hk1
 have S2 := Lib.hid (show Sl.Sep W _ [Bag.bag ([row_Store (some ⟨g, 0, none⟩) c xs] ++ rws_Store xs), Run.restL W w fps] from S1.out)
 clear S1
 have S3 := Lib.hid (show Sl.Sep W _ [Bag.bag ([row_Store (some ⟨g, 0, none⟩) c xs]), _, Bag.bag (rws_Store xs)] from Bag.bag_split S2.out 0 rfl)
 clear S2
 have S4 := Lib.hid (show Sl.Sep W _ [Sv.ownV 70 3 (some ⟨g, 0, none⟩) c N ((mks em_Store cnt_Store k [] ++ xs.drop 0).flatMap cl_Store), _, _] from (by have h := Bag.one_of_bag S3.out 0 (r := row_Store (some ⟨g, 0, none⟩) c xs) rfl; unfold RowS.res row_Store at h; dsimp only at h; rw [← HN.out] at h; exact h))
 clear S3
 have S5 := Lib.hid (show Sl.Sep W _ [Sv.ownV 70 3 (some ⟨g, 0, none⟩) c N ((mks em_Store cnt_Store k [] ++ xs.drop 0).flatMap cl_Store), Bag.bag (rws_Store (mks em_Store cnt_Store k []) ++ rws_Store (xs.drop 0)), Run.restL W w fps] from Bag.take (by have h := S4.out; rw [show rws_Store xs = rws_Store (mks em_Store cnt_Store k []) ++ rws_Store (xs.drop 0) from by rw [← rws_Store_app]; rfl] at h; exact h) [0, 2, 1] (by rfl) (by decide))
 clear S4
 go_enter Tryz.func42, Tryz.ntmps42
 go_wp2_with fail
 go_loopw [1, 5] (fun v i wr => ∃ (j : Nat) (m : Int), j ≤ N ∧ i = .int .i64 j ∧ v = .int .i64 m ∧ k ≤ m ∧ m ≤ 2305843009213693952 ∧ Hid (m = k + (fsum cnt_Store (xs.take j) : Int) ∧ Sl.Sep W wr [Sv.ownV 70 3 (some ⟨g, 0, none⟩) c N (((mks em_Store cnt_Store k (xs.take j)) ++ xs.drop j).flatMap cl_Store), Bag.bag (rws_Store (mks em_Store cnt_Store k (xs.take j)) ++ rws_Store (xs.drop j)), Run.restL W w fps])) (fun _ i _ => N - (intOf i).toNat)
 case atStart => exact ⟨0, k, Nat.zero_le _, rfl, rfl, by omega, by omega, And.intro (by rw [List.take_zero, fsum_nil]; omega) S5.out⟩
 case round =>
  obtain ⟨j, m, hj, rfl, rfl, hm0, hm1, hrel⟩ := hrel
  have HM := Lib.hid hrel.out.1
  have S6 := Lib.hid hrel.out.2
  clear hrel S5
  by_cases hlt : (j : Int) < (N : Int)
  ·
   skip
   have hjl : j < xs.length := by have := HN.out; omega
   obtain ⟨x, hx⟩ : ∃ x, xs[j]? = some x := ⟨_, List.getElem?_eq_getElem hjl⟩
   have HFT := Lib.hid (fsum_take (f := cnt_Store) hx)
   have hfa := fsum_at (f := cnt_Store) hx
   have hcx : cnt_Store x = 1 + (fsum cnt_Item x.xs + (1)) := rfl
   have HMN := Lib.hid (show (mks em_Store cnt_Store k (xs.take (j + 1))) = (mks em_Store cnt_Store k (xs.take j)) ++ [em_Store m x] from by rw [mks_next em_Store cnt_Store k hx, ← HM.out])
   have HDR := Lib.hid (drop_next hx)
   have hwm : wt_Store (co_Store x) + 1 ≤ 1125899906842624 := by have h1 := wsum_mem (f := wt_Store) (List.mem_map.2 ⟨x, List.mem_of_getElem? hx, rfl⟩ : co_Store x ∈ xs.map co_Store); have h2 := HF.out; rw [coS_Store_eq] at h2; omega
   have HFW1 := Lib.hid (show wsum wt_Item (coS_Item x.xs) ≤ 1125899906842624 from by have h2 : wt_Store (co_Store x) = x.name.size + (wsum wt_Item (coS_Item x.xs)) := rfl; omega)
   clear hwm hx
   obtain ⟨s1, hs1⟩ : ∃ u, u = fsum cnt_Item x.xs := ⟨_, rfl⟩
   rw [← hs1] at hcx
   have hmc : m + (cnt_Store x : Int) ≤ 2305843009213693952 := by have := HM.out; have := HK1.out; omega
   have HCX := Lib.hid hcx
   have hcx' : (cnt_Store x : Int) = 1 + (s1 : Int) + 1 := by omega
   rw [hcx'] at hmc
   clear hcx' hcx hfa
   obtain ⟨m1', hm⟩ : ∃ u : Int, u = m + 1 := ⟨_, rfl⟩
   have bd0 : 0 < m1' ∧ m1' ≤ 2305843009213693952 := by omega
   have bl0 : m ≤ m1' := by omega
   have HM1 := Lib.hid hm
   have hme1 := hm
   clear hm
   obtain ⟨m2', hm⟩ : ∃ u : Int, u = m1' + (s1 : Int) := ⟨_, rfl⟩
   have bd1 : 0 < m2' ∧ m2' ≤ 2305843009213693952 := by omega
   have bl1 : m1' ≤ m2' := by omega
   have HM2 := Lib.hid hm
   have hme2 := hm
   clear hm
   obtain ⟨m3', hm⟩ : ∃ u : Int, u = m2' + 1 := ⟨_, rfl⟩
   have bd2 : 0 < m3' ∧ m3' ≤ 2305843009213693952 := by omega
   have bl2 : m2' ≤ m3' := by omega
   have HM3 := Lib.hid hm
   have hme3 := hm
   clear hm
   have HS1 := Lib.hid hs1
   clear hs1
   clear hmc hme1 hme2 hme3
   have HDL := Lib.hid (show ((mks em_Store cnt_Store k (xs.take j)).flatMap cl_Store).length = j * 3 by rw [flat_len cl_Store_len, mks_len, List.length_take, Nat.min_eq_left (by omega)])
   obtain ⟨R0, hR0⟩ : ∃ R0, R0 = (xs.drop (j + 1)).flatMap cl_Store := ⟨_, rfl⟩
   obtain ⟨D0, hD0⟩ : ∃ D0, D0 = (mks em_Store cnt_Store k (xs.take j)).flatMap cl_Store := ⟨_, rfl⟩
   have HR0 := Lib.hid hR0
   have HD0 := Lib.hid hD0
   rw [← hD0] at HDL
   clear hR0 hD0
   have S7 := Lib.hid (show Sl.Sep W _ [Sv.ownV 70 3 (some ⟨g, 0, none⟩) c N (D0 ++ (.string x.name :: .slice x.a x.xs.length x.c :: .int .i64 x.auto :: R0)), Bag.bag (rws_Store (mks em_Store cnt_Store k (xs.take j)) ++ rws_Store (xs.drop j)), Run.restL W w fps] from (by have h := S6.out; rw [show ((mks em_Store cnt_Store k (xs.take j)) ++ xs.drop j).flatMap cl_Store = D0 ++ (.string x.name :: .slice x.a x.xs.length x.c :: .int .i64 x.auto :: R0) from by rw [List.flatMap_append, HDR.out, List.flatMap_cons, ← HR0.out, ← HD0.out]; rfl] at h; exact h))
   clear S6
   have S8 := Lib.hid (show Sl.Sep W _ [Sv.ownV 70 3 (some ⟨g, 0, none⟩) c N (D0 ++ (.string x.name :: .slice x.a x.xs.length x.c :: .int .i64 x.auto :: R0)), Bag.bag ((rws_Store (mks em_Store cnt_Store k (xs.take j)) ++ rws_Store (xs.drop (j + 1))) ++ rw_Store x), Run.restL W w fps] from Bag.bag_perm S7.out 1 rfl (by rw [HDR.out, rws_Store_eq, rws_Store_eq, rws_Store_eq]; exact flat_out _ _ _))
   clear S7
   have S9 := Lib.hid (show Sl.Sep W _ [_, Bag.bag (rws_Store (mks em_Store cnt_Store k (xs.take j)) ++ rws_Store (xs.drop (j + 1))), _, Bag.bag (rs_Item x.a x.c x.xs)] from Bag.bag_split S8.out 1 rfl)
   clear S8
   have HMT := Lib.hid (fun w' => L5.markText_any m (by omega) (by omega) w')
   have q0 : World.cell? wr ⟨g, j * 3, none⟩ = some (.string x.name) := by rw [(Sv.own_at S9.out 0 rfl).cell (j * 3) (by rw [List.length_append, HDL.out]; simp <;> omega)]; simp [List.getElem_append, HDL.out]
   have z0 := (Sv.own_at S9.out 0 rfl).free (j * 3)
   go_wp2_with fail
   go_at_call 48
   refine (HMT.out _).mono ?_
   rintro e w1 ⟨rfl, hb⟩
   clear q0 z0
   have S10 := Lib.hid (S9.out.keep hb)
   clear S9
   clear hb
   clear HMT
   have q0 : World.cell? w1 ⟨g, j * 3, none⟩ = some (.string x.name) := by rw [(Sv.own_at S10.out 0 rfl).cell (j * 3) (by rw [List.length_append, HDL.out]; simp <;> omega)]; simp [List.getElem_append, HDL.out]
   have z0 := (Sv.own_at S10.out 0 rfl).free (j * 3)
   go_upto_region 6 with fail
   try simp only [← HM1.out]
   clear q0 z0
   have HOV := Lib.hid (show Run.over (D0 ++ (.string x.name :: .slice x.a x.xs.length x.c :: .int .i64 x.auto :: R0)) (j * 3) [.string (markT m)] = D0 ++ (.string (markT m) :: .slice x.a x.xs.length x.c :: .int .i64 x.auto :: R0) from by rw [show D0 ++ (.string x.name :: .slice x.a x.xs.length x.c :: .int .i64 x.auto :: R0) = D0 ++ ([.string x.name] ++ (.slice x.a x.xs.length x.c :: .int .i64 x.auto :: R0)) from by simp, Run.over_mid D0 (.slice x.a x.xs.length x.c :: .int .i64 x.auto :: R0) [.string (markT m)] [.string x.name] (j * 3) (by simp [HDL.out]) rfl]; simp)
   have S11 := Lib.hid (show Sl.Sep W (w1.setCell ⟨g, j * 3, none⟩ (.string (markT m))) [Sv.ownV 70 3 (some ⟨g, 0, none⟩) c N (D0 ++ (.string (markT m) :: .slice x.a x.xs.length x.c :: .int .i64 x.auto :: R0)), Bag.bag (rws_Store (mks em_Store cnt_Store k (xs.take j)) ++ rws_Store (xs.drop (j + 1))), Run.restL W w fps, Bag.bag (rs_Item x.a x.c x.xs)] from (by have h := Run.put_run S10.out 0 rfl (j * 3) [.string (markT m)] (by rw [List.length_append, HDL.out]; simp <;> omega); rw [HOV.out] at h; exact h))
   clear S10
   clear HOV
   generalize (w1.setCell ⟨g, j * 3, none⟩ (.string (markT m))) = w2 at S11 ⊢
   have q1 : World.cell? w2 ⟨g, j * 3 + 1, none⟩ = some (.slice x.a x.xs.length x.c) := by rw [(Sv.own_at S11.out 0 rfl).cell (j * 3 + 1) (by rw [List.length_append, HDL.out]; simp <;> omega)]; simp [List.getElem_append, HDL.out]
   go_wp2_with fail
   go_at_call 78
   have HC := mark_ItemS S11.out 3 (a := x.a) (c := x.c) (xs := x.xs) rfl m1' HFW1.out (by omega) (by have := HS1.out; have := bd1.2; have := HM2.out; omega)
   rw [← HS1.out, ← HM2.out] at HC
   refine HC.mono ?_
   clear HC
   rintro e w3 ⟨rfl, hS⟩
   clear q1
   have S12 := Lib.hid (show Sl.Sep W _ [_, _, _, Bag.bag (rs_Item x.a x.c (mks em_Item cnt_Item m1' x.xs))] from hS)
   clear S11
   clear hS
   go_upto_region 7 with fail
   have q2 : World.cell? w3 ⟨g, j * 3 + 2, none⟩ = some (.int .i64 x.auto) := by rw [(Sv.own_at S12.out 0 rfl).cell (j * 3 + 2) (by rw [List.length_append, HDL.out]; simp <;> omega)]; simp [List.getElem_append, HDL.out]
   have z2 := (Sv.own_at S12.out 0 rfl).free (j * 3 + 2)
   go_wp2_with fail
   try simp only [← HM3.out]
   clear q2 z2
   have HOV := Lib.hid (show Run.over (D0 ++ (.string (markT m) :: .slice x.a x.xs.length x.c :: .int .i64 x.auto :: R0)) (j * 3 + 2) [.int .i64 m2'] = D0 ++ (.string (markT m) :: .slice x.a x.xs.length x.c :: .int .i64 m2' :: R0) from by rw [show D0 ++ (.string (markT m) :: .slice x.a x.xs.length x.c :: .int .i64 x.auto :: R0) = (D0 ++ ([.string (markT m), .slice x.a x.xs.length x.c] : List Value)) ++ ([.int .i64 x.auto] ++ (R0)) from by simp, Run.over_mid (D0 ++ ([.string (markT m), .slice x.a x.xs.length x.c] : List Value)) (R0) [.int .i64 m2'] [.int .i64 x.auto] (j * 3 + 2) (by simp [HDL.out]) rfl]; simp)
   have S13 := Lib.hid (show Sl.Sep W (w3.setCell ⟨g, j * 3 + 2, none⟩ (.int .i64 m2')) [Sv.ownV 70 3 (some ⟨g, 0, none⟩) c N (D0 ++ (.string (markT m) :: .slice x.a x.xs.length x.c :: .int .i64 m2' :: R0)), _, _, _] from (by have h := Run.put_run S12.out 0 rfl (j * 3 + 2) [.int .i64 m2'] (by rw [List.length_append, HDL.out]; simp <;> omega); rw [HOV.out] at h; exact h))
   clear S12
   clear HOV
   generalize (w3.setCell ⟨g, j * 3 + 2, none⟩ (.int .i64 m2')) = w4 at S13 ⊢
   have HEM := Lib.hid (show rw_Store (em_Store m x) = rs_Item x.a x.c (mks em_Item cnt_Item m1' x.xs) from by first | rfl | (simp only [HM3.out, HM2.out, HM1.out, HS1.out]; rfl))
   have S14 := Lib.hid (show Sl.Sep W _ [_, _, _, Bag.bag (rw_Store (em_Store m x))] from (by rw [HEM.out]; exact S13.out))
   clear S13
   have S15 := Lib.hid (show Sl.Sep W _ [_, Bag.bag ((rws_Store (mks em_Store cnt_Store k (xs.take j)) ++ rws_Store (xs.drop (j + 1))) ++ (rw_Store (em_Store m x))), _, Bag.bag ([])] from Bag.bag_join S14.out 1 3 (by decide) rfl rfl)
   clear S14
   have S16 := Lib.hid (show Sl.Sep W _ [_, _, _] from Bag.take S15.out [0, 1, 2] (by rfl) (by decide))
   clear S15
   have S17 := Lib.hid (show Sl.Sep W _ [Sv.ownV 70 3 (some ⟨g, 0, none⟩) c N (D0 ++ (.string (markT m) :: .slice x.a x.xs.length x.c :: .int .i64 m2' :: R0)), Bag.bag (rws_Store (mks em_Store cnt_Store k (xs.take (j + 1))) ++ rws_Store (xs.drop (j + 1))), Run.restL W w fps] from (by rw [HMN.out, rws_Store_eq, rws_Store_eq]; have h := S16.out; rw [rws_Store_eq, rws_Store_eq] at h; exact Bag.bag_perm h 1 rfl (flat_back _ _ _)))
   clear S16
   have HROW := Lib.hid (show ((mks em_Store cnt_Store k (xs.take (j + 1))) ++ xs.drop (j + 1)).flatMap cl_Store = D0 ++ (.string (markT m) :: .slice x.a x.xs.length x.c :: .int .i64 m2' :: R0) from by rw [HMN.out, List.flatMap_append, List.flatMap_append, ← HR0.out, ← HD0.out, List.append_assoc, List.flatMap_cons, List.flatMap_nil, List.append_nil]; simp only [HM3.out, HM2.out, HM1.out, HS1.out]; unfold cl_Store em_Store; simp only [mks_len]; rfl)
   have S18 := Lib.hid (show Sl.Sep W _ [Sv.ownV 70 3 (some ⟨g, 0, none⟩) c N (((mks em_Store cnt_Store k (xs.take (j + 1))) ++ xs.drop (j + 1)).flatMap cl_Store), _, _] from (by rw [HROW.out]; exact S17.out))
   clear S17
   go_roundw
   case rel => exact ⟨j + 1, m3', by omega, by go_num, by first | rfl | go_num, by omega, by omega, And.intro (by have h1 := HFT.out; have h2 := HCX.out; have h3 := HM.out; have := HM1.out; have := HM2.out; have := HM3.out; omega) S18.out⟩
   case measure => simp [intOf]; omega
  ·
   skip
   obtain rfl : j = N := by omega
   have hT : xs.take j = xs := List.take_of_length_le (by have := HN.out; omega)
   have hD : xs.drop j = [] := List.drop_of_length_le (by have := HN.out; omega)
   have HT := Lib.hid hT
   have HD := Lib.hid hD
   clear hT hD
   have S7 := Lib.hid (show Sl.Sep W _ [Sv.ownV 70 3 (some ⟨g, 0, none⟩) c j ((mks em_Store cnt_Store k xs).flatMap cl_Store), Bag.bag (rws_Store (mks em_Store cnt_Store k xs)), Run.restL W w fps] from (by have h := S6.out; rw [HT.out, HD.out, List.append_nil, ← rws_Store_app, List.append_nil] at h; exact h))
   clear S6
   have S8 := Lib.hid (show Sl.Sep W _ [Bag.bag ([row_Store (some ⟨g, 0, none⟩) c (mks em_Store cnt_Store k xs)]), _, _] from Bag.bag_of_one S7.out 0 (r := row_Store (some ⟨g, 0, none⟩) c (mks em_Store cnt_Store k xs)) (by unfold RowS.res row_Store; dsimp only; rw [mks_len, ← HN.out]; rfl))
   clear S7
   have S9 := Lib.hid (show Sl.Sep W _ [Bag.bag ([row_Store (some ⟨g, 0, none⟩) c (mks em_Store cnt_Store k xs)] ++ (rws_Store (mks em_Store cnt_Store k xs))), Bag.bag ([]), _] from Bag.bag_join S8.out 0 1 (by decide) rfl rfl)
   clear S8
   have S10 := Lib.hid (show Sl.Sep W _ [_, _] from Bag.take S9.out [0, 2] (by rfl) (by decide))
   clear S9
   go_wp2_with fail
   go_ret
   exact ⟨by have h := HM.out; rw [HT.out] at h; rw [← h] <;> rfl, S10.out⟩
theorem mark_StoreS {W w : World} {rs : List Res} (h : Sl.Sep W w rs) (i : Nat) {a : Option Addr} {c : Nat} {xs : List L6.LS} (hi : rs[i]? = some (bag (rs_Store a c xs))) (k : Int) (hf : wsum wt_Store (coS_Store xs) ≤ 1125899906842624) (hk0 : 0 < k) (hk1 : k + (fsum cnt_Store xs : Int) ≤ 2305843009213693952) :
  Calls Tryz.prog 42 #[.slice a xs.length c, .int .i64 k] w fun e w' => e = .returned (.int .i64 (k + (fsum cnt_Store xs : Int))) ∧ Sl.Sep W w' (rs.set i (bag (rs_Store a c (mks em_Store cnt_Store k xs)))) :=
 (mark_StoreS_sep a c xs k W w (Run.restL_start h i hi) hf hk0 hk1).mono fun _ _ ⟨he, hs⟩ => ⟨he, Run.restL_back h i hi hs (rs_Store_fp a c xs k)⟩
set_option maxHeartbeats 8000000 in
theorem held_StoreS (a : Option Addr) (c : Nat) (xs : List L6.LS) (k : Int) (hf : wsum wt_Store (coS_Store xs) ≤ 1125899906842624) (hk0 : 0 < k) (hk1 : k + (fsum cnt_Store xs : Int) ≤ 2305843009213693952) (w : World) (hr : Reads w w.heap.size a ((mks em_Store cnt_Store k xs).flatMap cl_Store)) (hx : RowsRd w w.heap.size (rws_Store (mks em_Store cnt_Store k xs))) :
  Calls Tryz.prog 44 #[.slice a xs.length c, .int .i64 k] w fun e w' => e = .returned (.int .i64 (k + (fsum cnt_Store xs : Int))) ∧ Below w.heap.size w w' := by
 have HF := Lib.hid hf
 have hl : xs.length ≤ 1125899906842624 := by have := wsum_len wt_Store (coS_Store xs); rw [coS_Store_eq, List.length_map] at this; rw [coS_Store_eq] at hf; omega
 clear hf
 have HR := Lib.hid (fun w' (h : Below w.heap.size w w') => hr.below h)
 have HX := Lib.hid (fun w' (h : Below w.heap.size w w') => (hx.below h).more h.size)
 obtain ⟨N, hN⟩ : ∃ n, n = xs.length := ⟨_, rfl⟩
 rw [← hN] at hl ⊢
 have hl' : (N : Int) ≤ 1125899906842624 := by omega
 have HN := Lib.hid hN
 have HK1 := Lib.hid hk1
 have hk2 : k ≤ 2305843009213693952 := by omega
 clear hN hr hx hk1
 have S1 := Lib.hid (show Sl.Sep w w [] from Sl.Sep.start w)
 go_enter Tryz.func44, Tryz.ntmps44
 go_wp2_with fail
 go_loopw [1, 5] (fun v i wr => ∃ (j : Nat) (m : Int), j ≤ N ∧ i = .int .i64 j ∧ v = .int .i64 m ∧ k ≤ m ∧ m ≤ 2305843009213693952 ∧ Hid (m = k + (fsum cnt_Store (xs.take j) : Int) ∧ Sl.Sep w wr [])) (fun _ i _ => N - (intOf i).toNat)
 case atStart => exact ⟨0, k, Nat.zero_le _, rfl, rfl, by omega, by omega, And.intro (by rw [List.take_zero, fsum_nil]; omega) S1.out⟩
 case round =>
  obtain ⟨j, m, hj, rfl, rfl, hm0, hm1, hrel⟩ := hrel
  have HM := Lib.hid hrel.out.1
  have S2 := Lib.hid hrel.out.2
  clear hrel S1
  by_cases hlt : (j : Int) < (N : Int)
  ·
   skip
   have hjl : j < xs.length := by have := HN.out; omega
   obtain ⟨x, hx⟩ : ∃ x, xs[j]? = some x := ⟨_, List.getElem?_eq_getElem hjl⟩
   have HFT := Lib.hid (fsum_take (f := cnt_Store) hx)
   have hfa := fsum_at (f := cnt_Store) hx
   have hcx : cnt_Store x = 1 + (fsum cnt_Item x.xs + (1)) := rfl
   have hmx : (mks em_Store cnt_Store k xs)[j]? = some (em_Store m x) := by rw [mks_at em_Store cnt_Store k hx, ← HM.out]
   obtain ⟨ad, e'⟩ := el_some cl_Store_len (by decide) (HR.out _ S2.out.old) (List.getElem?_eq_some_iff.1 hmx).1
   subst e'
   have HK := fun w' (h : Below w.heap.size w w') => el3 cl_Store_len (HR.out _ h) hmx rfl
   dsimp only [em_Store] at HK
   have hwm : wt_Store (co_Store x) + 1 ≤ 1125899906842624 := by have h1 := wsum_mem (f := wt_Store) (List.mem_map.2 ⟨x, List.mem_of_getElem? hx, rfl⟩ : co_Store x ∈ xs.map co_Store); have h2 := HF.out; rw [coS_Store_eq] at h2; omega
   have HFW1 := Lib.hid (show wsum wt_Item (coS_Item x.xs) ≤ 1125899906842624 from by have h2 : wt_Store (co_Store x) = x.name.size + (wsum wt_Item (coS_Item x.xs)) := rfl; omega)
   clear hwm
   obtain ⟨s1, hs1⟩ : ∃ u, u = fsum cnt_Item x.xs := ⟨_, rfl⟩
   rw [← hs1] at hcx
   have hmc : m + (cnt_Store x : Int) ≤ 2305843009213693952 := by have := HM.out; have := HK1.out; omega
   have HCX := Lib.hid hcx
   have hcx' : (cnt_Store x : Int) = 1 + (s1 : Int) + 1 := by omega
   rw [hcx'] at hmc
   clear hcx' hcx hfa
   obtain ⟨m1', hm⟩ : ∃ u : Int, u = m + 1 := ⟨_, rfl⟩
   have bd0 : 0 < m1' ∧ m1' ≤ 2305843009213693952 := by omega
   have bl0 : m ≤ m1' := by omega
   have HM1 := Lib.hid hm
   have hme1 := hm
   clear hm
   obtain ⟨m2', hm⟩ : ∃ u : Int, u = m1' + (s1 : Int) := ⟨_, rfl⟩
   have bd1 : 0 < m2' ∧ m2' ≤ 2305843009213693952 := by omega
   have bl1 : m1' ≤ m2' := by omega
   have HM2 := Lib.hid hm
   have hme2 := hm
   clear hm
   obtain ⟨m3', hm⟩ : ∃ u : Int, u = m2' + 1 := ⟨_, rfl⟩
   have bd2 : 0 < m3' ∧ m3' ≤ 2305843009213693952 := by omega
   have bl2 : m2' ≤ m3' := by omega
   have HM3 := Lib.hid hm
   have hme3 := hm
   clear hm
   have HRX := fun w' (h : Below w.heap.size w w') => rd_el (rw_ := rw_Store) (by rw [← rws_Store_eq]; exact HX.out w' h) hmx
   have hpt1 : rw_Store (em_Store m x) = rs_Item x.a x.c (mks em_Item cnt_Item (m + 1) x.xs) := rfl
   have HD1 := fun w' (h : Below w.heap.size w w') => (show RowsRd w' w'.heap.size (rs_Item x.a x.c (mks em_Item cnt_Item (m + 1) x.xs)) from (by have h1 := HRX w' h; rw [hpt1] at h1; exact h1))
   try simp only [← hs1] at HK HD1
   try simp only [mks_len] at HK
   try simp only [← hme1] at HK HD1
   try simp only [← hme2] at HK HD1
   try simp only [← hme3] at HK HD1
   have HC1 := fun w' (h : Below w.heap.size w w') => held_ItemS x.a x.c x.xs m1' HFW1.out (by omega) (by have := bd1.2; omega) w' (rd_head (HD1 w' h)).reads (rd_tail (HD1 w' h))
   rw [← hs1, ← hme2] at HC1
   replace HC1 := Lib.hid HC1
   obtain ⟨tt0, htt⟩ : ∃ t, markT m = t := ⟨_, rfl⟩
   have HMT0 := fun w' => L5.markText_any m (by omega) (by omega) w'
   rw [htt] at HMT0
   simp only [htt] at HK
   replace HMT0 := Lib.hid HMT0
   clear htt
   replace HK := Lib.hid HK
   clear hmx hx hme1 hme2 hme3 hs1 HD1 HRX hpt1 hmc
   obtain ⟨f0, f1, f2⟩ := HK.out _ S2.out.old
   go_upto_region 4 with fail
   clear f0 f1 f2
   refine wp_region_held_drew (S := (fun w' => (w'.cell? (ad.add (j * 3)) = some (.string tt0) ∧ w'.cell? (⟨(ad.add (j * 3)).block, (ad.add (j * 3)).off + 1, none⟩) = some (.slice x.a x.xs.length x.c) ∧ w'.cell? (⟨(ad.add (j * 3)).block, (ad.add (j * 3)).off + 2, none⟩) = some (.int .i64 m2')))) (by kernel_rfl) (HK.out _ (Bag.drew1 S2.out).old) (fun hS => ?_)
   have S3 := Lib.hid (Bag.drew1 S2.out)
   clear S2
   generalize World.drew _ = w1 at hS S3 ⊢
   refine tk 0 rfl ?_
   try simp only [zp0, zp1, zp2, zp3, zp4]
   refine tk 1 rfl ?_
   try simp only [zp0, zp1, zp2, zp3, zp4]
   refine tk 2 rfl ?_
   try simp only [zp0, zp1, zp2, zp3, zp4]
   refine tk 3 rfl ?_
   try simp only [zp0, zp1, zp2, zp3, zp4]
   refine tk 4 rfl ?_
   try simp only [zp0, zp1, zp2, zp3, zp4]
   refine tk 5 rfl ?_
   try simp only [zp0, zp1, zp2, zp3, zp4]
   refine Reg.one_op (i := 6) rfl (by kernel_rfl) (fun K hK => ?_)
   go_simp
   go_at_call 48
   refine (HMT0.out _).mono ?_
   rintro e w2 ⟨rfl, hb⟩
   have S4 := Lib.hid (S3.out.keep hb)
   clear S3
   clear hb
   go_wp2_with fail
   refine hK.out _ _ (HK.out _ S4.out.old) (fun hS => ?_)
   clear hK K
   try simp only [zp0, zp1, zp2, zp3, zp4]
   refine tk 7 rfl ?_
   try simp only [zp0, zp1, zp2, zp3, zp4]
   refine wpAnyH_done (by kernel_rfl) ?_ _
   obtain ⟨f0, f1, f2⟩ := HK.out _ S4.out.old
   go_upto_region 7 with fail
   try simp only [← HM1.out]
   go_wp2_with fail
   go_at_call 79
   refine (HC1.out _ S4.out.old).mono ?_
   rintro e w3 ⟨rfl, hb⟩
   clear f0 f1 f2
   have S5 := Lib.hid (S4.out.keep hb)
   clear S4
   clear hb
   obtain ⟨f0, f1, f2⟩ := HK.out _ S5.out.old
   have hneg1 : ¬ (m2' < 0) := by omega
   go_upto_region 10 with fail
   go_wp2_with fail
   try simp only [← HM3.out]
   go_roundw
   case rel => exact ⟨j + 1, m3', by omega, by go_num, by first | rfl | go_num, by omega, by omega, And.intro (by have h1 := HFT.out; have h2 := HCX.out; have h3 := HM.out; have := HM1.out; have := HM2.out; have := HM3.out; omega) S5.out⟩
   case measure => simp [intOf]; omega
  ·
   skip
   obtain rfl : j = N := by omega
   have hT : xs.take j = xs := List.take_of_length_le (by have := HN.out; omega)
   have HT := Lib.hid hT
   clear hT
   go_wp2_with fail
   go_ret
   exact ⟨by have h := HM.out; rw [HT.out] at h; rw [← h] <;> rfl, S2.out.old⟩
end Go.Proofs.YthljdhfgphebnaaGreat.V

set_option linter.unusedSimpArgs false
namespace Go.Proofs.YthljdhfgphebnaaGreat.V
open Go.ChangeShapes Go.WideShapes Go.ChangeAt Go.RowKit Mem Sl Sv Bag
open L5 (markT)
structure X_IndexDef where
 f_Store : ByteArray
 f_Field : ByteArray
def co_IndexDef (z : X_IndexDef) : X_IndexDef := z
def coS_IndexDef (xs : List X_IndexDef) : List X_IndexDef := xs
theorem coS_IndexDef_eq (xs : List X_IndexDef) : coS_IndexDef xs = xs.map co_IndexDef := (List.map_id' xs).symm
def cl_IndexDef (z : X_IndexDef) : List Value := [.string z.f_Store, .string z.f_Field]
def vv_IndexDef (z : X_IndexDef) : Value := .agg #[.string z.f_Store, .string z.f_Field]
def rw_IndexDef (z : X_IndexDef) : List RowS := []
def wt_IndexDef (c : X_IndexDef) : Nat := c.f_Store.size + (c.f_Field.size)
theorem wt_IndexDef_parts (z : X_IndexDef) : wt_IndexDef (co_IndexDef z) = z.f_Store.size + (z.f_Field.size) := rfl
theorem cl_IndexDef_len (z : X_IndexDef) : (cl_IndexDef z).length = 2 := rfl
theorem cl_IndexDef_one (z : X_IndexDef) : ∀ u ∈ cl_IndexDef z, u.oneCell' = true := by
 intro u hu
 unfold cl_IndexDef at hu
 rcases List.mem_cons.1 hu with rfl | hu
 ·
  rfl
 rcases List.mem_cons.1 hu with rfl | hu
 ·
  rfl
 cases hu
def row_IndexDef (a : Option Addr) (c : Nat) (xs : List X_IndexDef) : RowS := ⟨73, 2, a, c, xs.length, xs.flatMap cl_IndexDef⟩
def rws_IndexDef (_ : List X_IndexDef) : List RowS := []
theorem rws_IndexDef_eq (xs : List X_IndexDef) : rws_IndexDef xs = xs.flatMap rw_IndexDef := by
 show [] = _
 induction xs with
 | nil => rfl
 | cons x xs ih => rw [List.flatMap_cons, ← ih]; rfl
def rs_IndexDef (a : Option Addr) (c : Nat) (xs : List X_IndexDef) : List RowS := row_IndexDef a c xs :: rws_IndexDef xs
theorem rws_IndexDef_app (xs ys : List X_IndexDef) : rws_IndexDef (xs ++ ys) = rws_IndexDef xs ++ rws_IndexDef ys := by rw [rws_IndexDef_eq, rws_IndexDef_eq, rws_IndexDef_eq, List.flatMap_append]
def Wide_IndexDef (z : X_IndexDef) : Prop := z.f_Store.size ≤ maxLen ∧ z.f_Field.size ≤ maxLen
section
variable {H : Type} {enc : TypeId × Value → H} {W : World} {b : Nat} {sp : Nat → Bool} {hd : Bool}
theorem trod_IndexDef {fuel : Nat} {cs : List Value} {x : DataW H × List MemPlace} (h : DataW.trod enc Tryz.prog W b sp hd fuel 106 cs = some x) (hlt : ∀ p ∈ x.2, p.block < W.heap.size) : ∃ z : X_IndexDef, cs = cl_IndexDef z ∧ RowsRd W W.heap.size (rw_IndexDef z) ∧ Wide_IndexDef z := by
 obtain ⟨xs, n, _, hx, hl, hlen, hf⟩ := DataW.trod_struct Tryz.underlying106 h
 have hlN : cs.length = 2 := hl.trans (by kernel_rfl)
 match cs, hlN with
 | [c0, c1], _ =>
  have h0 : DataW.trod enc Tryz.prog W b sp hd n 9 (List.take (Tryz.prog.cellsOf 9) (List.drop 0 [c0, c1])) = xs[0]? := hf 0 _ rfl
  rw [show Tryz.prog.cellsOf 9 = 1 by kernel_rfl, List.getElem?_eq_getElem (by rw [hlen]; decide)] at h0
  obtain ⟨x0, e0, _, w0⟩ := DataW.trod_string Tryz.underlying9 h0
  have h1 : DataW.trod enc Tryz.prog W b sp hd n 9 (List.take (Tryz.prog.cellsOf 9) (List.drop 1 [c0, c1])) = xs[1]? := hf 1 _ rfl
  rw [show Tryz.prog.cellsOf 9 = 1 by kernel_rfl, List.getElem?_eq_getElem (by rw [hlen]; decide)] at h1
  obtain ⟨x1, e1, _, w1⟩ := DataW.trod_string Tryz.underlying9 h1
  simp only [List.drop_succ_cons, List.drop_zero, List.take_succ_cons, List.take_zero, List.cons.injEq, and_true] at e0
  subst e0
  simp only [List.drop_succ_cons, List.drop_zero, List.take_succ_cons, List.take_zero, List.cons.injEq, and_true] at e1
  subst e1
  exact ⟨⟨x0, x1⟩, rfl, rd_nil _ _, ⟨w0, w1⟩⟩
theorem trods_IndexDef {fuel : Nat} {cs : List Value} {x : DataW H × List MemPlace} (h : DataW.trod enc Tryz.prog W b sp hd fuel 23 cs = some x) (hlt : ∀ p ∈ x.2, p.block < W.heap.size) :
  ∃ (a : Option Addr) (xs : List X_IndexDef) (c : Nat), cs = [.slice a xs.length c] ∧ (Reads W W.heap.size a (xs.flatMap cl_IndexDef) ∧ xs.length ≤ c ∧ (a = none → c = 0)) ∧ RowsRd W W.heap.size (xs.flatMap rw_IndexDef) ∧ xs.length ≤ maxLen ∧ ∀ z ∈ xs, Wide_IndexDef z :=
 trods cl_IndexDef 2 cl_IndexDef_len (by decide) rw_IndexDef Wide_IndexDef 23 106 Tryz.underlying23 (by kernel_rfl) (fun h hl => trod_IndexDef h hl) h hlt
end
set_option maxHeartbeats 4000000 in
theorem to_IndexDef (z : X_IndexDef) (w : World) : Calls Tryz.prog 67 #[vv_IndexDef z] w fun e w' => e = .returned (vv_IndexDef z) ∧ Below w.heap.size w w' := by
 unfold vv_IndexDef
 have S1 := Lib.hid (show Sl.Sep w _ [_, _] from L4.push_box (L4.push_box (Sl.Sep.start w) 106 #[.string z.f_Store, .string z.f_Field] (w.heap.size) (by simp)) 73 #[.string ⟨#[]⟩, .string ⟨#[]⟩] (w.heap.size + 1) (by simp))
 obtain ⟨wa, hwa⟩ : ∃ u, u = ((w.alloc (.cells #[.string z.f_Store, .string z.f_Field] 106)).alloc (.cells #[.string ⟨#[]⟩, .string ⟨#[]⟩] 73)) := ⟨_, rfl⟩
 rw [← hwa] at S1
 go_enter Tryz.func67, Tryz.ntmps67
 go_upto_region 1 with fail
 rw [← hwa]
 clear hwa
 go_upto_region 2 with fail
 have S2 := Lib.hid (show Sl.Sep w _ [_, _, _] from L4.push_box S1.out 73 #[.string ⟨#[]⟩, .string ⟨#[]⟩] wa.heap.size rfl)
 clear S1
 obtain ⟨g1, hg⟩ : ∃ g', g' = wa.heap.size := ⟨_, rfl⟩
 rw [← hg] at S2 ⊢
 clear hg
 generalize wa.alloc (.cells #[.string ⟨#[]⟩, .string ⟨#[]⟩] 73) = w1 at S2 ⊢
 obtain ⟨f0, f1⟩ := Bag.cs2 S2.out 0 rfl
 obtain ⟨f2, f3⟩ := Bag.cs2 S2.out 2 rfl
 have z0 := Bag.free_at S2.out 2 rfl 0
 go_upto_region 3 with fail
 clear f0 f1 f2 f3 z0
 have S3 := Lib.hid (show Sl.Sep w _ [_, _, L4.boxR g1 73 #[.string z.f_Store, .string ⟨#[]⟩]] from L5.put_box5 (S2.out) 2 rfl 0 (.string z.f_Store))
 clear S2
 obtain ⟨f0, f1⟩ := Bag.cs2 S3.out 0 rfl
 obtain ⟨f2, f3⟩ := Bag.cs2 S3.out 2 rfl
 have z1 := Bag.free_at S3.out 2 rfl 1
 go_upto_region 4 with fail
 clear f0 f1 f2 f3 z1
 have S4 := Lib.hid (show Sl.Sep w _ [_, _, L4.boxR g1 73 #[.string z.f_Store, .string z.f_Field]] from L5.put_box5 (S3.out) 2 rfl 1 (.string z.f_Field))
 clear S3
 obtain ⟨f0, f1⟩ := Bag.cs2 S4.out 1 rfl
 obtain ⟨f2, f3⟩ := Bag.cs2 S4.out 2 rfl
 obtain ⟨z0, z1⟩ := Bag.fs2 S4.out 1 rfl
 go_wp2_with fail
 clear f0 f1 f2 f3 z0 z1
 have S5 := Lib.hid (show Sl.Sep w _ [_, L4.boxR (w.heap.size + 1) 73 #[.string z.f_Store, .string z.f_Field], _] from L5.put_box5 (L5.put_box5 (S4.out) 1 rfl 0 (.string z.f_Store)) 1 rfl 1 (.string z.f_Field))
 clear S4
 obtain ⟨f0, f1⟩ := Bag.cs2 S5.out 1 rfl
 refine bodyPost_ret (v := .agg #[.string z.f_Store, .string z.f_Field]) (by simp [results, Tryz.results67, go_sem, *]) rfl ?_
 clear f0 f1
 exact ⟨rfl, S5.out.old⟩
theorem info_IndexDef : ∃ i, Tryz.prog.info? 73 = some i ∧ i.zero = some (.agg #[.string ⟨#[]⟩, .string ⟨#[]⟩]) ∧ i.size = 2 ∧ i.bytes = 32 := Ex.infoOf _ _ _ _ (by kernel_rfl)
set_option maxHeartbeats 4000000 in
theorem to_IndexDefS (a : Option Addr) (c : Nat) (xs : List X_IndexDef) (hf : wsum wt_IndexDef (coS_IndexDef xs) ≤ 1048576) (w : World) (hr : Reads w w.heap.size a (xs.flatMap cl_IndexDef)) (hx : RowsRd w w.heap.size (rws_IndexDef xs)) :
  Calls Tryz.prog 36 #[.slice a xs.length c] w fun e w' => ∃ a' c' ys, e = .returned (.slice a' ys.length c') ∧ coS_IndexDef ys = coS_IndexDef xs ∧ BagOwn w' w.heap.size (rs_IndexDef a' c' ys) ∧ Below w.heap.size w w' := by
 obtain ⟨i0, hi1, hi2, hi3, hi4⟩ := info_IndexDef
 have HI := Lib.hid (And.intro hi1 (And.intro hi2 (And.intro hi3 hi4)))
 clear hi1 hi2 hi3 hi4
 rw [coS_IndexDef_eq] at hf
 have HR := Lib.hid (fun w' (h : Below w.heap.size w w') => hr.below h)
 have HX := Lib.hid (fun w' (h : Below w.heap.size w w') => (hx.below h).more h.size)
 have HF := Lib.hid hf
 have hl : xs.length ≤ 1048576 := by have := wsum_len wt_IndexDef (xs.map co_IndexDef); rw [List.length_map] at this; omega
 obtain ⟨N, hN⟩ : ∃ n, n = xs.length := ⟨_, rfl⟩
 rw [← hN] at hl ⊢
 have hl' : (N : Int) ≤ 1048576 := by omega
 have HN := Lib.hid hN
 clear hN hr hx hf
 obtain ⟨Z, hZ⟩ : ∃ Z, Z = (madeCells (Value.agg #[.string ⟨#[]⟩, .string ⟨#[]⟩]).cells (N * 2)).toList := ⟨_, rfl⟩
 have HZ := Lib.hid (show Z.length = N * 2 by rw [hZ]; simp [madeCells])
 have HZD := Lib.hid hZ
 clear hZ
 have S1 := Lib.hid (show Sl.Sep w w [] from Sl.Sep.start w)
 go_enter Tryz.func36, Tryz.ntmps36
 go_upto_region 2 with (at_make; refine Run.wpList_make_s S1.out rfl _ _ 31 rfl 73 i0 (.agg #[.string ⟨#[]⟩, .string ⟨#[]⟩]) 2 Tryz.underlying31 HI.out.1 HI.out.2.1 HI.out.2.2.1 _ _ N rfl rfl (by rw [HI.out.2.2.2]; omega) (by unfold maxLen; omega) ?_; intro w1 S')
 obtain ⟨g1, hg⟩ : ∃ g', g' = w.heap.size := ⟨_, rfl⟩
 rw [← hg] at S' ⊢
 clear hg
 have S2 := Lib.hid (show Sl.Sep w _ [Sv.ownV 73 2 (some ⟨g1, 0, none⟩) N N (([] : List X_IndexDef).flatMap cl_IndexDef ++ Z)] from (by have h := S'; rw [← HZD.out] at h; exact h))
 clear S1
 clear S'
 have S3 := Lib.hid (show Sl.Sep w _ [_, Bag.bag (rws_IndexDef [])] from Bag.push_bag S2.out (Below.refl _ _) (by rw [rws_IndexDef_eq]; exact Bag.BagOwn.nil _ _))
 clear S2
 go_wp2_with fail
 go_loopw [4] (fun i wr => ∃ (k : Nat) (ys : List X_IndexDef) (Zs : List Value), k ≤ N ∧ i = .int .i64 k ∧ Hid ((ys.map co_IndexDef = (xs.take k).map co_IndexDef ∧ ys.length = k ∧ Zs.length = (N - k) * 2) ∧ Sl.Sep w wr [Sv.ownV 73 2 (some ⟨g1, 0, none⟩) N N (ys.flatMap cl_IndexDef ++ Zs), Bag.bag (rws_IndexDef ys)])) (fun i _ => N - (intOf i).toNat)
 case atStart => exact ⟨0, [], Z, Nat.zero_le _, rfl, And.intro ⟨rfl, rfl, HZ.out⟩ S3.out⟩
 case round =>
  obtain ⟨k, ys, Zs, hk, rfl, hrel⟩ := hrel
  have HC := Lib.hid hrel.out.1
  have S4 := Lib.hid hrel.out.2
  clear hrel S3
  by_cases hlt : (k : Int) < (N : Int)
  ·
   skip
   have hkl : k < xs.length := by have := HN.out; omega
   obtain ⟨x, hx⟩ : ∃ x, xs[k]? = some x := ⟨_, List.getElem?_eq_getElem hkl⟩
   obtain ⟨ad, e'⟩ := el_some cl_IndexDef_len (by decide) (HR.out _ S4.out.old) hkl
   subst e'
   have HK := Lib.hid (fun w' (h : Below w.heap.size w w') => el2 cl_IndexDef_len (HR.out _ h) hx rfl)
   have HTX := Lib.hid (take_next hx)
   have HL := Lib.hid (show (ys.flatMap cl_IndexDef).length = k * 2 ∧ k * 2 + 2 ≤ (ys.flatMap cl_IndexDef ++ Zs).length ∧ 2 ≤ Zs.length from by have h1 := HC.out.2.1; have h2 := HC.out.2.2; rw [List.length_append, flat_len cl_IndexDef_len, h1, h2]; omega)
   have HCI := Lib.hid (fun w' => to_IndexDef x w')
   dsimp only [vv_IndexDef] at HCI
   clear hx
   obtain ⟨f0, f1⟩ := HK.out _ S4.out.old
   go_wp2_with fail
   go_at_call 67
   refine (HCI.out _).mono ?_
   rintro e w2 ⟨rfl, hb⟩
   clear f0 f1
   have S5 := Lib.hid (S4.out.keep hb)
   clear S4
   clear hb
   have q0 := (Sv.own_at S5.out 0 rfl).cell (k * 2) (by have := HL.out.2.1; omega)
   have z0 := (Sv.own_at S5.out 0 rfl).free (k * 2)
   have q1 := (Sv.own_at S5.out 0 rfl).cell (k * 2 + 1) (by have := HL.out.2.1; omega)
   have z1 := (Sv.own_at S5.out 0 rfl).free (k * 2 + 1)
   go_wp2_with fail
   clear q0 z0 q1 z1
   have S6 := Lib.hid (show Sl.Sep w (World.setCells w2 g1 (k * 2) [.string x.f_Store, .string x.f_Field]) [Sv.ownV 73 2 (some ⟨g1, 0, none⟩) N N ((ys ++ [x]).flatMap cl_IndexDef ++ Zs.drop 2), Bag.bag (rws_IndexDef ys)] from (by have h := Run.put_run S5.out 0 rfl (k * 2) [.string x.f_Store, .string x.f_Field] (by have := HL.out.2.1; simpa using this); rw [Run.over_at _ _ _ _ HL.out.1 (by have := HL.out.2.2; simpa using this)] at h; rw [List.flatMap_append, List.append_assoc]; exact h))
   clear S5
   have S7 := Lib.hid (show Sl.Sep w _ [Sv.ownV 73 2 (some ⟨g1, 0, none⟩) N N ((ys ++ [x]).flatMap cl_IndexDef ++ Zs.drop 2), Bag.bag (rws_IndexDef ys)] from Bag.take S6.out [0, 1] (by rfl) (by decide))
   clear S6
   go_roundw
   case rel =>
    refine ⟨k + 1, ys ++ [x], Zs.drop 2, by omega, by go_num, And.intro ⟨?_, ?_, ?_⟩ ?_⟩
    ·
     rw [HTX.out, List.map_append, List.map_append, HC.out.1]
    ·
     rw [List.length_append, HC.out.2.1]; rfl
    ·
     rw [List.length_drop, HC.out.2.2]; omega
    ·
     exact S7.out
   case measure => simp [intOf]; omega
  ·
   skip
   obtain rfl : k = N := by omega
   go_wp2_with fail
   go_ret
   obtain ⟨hc1, hc2, hc3⟩ := HC.out
   have hZs : Zs = [] := List.eq_nil_of_length_eq_zero (by rw [hc3]; omega)
   have hcon : ys.map co_IndexDef = xs.map co_IndexDef := by rw [hc1, List.take_of_length_le (by have := HN.out; omega)]
   have S90 := Lib.hid (Bag.bag_of_one S4.out 0 (r := row_IndexDef (some ⟨g1, 0, none⟩) k ys) (by unfold RowS.res row_IndexDef; dsimp only; rw [hZs, List.append_nil, hc2]; rfl))
   have S91 := Lib.hid (Bag.bag_join S90.out 0 1 (by decide) rfl rfl)
   have hb := Bag.bag_from S91.out 0 rfl
   subst hc2
   exact ⟨_, _, ys, rfl, by rw [coS_IndexDef_eq, coS_IndexDef_eq]; exact hcon, hb, S91.out.old⟩
set_option maxHeartbeats 4000000 in
theorem sz_IndexDef (z : X_IndexDef) (q : Int) (hw : Wide_IndexDef z) (hq0 : -1 ≤ q) (hq1 : q ≤ 1048576) (w : World) : Calls Tryz.prog 61 #[vv_IndexDef z, .int .i64 q] w fun e w' => e = .returned (.int .i64 (lft q (wt_IndexDef (co_IndexDef z)))) ∧ Below w.heap.size w w' := by
 have hs0 : (z.f_Store.size : Int) ≤ 9223372036854775807 := by have h : z.f_Store.size ≤ maxLen := hw.1; unfold maxLen at h; omega
 have hs1 : (z.f_Field.size : Int) ≤ 9223372036854775807 := by have h : z.f_Field.size ≤ maxLen := hw.2; unfold maxLen at h; omega
 have HW := Lib.hid (wt_IndexDef_parts z)
 clear hw
 unfold vv_IndexDef
 have S1 := Lib.hid (show Sl.Sep w _ [_] from L4.push_box (Sl.Sep.start w) 106 #[.string z.f_Store, .string z.f_Field] (w.heap.size) (by simp))
 obtain ⟨wa, hwa⟩ : ∃ u, u = (w.alloc (.cells #[.string z.f_Store, .string z.f_Field] 106)) := ⟨_, rfl⟩
 rw [← hwa] at S1
 go_enter Tryz.func61, Tryz.ntmps61
 go_upto_region 1 with fail
 rw [← hwa]
 clear hwa
 obtain ⟨f0, f1⟩ := Bag.cs2 S1.out 0 rfl
 by_cases hn0 : q - (z.f_Store.size : Int) < 0
 ·
  skip
  go_wp2_with fail
  go_ret
  exact ⟨by rw [HW.out, lft_neg (by omega)] <;> rfl, S1.out.old⟩
 ·
  skip
  by_cases hn1 : (q - (z.f_Store.size : Int)) - (z.f_Field.size : Int) < 0
  ·
   skip
   go_wp2_with fail
   go_ret
   exact ⟨by rw [HW.out, lft_neg (by omega)] <;> rfl, S1.out.old⟩
  ·
   skip
   go_wp2_with fail
   go_ret
   exact ⟨by rw [HW.out, lft_pos (by omega)] <;> first | rfl | (refine congrArg (fun i => Ending.returned (.int .i64 i)) ?_; omega), S1.out.old⟩
set_option maxHeartbeats 4000000 in
theorem sz_IndexDefS (a : Option Addr) (c : Nat) (xs : List X_IndexDef) (q : Int) (hw : ∀ x ∈ xs, Wide_IndexDef x) (hm : xs.length ≤ maxLen) (hq0 : -1 ≤ q) (hq1 : q ≤ 1048576) (w : World) (hr : Reads w w.heap.size a (xs.flatMap cl_IndexDef)) (hx : RowsRd w w.heap.size (rws_IndexDef xs)) :
  Calls Tryz.prog 29 #[.slice a xs.length c, .int .i64 q] w fun e w' => e = .returned (.int .i64 (lft q (wsum wt_IndexDef (coS_IndexDef xs)))) ∧ Below w.heap.size w w' := by
 have HR := Lib.hid (fun w' (h : Below w.heap.size w w') => hr.below h)
 have HX := Lib.hid (fun w' (h : Below w.heap.size w w') => (hx.below h).more h.size)
 have HWD := Lib.hid hw
 have HW := Lib.hid (show wsum wt_IndexDef (coS_IndexDef xs) = xs.length + fsum (fun x => wt_IndexDef (co_IndexDef x)) xs from by rw [coS_IndexDef_eq, wsum_map])
 obtain ⟨N, hN⟩ : ∃ n, n = xs.length := ⟨_, rfl⟩
 rw [← hN] at hm HW ⊢
 have HN := Lib.hid hN
 have hm' : (N : Int) ≤ 9223372036854775807 := by unfold maxLen at hm; omega
 clear hN hr hx hw hm
 have S1 := Lib.hid (show Sl.Sep w w [] from Sl.Sep.start w)
 by_cases hneg : q - (N : Int) < 0
 ·
  skip
  go_enter Tryz.func29, Tryz.ntmps29
  go_wp2_with fail
  go_ret
  exact ⟨by rw [HW.out, lft_neg (by omega)] <;> rfl, Below.refl _ _⟩
 ·
  skip
  go_enter Tryz.func29, Tryz.ntmps29
  go_wp2_with fail
  go_loopw [1, 5] (fun lv i wr => ∃ (k : Nat) (m : Int), k ≤ N ∧ i = .int .i64 k ∧ lv = .int .i64 m ∧ 0 ≤ m ∧ m ≤ 1048576 ∧ Hid (m = q - N - (fsum (fun x => wt_IndexDef (co_IndexDef x)) (xs.take k) : Int) ∧ Sl.Sep w wr [])) (fun _ i _ => N - (intOf i).toNat)
  case atStart => exact ⟨0, q - N, Nat.zero_le _, rfl, rfl, by omega, by omega, And.intro (by rw [List.take_zero, fsum_nil]; omega) S1.out⟩
  case round =>
   obtain ⟨k, m, hk, rfl, rfl, hm0, hm1, hrel⟩ := hrel
   have HA := Lib.hid hrel.out.1
   have S2 := Lib.hid hrel.out.2
   clear hrel S1
   by_cases hlt : (k : Int) < (N : Int)
   ·
    skip
    have hkl : k < xs.length := by have := HN.out; omega
    obtain ⟨x, hx⟩ : ∃ x, xs[k]? = some x := ⟨_, List.getElem?_eq_getElem hkl⟩
    obtain ⟨ad, e'⟩ := el_some cl_IndexDef_len (by decide) (HR.out _ S2.out.old) (List.getElem?_eq_some_iff.1 hx).1
    subst e'
    have HK := Lib.hid (fun w' (h : Below w.heap.size w w') => el2 cl_IndexDef_len (HR.out _ h) hx rfl)
    have HAT := Lib.hid (fsum_at (f := (fun x => wt_IndexDef (co_IndexDef x))) hx)
    have HTK := Lib.hid (fsum_take (f := (fun x => wt_IndexDef (co_IndexDef x))) hx)
    try dsimp only at HAT HTK
    obtain ⟨fx, hfx⟩ : ∃ u, wt_IndexDef (co_IndexDef x) = u := ⟨_, rfl⟩
    rw [hfx] at HAT HTK
    obtain ⟨u, hu⟩ : ∃ u, lft m fx = u := ⟨_, rfl⟩
    have hcu := lft_cases hu
    have hru := lft_range (q := m) fx (by omega)
    rw [hu] at hru
    have HSI := fun w' => sz_IndexDef x m (HWD.out x (List.mem_of_getElem? hx)) (by omega) hm1 w'
    rw [hfx, hu] at HSI
    dsimp only [vv_IndexDef] at HSI
    replace HSI := Lib.hid HSI
    clear hfx hu hx
    obtain ⟨f0, f1⟩ := HK.out _ S2.out.old
    go_wp2_with fail
    go_at_call 61
    refine (HSI.out _).mono ?_
    rintro e w1 ⟨rfl, hb⟩
    clear f0 f1
    have S3 := Lib.hid (S2.out.keep hb)
    clear S2
    clear hb
    by_cases h0 : u < 0
    ·
     have hm1' : u = -1 := by omega
     subst hm1'
     go_wp2_with fail
     go_ret
     exact ⟨by rw [HW.out, lft_neg (by have := HA.out; have := HAT.out; omega)] <;> rfl, S3.out.old⟩
    ·
     skip
     go_wp2_with fail
     go_roundw
     case rel => exact ⟨k + 1, u, by omega, by go_num, rfl, by omega, by omega, And.intro (by rw [HTK.out]; have := HA.out; omega) S3.out⟩
     case measure => simp [intOf]; omega
   ·
    skip
    obtain rfl : k = N := by omega
    have HT := HA.out
    rw [List.take_of_length_le (Nat.le_of_eq HN.out.symm)] at HT
    go_wp2_with fail
    go_ret
    exact ⟨by rw [HW.out, lft_pos (by omega)] <;> first | rfl | (refine congrArg (fun i => Ending.returned (.int .i64 i)) ?_; omega), S2.out.old⟩
set_option maxHeartbeats 4000000 in
theorem eq_IndexDef (z : X_IndexDef) (w : World) : Calls Tryz.prog 77 #[vv_IndexDef z, vv_IndexDef z] w fun e w' => e = .returned (.bool true) ∧ Below w.heap.size w w' := by
 unfold vv_IndexDef
 have S1 := Lib.hid (show Sl.Sep w _ [_, _] from L4.push_box (L4.push_box (Sl.Sep.start w) 73 #[.string z.f_Store, .string z.f_Field] (w.heap.size) (by simp)) 73 #[.string z.f_Store, .string z.f_Field] (w.heap.size + 1) (by simp))
 obtain ⟨wa, hwa⟩ : ∃ u, u = ((w.alloc (.cells #[.string z.f_Store, .string z.f_Field] 73)).alloc (.cells #[.string z.f_Store, .string z.f_Field] 73)) := ⟨_, rfl⟩
 rw [← hwa] at S1
 go_enter Tryz.func77, Tryz.ntmps77
 go_upto_region 1 with fail
 rw [← hwa]
 clear hwa
 obtain ⟨f0, f1⟩ := Bag.cs2 S1.out 0 rfl
 obtain ⟨f2, f3⟩ := Bag.cs2 S1.out 1 rfl
 go_wp2_with fail
 go_ret
 exact ⟨rfl, S1.out.old⟩
set_option maxHeartbeats 4000000 in
theorem eq_IndexDefS (a a2 : Option Addr) (c c2 : Nat) (xs xs2 : List X_IndexDef) (hc : coS_IndexDef xs = coS_IndexDef xs2) (hf : wsum wt_IndexDef (coS_IndexDef xs) ≤ 1125899906842624) (w : World) (hr : Reads w w.heap.size a (xs.flatMap cl_IndexDef)) (hx : RowsRd w w.heap.size (rws_IndexDef xs)) (hr2 : Reads w w.heap.size a2 (xs2.flatMap cl_IndexDef)) (hx2 : RowsRd w w.heap.size (rws_IndexDef xs2)) :
  Calls Tryz.prog 41 #[.slice a xs.length c, .slice a2 xs2.length c2] w fun e w' => e = .returned (.bool true) ∧ Below w.heap.size w w' := by
 have hlen : xs2.length = xs.length := by have h := congrArg List.length hc; rw [coS_IndexDef_eq, coS_IndexDef_eq, List.length_map, List.length_map] at h; exact h.symm
 have hl : xs.length ≤ 1125899906842624 := by have := wsum_len wt_IndexDef (coS_IndexDef xs); rw [coS_IndexDef_eq, List.length_map] at this; rw [coS_IndexDef_eq] at hf; omega
 have HR := Lib.hid (fun w' (h : Below w.heap.size w w') => hr.below h)
 have HR2 := Lib.hid (fun w' (h : Below w.heap.size w w') => hr2.below h)
 have HX := Lib.hid (fun w' (h : Below w.heap.size w w') => (hx.below h).more h.size)
 have HX2 := Lib.hid (fun w' (h : Below w.heap.size w w') => (hx2.below h).more h.size)
 rw [coS_IndexDef_eq] at hf
 have HF := Lib.hid hf
 have HS := Lib.hid (show xs.map co_IndexDef = xs2.map co_IndexDef from by rw [← coS_IndexDef_eq, ← coS_IndexDef_eq]; exact hc)
 obtain ⟨N, hN⟩ : ∃ n, n = xs.length := ⟨_, rfl⟩
 rw [hlen, ← hN]
 rw [← hN] at hl
 have hl' : (N : Int) ≤ 1125899906842624 := by omega
 have HN := Lib.hid hN
 clear hN hr hr2 hx hx2 hf hc hlen
 have S1 := Lib.hid (show Sl.Sep w w [] from Sl.Sep.start w)
 go_enter Tryz.func41, Tryz.ntmps41
 go_wp2_with fail
 go_loopw [5] (fun i wr => ∃ k : Nat, k ≤ N ∧ i = .int .i64 k ∧ Hid (Sl.Sep w wr [])) (fun i _ => N - (intOf i).toNat)
 case atStart => exact ⟨0, Nat.zero_le _, rfl, S1.out⟩
 case round =>
  obtain ⟨k, hk, rfl, hrel⟩ := hrel
  have S2 := Lib.hid hrel.out
  clear hrel S1
  by_cases hlt : (k : Int) < (N : Int)
  ·
   skip
   have hkl : k < xs.length := by have := HN.out; omega
   obtain ⟨x, hx⟩ : ∃ x, xs[k]? = some x := ⟨_, List.getElem?_eq_getElem hkl⟩
   obtain ⟨ad, e'⟩ := el_some cl_IndexDef_len (by decide) (HR.out _ S2.out.old) (List.getElem?_eq_some_iff.1 hx).1
   subst e'
   have HK := Lib.hid (fun w' (h : Below w.heap.size w w') => el2 cl_IndexDef_len (HR.out _ h) hx rfl)
   obtain ⟨x2, hx2, hcx⟩ := map_same HS.out hx
   obtain ⟨ad2, e'⟩ := el_some cl_IndexDef_len (by decide) (HR2.out _ S2.out.old) (List.getElem?_eq_some_iff.1 hx2).1
   subst e'
   have HK2 := Lib.hid (fun w' (h : Below w.heap.size w w') => el2 cl_IndexDef_len (HR2.out _ h) hx2 rfl)
   have hxx : x2 = x := hcx
   rw [hxx] at HK2
   have HEQ := Lib.hid (fun w' => eq_IndexDef x w')
   clear hcx hxx
   try dsimp only [vv_IndexDef] at HEQ
   clear hx hx2
   go_upto_region 6 with fail
   refine wp_region_held_drew (S := (fun w' => (w'.cell? (ad.add (k * 2)) = some (.string x.f_Store) ∧ w'.cell? (⟨(ad.add (k * 2)).block, (ad.add (k * 2)).off + 1, none⟩) = some (.string x.f_Field)) ∧ (w'.cell? (ad2.add (k * 2)) = some (.string x.f_Store) ∧ w'.cell? (⟨(ad2.add (k * 2)).block, (ad2.add (k * 2)).off + 1, none⟩) = some (.string x.f_Field)))) (by kernel_rfl) ⟨HK.out _ (Bag.drew1 S2.out).old, HK2.out _ (Bag.drew1 S2.out).old⟩ (fun hS => ?_)
   have S3 := Lib.hid (Bag.drew1 S2.out)
   clear S2
   generalize World.drew _ = w1 at hS S3 ⊢
   refine tk 0 rfl ?_
   try simp only [zp0, zp1, zp2, zp3, zp4]
   refine tk 1 rfl ?_
   try simp only [zp0, zp1, zp2, zp3, zp4]
   refine tk 2 rfl ?_
   try simp only [zp0, zp1, zp2, zp3, zp4]
   refine tk 3 rfl ?_
   try simp only [zp0, zp1, zp2, zp3, zp4]
   refine tk 4 rfl ?_
   try simp only [zp0, zp1, zp2, zp3, zp4]
   refine tk 5 rfl ?_
   try simp only [zp0, zp1, zp2, zp3, zp4]
   refine tk 6 rfl ?_
   try simp only [zp0, zp1, zp2, zp3, zp4]
   refine tk 7 rfl ?_
   try simp only [zp0, zp1, zp2, zp3, zp4]
   refine Reg.one_op (i := 8) rfl (by kernel_rfl) (fun K hK => ?_)
   go_simp
   go_at_call 77
   refine (HEQ.out _).mono ?_
   rintro e w2 ⟨rfl, hb⟩
   have S4 := Lib.hid (S3.out.keep hb)
   clear S3
   clear hb
   go_wp2_with fail
   refine hK.out _ _ ⟨HK.out _ S4.out.old, HK2.out _ S4.out.old⟩ (fun hS => ?_)
   clear hK K
   try simp only [zp0, zp1, zp2, zp3, zp4]
   refine tk 9 rfl ?_
   try simp only [zp0, zp1, zp2, zp3, zp4]
   refine wpAnyH_done (by kernel_rfl) ?_ _
   obtain ⟨f0, f1⟩ := HK.out _ S4.out.old
   obtain ⟨f2, f3⟩ := HK2.out _ S4.out.old
   go_wp2_with fail
   go_roundw
   case rel => exact ⟨k + 1, by omega, by go_num, S4.out⟩
   case measure => simp [intOf]; omega
  ·
   skip
   go_wp2_with fail
   go_ret
   exact ⟨rfl, S2.out.old⟩
def em_IndexDef (k : Int) (z : X_IndexDef) : X_IndexDef := ⟨markT k, markT (k + 1)⟩
def cnt_IndexDef (z : X_IndexDef) : Nat := 1 + (1)
theorem cntS_IndexDef (z : X_IndexDef) : cnt_IndexDef z ≤ 64 * (wt_IndexDef (co_IndexDef z) + 1) := by
 have hw : wt_IndexDef (co_IndexDef z) = z.f_Store.size + (z.f_Field.size) := by rfl
 unfold cnt_IndexDef
 omega
theorem em_IndexDef_fp (k : Int) (z : X_IndexDef) : (rw_IndexDef (em_IndexDef k z)).flatMap RowS.fp = (rw_IndexDef z).flatMap RowS.fp := rfl
theorem rs_IndexDef_fp (a : Option Addr) (c : Nat) (xs : List X_IndexDef) (k : Int) : (rs_IndexDef a c (mks em_IndexDef cnt_IndexDef k xs)).flatMap RowS.fp = (rs_IndexDef a c xs).flatMap RowS.fp := by
 unfold rs_IndexDef
 rw [List.flatMap_cons, List.flatMap_cons, rws_IndexDef_eq, rws_IndexDef_eq, mks_fp em_IndexDef_fp]
 congr 1
 unfold row_IndexDef RowS.fp
 cases a <;> rfl
set_option maxHeartbeats 8000000 in
theorem mark_IndexDefS_sep (a : Option Addr) (c : Nat) (xs : List X_IndexDef) (k : Int) (W w : World) (S : Sl.Sep W w [bag (rs_IndexDef a c xs), Run.restL W w (bag (rs_IndexDef a c xs)).fp]) (hf : wsum wt_IndexDef (coS_IndexDef xs) ≤ 1125899906842624) (hk0 : 0 < k) (hk1 : k + (fsum cnt_IndexDef xs : Int) ≤ 2305843009213693952) :
  Calls Tryz.prog 43 #[.slice a xs.length c, .int .i64 k] w fun e w' => e = .returned (.int .i64 (k + (fsum cnt_IndexDef xs : Int))) ∧ Sl.Sep W w' [bag (rs_IndexDef a c (mks em_IndexDef cnt_IndexDef k xs)), Run.restL W w (bag (rs_IndexDef a c xs)).fp] := by
 have HF := Lib.hid hf
 have hl : xs.length ≤ 1125899906842624 := by have := wsum_len wt_IndexDef (coS_IndexDef xs); rw [coS_IndexDef_eq, List.length_map] at this; rw [coS_IndexDef_eq] at hf; omega
 clear hf
 obtain ⟨fps, hfps⟩ : ∃ f, f = (bag (rs_IndexDef a c xs)).fp := ⟨_, rfl⟩
 rw [← hfps] at S ⊢
 clear hfps
 rcases (S.is 0 _ rfl).own (row_IndexDef a c xs) (List.mem_cons_self ..) |>.form with ⟨ha, hn0, -, hc0⟩ | ⟨g, hg, -, -, hnc, -⟩
 ·
  have ha' : a = none := ha
  have hc' : c = 0 := hc0
  have hx : xs = [] := List.eq_nil_of_length_eq_zero hn0
  subst hx
  have H := Lib.hid S
  clear S HF hk1
  go_enter Tryz.func43, Tryz.ntmps43
  go_wp2_with fail
  refine wp_loop_rounds 1 ?_
  rw [rounds_succ]
  go_wp2_with fail
  go_ret
  exact ⟨by rw [fsum_nil]; first | rfl | (refine congrArg (fun i => Ending.returned (.int .i64 i)) ?_; omega), H.out⟩
 have hg' : a = some ⟨g, 0, none⟩ := hg
 subst hg'
 obtain ⟨N, hN⟩ : ∃ n, n = xs.length := ⟨_, rfl⟩
 rw [← hN] at hl ⊢
 have hl' : (N : Int) ≤ 1125899906842624 := by omega
 have HN := Lib.hid hN
 have HK1 := Lib.hid hk1
 have hk2 : k ≤ 2305843009213693952 := by omega
 have S1 := Lib.hid S
 clear hg hN S hnc hk1
 have S2 := Lib.hid (show Sl.Sep W _ [Bag.bag ([row_IndexDef (some ⟨g, 0, none⟩) c xs] ++ rws_IndexDef xs), Run.restL W w fps] from S1.out)
 clear S1
 have S3 := Lib.hid (show Sl.Sep W _ [Bag.bag ([row_IndexDef (some ⟨g, 0, none⟩) c xs]), _, Bag.bag (rws_IndexDef xs)] from Bag.bag_split S2.out 0 rfl)
 clear S2
 have S4 := Lib.hid (show Sl.Sep W _ [Sv.ownV 73 2 (some ⟨g, 0, none⟩) c N ((mks em_IndexDef cnt_IndexDef k [] ++ xs.drop 0).flatMap cl_IndexDef), _, _] from (by have h := Bag.one_of_bag S3.out 0 (r := row_IndexDef (some ⟨g, 0, none⟩) c xs) rfl; unfold RowS.res row_IndexDef at h; dsimp only at h; rw [← HN.out] at h; exact h))
 clear S3
 have S5 := Lib.hid (show Sl.Sep W _ [Sv.ownV 73 2 (some ⟨g, 0, none⟩) c N ((mks em_IndexDef cnt_IndexDef k [] ++ xs.drop 0).flatMap cl_IndexDef), Bag.bag (rws_IndexDef (mks em_IndexDef cnt_IndexDef k []) ++ rws_IndexDef (xs.drop 0)), Run.restL W w fps] from Bag.take (by have h := S4.out; rw [show rws_IndexDef xs = rws_IndexDef (mks em_IndexDef cnt_IndexDef k []) ++ rws_IndexDef (xs.drop 0) from by rw [← rws_IndexDef_app]; rfl] at h; exact h) [0, 2, 1] (by rfl) (by decide))
 clear S4
 go_enter Tryz.func43, Tryz.ntmps43
 go_wp2_with fail
 go_loopw [1, 5] (fun v i wr => ∃ (j : Nat) (m : Int), j ≤ N ∧ i = .int .i64 j ∧ v = .int .i64 m ∧ k ≤ m ∧ m ≤ 2305843009213693952 ∧ Hid (m = k + (fsum cnt_IndexDef (xs.take j) : Int) ∧ Sl.Sep W wr [Sv.ownV 73 2 (some ⟨g, 0, none⟩) c N (((mks em_IndexDef cnt_IndexDef k (xs.take j)) ++ xs.drop j).flatMap cl_IndexDef), Bag.bag (rws_IndexDef (mks em_IndexDef cnt_IndexDef k (xs.take j)) ++ rws_IndexDef (xs.drop j)), Run.restL W w fps])) (fun _ i _ => N - (intOf i).toNat)
 case atStart => exact ⟨0, k, Nat.zero_le _, rfl, rfl, by omega, by omega, And.intro (by rw [List.take_zero, fsum_nil]; omega) S5.out⟩
 case round =>
  obtain ⟨j, m, hj, rfl, rfl, hm0, hm1, hrel⟩ := hrel
  have HM := Lib.hid hrel.out.1
  have S6 := Lib.hid hrel.out.2
  clear hrel S5
  by_cases hlt : (j : Int) < (N : Int)
  ·
   skip
   have hjl : j < xs.length := by have := HN.out; omega
   obtain ⟨x, hx⟩ : ∃ x, xs[j]? = some x := ⟨_, List.getElem?_eq_getElem hjl⟩
   have HFT := Lib.hid (fsum_take (f := cnt_IndexDef) hx)
   have hfa := fsum_at (f := cnt_IndexDef) hx
   have hcx : cnt_IndexDef x = 1 + (1) := rfl
   have HMN := Lib.hid (show (mks em_IndexDef cnt_IndexDef k (xs.take (j + 1))) = (mks em_IndexDef cnt_IndexDef k (xs.take j)) ++ [em_IndexDef m x] from by rw [mks_next em_IndexDef cnt_IndexDef k hx, ← HM.out])
   have HDR := Lib.hid (drop_next hx)
   have hwm : wt_IndexDef (co_IndexDef x) + 1 ≤ 1125899906842624 := by have h1 := wsum_mem (f := wt_IndexDef) (List.mem_map.2 ⟨x, List.mem_of_getElem? hx, rfl⟩ : co_IndexDef x ∈ xs.map co_IndexDef); have h2 := HF.out; rw [coS_IndexDef_eq] at h2; omega
   clear hwm hx
   have hmc : m + (cnt_IndexDef x : Int) ≤ 2305843009213693952 := by have := HM.out; have := HK1.out; omega
   have HCX := Lib.hid hcx
   have hcx' : (cnt_IndexDef x : Int) = 1 + 1 := by omega
   rw [hcx'] at hmc
   clear hcx' hcx hfa
   obtain ⟨m1', hm⟩ : ∃ u : Int, u = m + 1 := ⟨_, rfl⟩
   have bd0 : 0 < m1' ∧ m1' ≤ 2305843009213693952 := by omega
   have bl0 : m ≤ m1' := by omega
   have HM1 := Lib.hid hm
   have hme1 := hm
   clear hm
   obtain ⟨m2', hm⟩ : ∃ u : Int, u = m1' + 1 := ⟨_, rfl⟩
   have bd1 : 0 < m2' ∧ m2' ≤ 2305843009213693952 := by omega
   have bl1 : m1' ≤ m2' := by omega
   have HM2 := Lib.hid hm
   have hme2 := hm
   clear hm
   clear hmc hme1 hme2
   have HDL := Lib.hid (show ((mks em_IndexDef cnt_IndexDef k (xs.take j)).flatMap cl_IndexDef).length = j * 2 by rw [flat_len cl_IndexDef_len, mks_len, List.length_take, Nat.min_eq_left (by omega)])
   obtain ⟨R0, hR0⟩ : ∃ R0, R0 = (xs.drop (j + 1)).flatMap cl_IndexDef := ⟨_, rfl⟩
   obtain ⟨D0, hD0⟩ : ∃ D0, D0 = (mks em_IndexDef cnt_IndexDef k (xs.take j)).flatMap cl_IndexDef := ⟨_, rfl⟩
   have HR0 := Lib.hid hR0
   have HD0 := Lib.hid hD0
   rw [← hD0] at HDL
   clear hR0 hD0
   have S7 := Lib.hid (show Sl.Sep W _ [Sv.ownV 73 2 (some ⟨g, 0, none⟩) c N (D0 ++ (.string x.f_Store :: .string x.f_Field :: R0)), Bag.bag (rws_IndexDef (mks em_IndexDef cnt_IndexDef k (xs.take j)) ++ rws_IndexDef (xs.drop j)), Run.restL W w fps] from (by have h := S6.out; rw [show ((mks em_IndexDef cnt_IndexDef k (xs.take j)) ++ xs.drop j).flatMap cl_IndexDef = D0 ++ (.string x.f_Store :: .string x.f_Field :: R0) from by rw [List.flatMap_append, HDR.out, List.flatMap_cons, ← HR0.out, ← HD0.out]; rfl] at h; exact h))
   clear S6
   have HMT := Lib.hid (fun w' => L5.markText_any m (by omega) (by omega) w')
   have q0 : World.cell? wr ⟨g, j * 2, none⟩ = some (.string x.f_Store) := by rw [(Sv.own_at S7.out 0 rfl).cell (j * 2) (by rw [List.length_append, HDL.out]; simp <;> omega)]; simp [List.getElem_append, HDL.out]
   have z0 := (Sv.own_at S7.out 0 rfl).free (j * 2)
   go_wp2_with fail
   go_at_call 48
   refine (HMT.out _).mono ?_
   rintro e w1 ⟨rfl, hb⟩
   clear q0 z0
   have S8 := Lib.hid (S7.out.keep hb)
   clear S7
   clear hb
   clear HMT
   have q0 : World.cell? w1 ⟨g, j * 2, none⟩ = some (.string x.f_Store) := by rw [(Sv.own_at S8.out 0 rfl).cell (j * 2) (by rw [List.length_append, HDL.out]; simp <;> omega)]; simp [List.getElem_append, HDL.out]
   have z0 := (Sv.own_at S8.out 0 rfl).free (j * 2)
   go_upto_region 6 with fail
   try simp only [← HM1.out]
   clear q0 z0
   have HOV := Lib.hid (show Run.over (D0 ++ (.string x.f_Store :: .string x.f_Field :: R0)) (j * 2) [.string (markT m)] = D0 ++ (.string (markT m) :: .string x.f_Field :: R0) from by rw [show D0 ++ (.string x.f_Store :: .string x.f_Field :: R0) = D0 ++ ([.string x.f_Store] ++ (.string x.f_Field :: R0)) from by simp, Run.over_mid D0 (.string x.f_Field :: R0) [.string (markT m)] [.string x.f_Store] (j * 2) (by simp [HDL.out]) rfl]; simp)
   have S9 := Lib.hid (show Sl.Sep W (w1.setCell ⟨g, j * 2, none⟩ (.string (markT m))) [Sv.ownV 73 2 (some ⟨g, 0, none⟩) c N (D0 ++ (.string (markT m) :: .string x.f_Field :: R0)), Bag.bag (rws_IndexDef (mks em_IndexDef cnt_IndexDef k (xs.take j)) ++ rws_IndexDef (xs.drop j)), Run.restL W w fps] from (by have h := Run.put_run S8.out 0 rfl (j * 2) [.string (markT m)] (by rw [List.length_append, HDL.out]; simp <;> omega); rw [HOV.out] at h; exact h))
   clear S8
   clear HOV
   generalize (w1.setCell ⟨g, j * 2, none⟩ (.string (markT m))) = w2 at S9 ⊢
   have HMT := Lib.hid (fun w' => L5.markText_any m1' (by omega) (by omega) w')
   go_wp2_with fail
   go_at_call 48
   refine (HMT.out _).mono ?_
   rintro e w3 ⟨rfl, hb⟩
   have S10 := Lib.hid (S9.out.keep hb)
   clear S9
   clear hb
   clear HMT
   have q1 : World.cell? w3 ⟨g, j * 2 + 1, none⟩ = some (.string x.f_Field) := by rw [(Sv.own_at S10.out 0 rfl).cell (j * 2 + 1) (by rw [List.length_append, HDL.out]; simp <;> omega)]; simp [List.getElem_append, HDL.out]
   have z1 := (Sv.own_at S10.out 0 rfl).free (j * 2 + 1)
   go_wp2_with fail
   try simp only [← HM2.out]
   clear q1 z1
   have HOV := Lib.hid (show Run.over (D0 ++ (.string (markT m) :: .string x.f_Field :: R0)) (j * 2 + 1) [.string (markT m1')] = D0 ++ (.string (markT m) :: .string (markT m1') :: R0) from by rw [show D0 ++ (.string (markT m) :: .string x.f_Field :: R0) = (D0 ++ ([.string (markT m)] : List Value)) ++ ([.string x.f_Field] ++ (R0)) from by simp, Run.over_mid (D0 ++ ([.string (markT m)] : List Value)) (R0) [.string (markT m1')] [.string x.f_Field] (j * 2 + 1) (by simp [HDL.out]) rfl]; simp)
   have S11 := Lib.hid (show Sl.Sep W (w3.setCell ⟨g, j * 2 + 1, none⟩ (.string (markT m1'))) [Sv.ownV 73 2 (some ⟨g, 0, none⟩) c N (D0 ++ (.string (markT m) :: .string (markT m1') :: R0)), Bag.bag (rws_IndexDef (mks em_IndexDef cnt_IndexDef k (xs.take j)) ++ rws_IndexDef (xs.drop j)), Run.restL W w fps] from (by have h := Run.put_run S10.out 0 rfl (j * 2 + 1) [.string (markT m1')] (by rw [List.length_append, HDL.out]; simp <;> omega); rw [HOV.out] at h; exact h))
   clear S10
   clear HOV
   generalize (w3.setCell ⟨g, j * 2 + 1, none⟩ (.string (markT m1'))) = w4 at S11 ⊢
   have S12 := Lib.hid (show Sl.Sep W _ [_, Bag.bag (rws_IndexDef (mks em_IndexDef cnt_IndexDef k (xs.take (j + 1))) ++ rws_IndexDef (xs.drop (j + 1))), _] from S11.out)
   clear S11
   have HROW := Lib.hid (show ((mks em_IndexDef cnt_IndexDef k (xs.take (j + 1))) ++ xs.drop (j + 1)).flatMap cl_IndexDef = D0 ++ (.string (markT m) :: .string (markT m1') :: R0) from by rw [HMN.out, List.flatMap_append, List.flatMap_append, ← HR0.out, ← HD0.out, List.append_assoc, List.flatMap_cons, List.flatMap_nil, List.append_nil]; simp only [HM2.out, HM1.out]; unfold cl_IndexDef em_IndexDef; rfl)
   have S13 := Lib.hid (show Sl.Sep W _ [Sv.ownV 73 2 (some ⟨g, 0, none⟩) c N (((mks em_IndexDef cnt_IndexDef k (xs.take (j + 1))) ++ xs.drop (j + 1)).flatMap cl_IndexDef), _, _] from (by rw [HROW.out]; exact S12.out))
   clear S12
   go_roundw
   case rel => exact ⟨j + 1, m2', by omega, by go_num, by first | rfl | go_num, by omega, by omega, And.intro (by have h1 := HFT.out; have h2 := HCX.out; have h3 := HM.out; have := HM1.out; have := HM2.out; omega) S13.out⟩
   case measure => simp [intOf]; omega
  ·
   skip
   obtain rfl : j = N := by omega
   have hT : xs.take j = xs := List.take_of_length_le (by have := HN.out; omega)
   have hD : xs.drop j = [] := List.drop_of_length_le (by have := HN.out; omega)
   have HT := Lib.hid hT
   have HD := Lib.hid hD
   clear hT hD
   have S7 := Lib.hid (show Sl.Sep W _ [Sv.ownV 73 2 (some ⟨g, 0, none⟩) c j ((mks em_IndexDef cnt_IndexDef k xs).flatMap cl_IndexDef), Bag.bag (rws_IndexDef (mks em_IndexDef cnt_IndexDef k xs)), Run.restL W w fps] from (by have h := S6.out; rw [HT.out, HD.out, List.append_nil, ← rws_IndexDef_app, List.append_nil] at h; exact h))
   clear S6
   have S8 := Lib.hid (show Sl.Sep W _ [Bag.bag ([row_IndexDef (some ⟨g, 0, none⟩) c (mks em_IndexDef cnt_IndexDef k xs)]), _, _] from Bag.bag_of_one S7.out 0 (r := row_IndexDef (some ⟨g, 0, none⟩) c (mks em_IndexDef cnt_IndexDef k xs)) (by unfold RowS.res row_IndexDef; dsimp only; rw [mks_len, ← HN.out]; rfl))
   clear S7
   have S9 := Lib.hid (show Sl.Sep W _ [Bag.bag ([row_IndexDef (some ⟨g, 0, none⟩) c (mks em_IndexDef cnt_IndexDef k xs)] ++ (rws_IndexDef (mks em_IndexDef cnt_IndexDef k xs))), Bag.bag ([]), _] from Bag.bag_join S8.out 0 1 (by decide) rfl rfl)
   clear S8
   have S10 := Lib.hid (show Sl.Sep W _ [_, _] from Bag.take S9.out [0, 2] (by rfl) (by decide))
   clear S9
   go_wp2_with fail
   go_ret
   exact ⟨by have h := HM.out; rw [HT.out] at h; rw [← h] <;> rfl, S10.out⟩
theorem mark_IndexDefS {W w : World} {rs : List Res} (h : Sl.Sep W w rs) (i : Nat) {a : Option Addr} {c : Nat} {xs : List X_IndexDef} (hi : rs[i]? = some (bag (rs_IndexDef a c xs))) (k : Int) (hf : wsum wt_IndexDef (coS_IndexDef xs) ≤ 1125899906842624) (hk0 : 0 < k) (hk1 : k + (fsum cnt_IndexDef xs : Int) ≤ 2305843009213693952) :
  Calls Tryz.prog 43 #[.slice a xs.length c, .int .i64 k] w fun e w' => e = .returned (.int .i64 (k + (fsum cnt_IndexDef xs : Int))) ∧ Sl.Sep W w' (rs.set i (bag (rs_IndexDef a c (mks em_IndexDef cnt_IndexDef k xs)))) :=
 (mark_IndexDefS_sep a c xs k W w (Run.restL_start h i hi) hf hk0 hk1).mono fun _ _ ⟨he, hs⟩ => ⟨he, Run.restL_back h i hi hs (rs_IndexDef_fp a c xs k)⟩
set_option maxHeartbeats 8000000 in
theorem held_IndexDefS (a : Option Addr) (c : Nat) (xs : List X_IndexDef) (k : Int) (hf : wsum wt_IndexDef (coS_IndexDef xs) ≤ 1125899906842624) (hk0 : 0 < k) (hk1 : k + (fsum cnt_IndexDef xs : Int) ≤ 2305843009213693952) (w : World) (hr : Reads w w.heap.size a ((mks em_IndexDef cnt_IndexDef k xs).flatMap cl_IndexDef)) (hx : RowsRd w w.heap.size (rws_IndexDef (mks em_IndexDef cnt_IndexDef k xs))) :
  Calls Tryz.prog 45 #[.slice a xs.length c, .int .i64 k] w fun e w' => e = .returned (.int .i64 (k + (fsum cnt_IndexDef xs : Int))) ∧ Below w.heap.size w w' := by
 have HF := Lib.hid hf
 have hl : xs.length ≤ 1125899906842624 := by have := wsum_len wt_IndexDef (coS_IndexDef xs); rw [coS_IndexDef_eq, List.length_map] at this; rw [coS_IndexDef_eq] at hf; omega
 clear hf
 have HR := Lib.hid (fun w' (h : Below w.heap.size w w') => hr.below h)
 have HX := Lib.hid (fun w' (h : Below w.heap.size w w') => (hx.below h).more h.size)
 obtain ⟨N, hN⟩ : ∃ n, n = xs.length := ⟨_, rfl⟩
 rw [← hN] at hl ⊢
 have hl' : (N : Int) ≤ 1125899906842624 := by omega
 have HN := Lib.hid hN
 have HK1 := Lib.hid hk1
 have hk2 : k ≤ 2305843009213693952 := by omega
 clear hN hr hx hk1
 have S1 := Lib.hid (show Sl.Sep w w [] from Sl.Sep.start w)
 go_enter Tryz.func45, Tryz.ntmps45
 go_wp2_with fail
 go_loopw [1, 5] (fun v i wr => ∃ (j : Nat) (m : Int), j ≤ N ∧ i = .int .i64 j ∧ v = .int .i64 m ∧ k ≤ m ∧ m ≤ 2305843009213693952 ∧ Hid (m = k + (fsum cnt_IndexDef (xs.take j) : Int) ∧ Sl.Sep w wr [])) (fun _ i _ => N - (intOf i).toNat)
 case atStart => exact ⟨0, k, Nat.zero_le _, rfl, rfl, by omega, by omega, And.intro (by rw [List.take_zero, fsum_nil]; omega) S1.out⟩
 case round =>
  obtain ⟨j, m, hj, rfl, rfl, hm0, hm1, hrel⟩ := hrel
  have HM := Lib.hid hrel.out.1
  have S2 := Lib.hid hrel.out.2
  clear hrel S1
  by_cases hlt : (j : Int) < (N : Int)
  ·
   skip
   have hjl : j < xs.length := by have := HN.out; omega
   obtain ⟨x, hx⟩ : ∃ x, xs[j]? = some x := ⟨_, List.getElem?_eq_getElem hjl⟩
   have HFT := Lib.hid (fsum_take (f := cnt_IndexDef) hx)
   have hfa := fsum_at (f := cnt_IndexDef) hx
   have hcx : cnt_IndexDef x = 1 + (1) := rfl
   have hmx : (mks em_IndexDef cnt_IndexDef k xs)[j]? = some (em_IndexDef m x) := by rw [mks_at em_IndexDef cnt_IndexDef k hx, ← HM.out]
   obtain ⟨ad, e'⟩ := el_some cl_IndexDef_len (by decide) (HR.out _ S2.out.old) (List.getElem?_eq_some_iff.1 hmx).1
   subst e'
   have HK := fun w' (h : Below w.heap.size w w') => el2 cl_IndexDef_len (HR.out _ h) hmx rfl
   dsimp only [em_IndexDef] at HK
   have hwm : wt_IndexDef (co_IndexDef x) + 1 ≤ 1125899906842624 := by have h1 := wsum_mem (f := wt_IndexDef) (List.mem_map.2 ⟨x, List.mem_of_getElem? hx, rfl⟩ : co_IndexDef x ∈ xs.map co_IndexDef); have h2 := HF.out; rw [coS_IndexDef_eq] at h2; omega
   clear hwm
   have hmc : m + (cnt_IndexDef x : Int) ≤ 2305843009213693952 := by have := HM.out; have := HK1.out; omega
   have HCX := Lib.hid hcx
   have hcx' : (cnt_IndexDef x : Int) = 1 + 1 := by omega
   rw [hcx'] at hmc
   clear hcx' hcx hfa
   obtain ⟨m1', hm⟩ : ∃ u : Int, u = m + 1 := ⟨_, rfl⟩
   have bd0 : 0 < m1' ∧ m1' ≤ 2305843009213693952 := by omega
   have bl0 : m ≤ m1' := by omega
   have HM1 := Lib.hid hm
   have hme1 := hm
   clear hm
   obtain ⟨m2', hm⟩ : ∃ u : Int, u = m1' + 1 := ⟨_, rfl⟩
   have bd1 : 0 < m2' ∧ m2' ≤ 2305843009213693952 := by omega
   have bl1 : m1' ≤ m2' := by omega
   have HM2 := Lib.hid hm
   have hme2 := hm
   clear hm
   try simp only [mks_len] at HK
   try simp only [← hme1] at HK 
   try simp only [← hme2] at HK 
   obtain ⟨tt0, htt⟩ : ∃ t, markT m = t := ⟨_, rfl⟩
   have HMT0 := fun w' => L5.markText_any m (by omega) (by omega) w'
   rw [htt] at HMT0
   simp only [htt] at HK
   replace HMT0 := Lib.hid HMT0
   clear htt
   obtain ⟨tt1, htt⟩ : ∃ t, markT m1' = t := ⟨_, rfl⟩
   have HMT1 := fun w' => L5.markText_any m1' (by omega) (by omega) w'
   rw [htt] at HMT1
   simp only [htt] at HK
   replace HMT1 := Lib.hid HMT1
   clear htt
   replace HK := Lib.hid HK
   clear hmx hx hme1 hme2 hmc
   obtain ⟨f0, f1⟩ := HK.out _ S2.out.old
   go_upto_region 4 with fail
   clear f0 f1
   refine wp_region_held_drew (S := (fun w' => (w'.cell? (ad.add (j * 2)) = some (.string tt0) ∧ w'.cell? (⟨(ad.add (j * 2)).block, (ad.add (j * 2)).off + 1, none⟩) = some (.string tt1)))) (by kernel_rfl) (HK.out _ (Bag.drew1 S2.out).old) (fun hS => ?_)
   have S3 := Lib.hid (Bag.drew1 S2.out)
   clear S2
   generalize World.drew _ = w1 at hS S3 ⊢
   refine tk 0 rfl ?_
   try simp only [zp0, zp1, zp2, zp3, zp4]
   refine tk 1 rfl ?_
   try simp only [zp0, zp1, zp2, zp3, zp4]
   refine tk 2 rfl ?_
   try simp only [zp0, zp1, zp2, zp3, zp4]
   refine tk 3 rfl ?_
   try simp only [zp0, zp1, zp2, zp3, zp4]
   refine tk 4 rfl ?_
   try simp only [zp0, zp1, zp2, zp3, zp4]
   refine tk 5 rfl ?_
   try simp only [zp0, zp1, zp2, zp3, zp4]
   refine Reg.one_op (i := 6) rfl (by kernel_rfl) (fun K hK => ?_)
   go_simp
   go_at_call 48
   refine (HMT0.out _).mono ?_
   rintro e w2 ⟨rfl, hb⟩
   have S4 := Lib.hid (S3.out.keep hb)
   clear S3
   clear hb
   go_wp2_with fail
   refine hK.out _ _ (HK.out _ S4.out.old) (fun hS => ?_)
   clear hK K
   try simp only [zp0, zp1, zp2, zp3, zp4]
   refine tk 7 rfl ?_
   try simp only [zp0, zp1, zp2, zp3, zp4]
   refine wpAnyH_done (by kernel_rfl) ?_ _
   obtain ⟨f0, f1⟩ := HK.out _ S4.out.old
   go_upto_region 7 with fail
   try simp only [← HM1.out]
   clear f0 f1
   refine wp_region_held_drew (S := (fun w' => (w'.cell? (ad.add (j * 2)) = some (.string tt0) ∧ w'.cell? (⟨(ad.add (j * 2)).block, (ad.add (j * 2)).off + 1, none⟩) = some (.string tt1)))) (by kernel_rfl) (HK.out _ (Bag.drew1 S4.out).old) (fun hS => ?_)
   have S5 := Lib.hid (Bag.drew1 S4.out)
   clear S4
   generalize World.drew _ = w3 at hS S5 ⊢
   refine tk 0 rfl ?_
   try simp only [zp0, zp1, zp2, zp3, zp4]
   refine tk 1 rfl ?_
   try simp only [zp0, zp1, zp2, zp3, zp4]
   refine tk 2 rfl ?_
   try simp only [zp0, zp1, zp2, zp3, zp4]
   refine tk 3 rfl ?_
   try simp only [zp0, zp1, zp2, zp3, zp4]
   refine tk 4 rfl ?_
   try simp only [zp0, zp1, zp2, zp3, zp4]
   refine tk 5 rfl ?_
   try simp only [zp0, zp1, zp2, zp3, zp4]
   refine Reg.one_op (i := 6) rfl (by kernel_rfl) (fun K hK => ?_)
   go_simp
   go_at_call 48
   refine (HMT1.out _).mono ?_
   rintro e w4 ⟨rfl, hb⟩
   have S6 := Lib.hid (S5.out.keep hb)
   clear S5
   clear hb
   go_wp2_with fail
   refine hK.out _ _ (HK.out _ S6.out.old) (fun hS => ?_)
   clear hK K
   try simp only [zp0, zp1, zp2, zp3, zp4]
   refine tk 7 rfl ?_
   try simp only [zp0, zp1, zp2, zp3, zp4]
   refine wpAnyH_done (by kernel_rfl) ?_ _
   obtain ⟨f0, f1⟩ := HK.out _ S6.out.old
   go_wp2_with fail
   try simp only [← HM2.out]
   go_roundw
   case rel => exact ⟨j + 1, m2', by omega, by go_num, by first | rfl | go_num, by omega, by omega, And.intro (by have h1 := HFT.out; have h2 := HCX.out; have h3 := HM.out; have := HM1.out; have := HM2.out; omega) S6.out⟩
   case measure => simp [intOf]; omega
  ·
   skip
   obtain rfl : j = N := by omega
   have hT : xs.take j = xs := List.take_of_length_le (by have := HN.out; omega)
   have HT := Lib.hid hT
   clear hT
   go_wp2_with fail
   go_ret
   exact ⟨by have h := HM.out; rw [HT.out] at h; rw [← h] <;> rfl, S2.out.old⟩
end Go.Proofs.YthljdhfgphebnaaGreat.V

namespace Go.Proofs.YthljdhfgphebnaaGreat.V
open Go.ChangeShapes Go.WideShapes Go.ChangeAt Go.RowKit Mem Sl Sv Bag
open L5 (markT)
structure X_Database where
 f_Name : ByteArray
 f_Version : Int
 f_Stores : List L6.S6
 f_Unique : List X_IndexDef
structure Y_Database where
 f_Name : ByteArray
 f_Version : Int
 f_Stores_a : Option Addr
 f_Stores_c : Nat
 f_Stores : List L6.LS
 f_Unique_a : Option Addr
 f_Unique_c : Nat
 f_Unique : List X_IndexDef
def co_Database (z : Y_Database) : X_Database := ⟨z.f_Name, z.f_Version, coS_Store z.f_Stores, coS_IndexDef z.f_Unique⟩
def cl_Database (z : Y_Database) : List Value := [.string z.f_Name, .int .i64 z.f_Version, .slice z.f_Stores_a z.f_Stores.length z.f_Stores_c, .slice z.f_Unique_a z.f_Unique.length z.f_Unique_c]
def cs_Database (z : Y_Database) : Array Value := #[.string z.f_Name, .int .i64 z.f_Version, .slice z.f_Stores_a z.f_Stores.length z.f_Stores_c, .slice z.f_Unique_a z.f_Unique.length z.f_Unique_c]
def cz_Database : Array Value := #[.string ⟨#[]⟩, .int .i64 0, .slice none 0 0, .slice none 0 0]
def vv_Database (z : Y_Database) : Value := .agg #[.string z.f_Name, .int .i64 z.f_Version, .slice z.f_Stores_a z.f_Stores.length z.f_Stores_c, .slice z.f_Unique_a z.f_Unique.length z.f_Unique_c]
def rw_Database (z : Y_Database) : List RowS := rs_Store z.f_Stores_a z.f_Stores_c z.f_Stores ++ (rs_IndexDef z.f_Unique_a z.f_Unique_c z.f_Unique)
def wt_Database (c : X_Database) : Nat := c.f_Name.size + (wsum wt_Store c.f_Stores + (wsum wt_IndexDef c.f_Unique))
theorem wt_Database_parts (z : Y_Database) : wt_Database (co_Database z) = z.f_Name.size + (wsum wt_Store (coS_Store z.f_Stores) + (wsum wt_IndexDef (coS_IndexDef z.f_Unique))) := rfl
def Wide_Database (z : Y_Database) : Prop := z.f_Name.size ≤ maxLen ∧ (-9223372036854775808 ≤ z.f_Version ∧ z.f_Version ≤ 9223372036854775807) ∧ (z.f_Stores.length ≤ maxLen ∧ ∀ x ∈ z.f_Stores, Wide_Store x) ∧ (z.f_Unique.length ≤ maxLen ∧ ∀ x ∈ z.f_Unique, Wide_IndexDef x)
section
variable {H : Type} {enc : TypeId × Value → H} {W : World} {b : Nat} {sp : Nat → Bool} {hd : Bool}
theorem trod_Database {fuel : Nat} {cs : List Value} {x : DataW H × List MemPlace} (h : DataW.trod enc Tryz.prog W b sp hd fuel 25 cs = some x) (hlt : ∀ p ∈ x.2, p.block < W.heap.size) : ∃ z : Y_Database, cs = cl_Database z ∧ RowsRd W W.heap.size (rw_Database z) ∧ Wide_Database z := by
 obtain ⟨xs, n, _, hx, hl, hlen, hf⟩ := DataW.trod_struct Tryz.underlying25 h
 have hlN : cs.length = 4 := hl.trans (by kernel_rfl)
 match cs, hlN with
 | [c0, c1, c2, c3], _ =>
  have h0 : DataW.trod enc Tryz.prog W b sp hd n 9 (List.take (Tryz.prog.cellsOf 9) (List.drop 0 [c0, c1, c2, c3])) = xs[0]? := hf 0 _ rfl
  rw [show Tryz.prog.cellsOf 9 = 1 by kernel_rfl, List.getElem?_eq_getElem (by rw [hlen]; decide)] at h0
  obtain ⟨x0, e0, _, w0⟩ := DataW.trod_string Tryz.underlying9 h0
  have h1 : DataW.trod enc Tryz.prog W b sp hd n 3 (List.take (Tryz.prog.cellsOf 3) (List.drop 1 [c0, c1, c2, c3])) = xs[1]? := hf 1 _ rfl
  rw [show Tryz.prog.cellsOf 3 = 1 by kernel_rfl, List.getElem?_eq_getElem (by rw [hlen]; decide)] at h1
  obtain ⟨x1, e1, _, w1⟩ := DataW.trod_int Tryz.underlying3 h1
  have h2 : DataW.trod enc Tryz.prog W b sp hd n 22 (List.take (Tryz.prog.cellsOf 22) (List.drop 2 [c0, c1, c2, c3])) = xs[2]? := hf 2 _ rfl
  rw [show Tryz.prog.cellsOf 22 = 1 by kernel_rfl, List.getElem?_eq_getElem (by rw [hlen]; decide)] at h2
  obtain ⟨a2, x2, c2', e2, r2, v2, l2, w2⟩ := trods_Store h2 (fun p hp => hlt p (by rw [hx]; exact List.mem_flatMap.2 ⟨_, List.getElem_mem (show 2 < xs.length by rw [hlen]; decide), hp⟩))
  have h3 : DataW.trod enc Tryz.prog W b sp hd n 23 (List.take (Tryz.prog.cellsOf 23) (List.drop 3 [c0, c1, c2, c3])) = xs[3]? := hf 3 _ rfl
  rw [show Tryz.prog.cellsOf 23 = 1 by kernel_rfl, List.getElem?_eq_getElem (by rw [hlen]; decide)] at h3
  obtain ⟨a3, x3, c3', e3, r3, v3, l3, w3⟩ := trods_IndexDef h3 (fun p hp => hlt p (by rw [hx]; exact List.mem_flatMap.2 ⟨_, List.getElem_mem (show 3 < xs.length by rw [hlen]; decide), hp⟩))
  simp only [List.drop_succ_cons, List.drop_zero, List.take_succ_cons, List.take_zero, List.cons.injEq, and_true] at e0
  subst e0
  simp only [List.drop_succ_cons, List.drop_zero, List.take_succ_cons, List.take_zero, List.cons.injEq, and_true] at e1
  subst e1
  simp only [List.drop_succ_cons, List.drop_zero, List.take_succ_cons, List.take_zero, List.cons.injEq, and_true] at e2
  subst e2
  simp only [List.drop_succ_cons, List.drop_zero, List.take_succ_cons, List.take_zero, List.cons.injEq, and_true] at e3
  subst e3
  exact ⟨⟨x0, x1, a2, c2', x2, a3, c3', x3⟩, rfl, rd_app (rd_cons ⟨r2.1, r2.2.1, r2.2.2⟩ (by rw [rws_Store_eq]; exact v2)) (rd_cons ⟨r3.1, r3.2.1, r3.2.2⟩ (by rw [rws_IndexDef_eq]; exact v3)), ⟨w0, Law.wf_i64 w1, ⟨l2, w2⟩, ⟨l3, w3⟩⟩⟩
theorem open_Database {b0 : Nat} {v : Value} {d : DataW H} {ps : List MemPlace} (hval : Value.okWide Tryz.prog W .any b0 25 v) (h0 : DataW.Trod enc Tryz.prog W b sp hd 25 v d ps) (hlt : ∀ p ∈ ps, p.block < W.heap.size) : ∃ z : Y_Database, v = vv_Database z ∧ RowsRd W W.heap.size (rw_Database z) ∧ Wide_Database z := by
 obtain ⟨cs, rfl, _⟩ := okWide_struct Tryz.underlying25 hval
 obtain ⟨fuel, hf0⟩ := h0
 obtain ⟨z, e, h1, h2⟩ := trod_Database hf0 hlt
 obtain ⟨l⟩ := cs
 exact ⟨z, by rw [show l = cl_Database z from e]; rfl, h1, h2⟩
end
set_option maxHeartbeats 4000000 in
theorem to_Database (z : Y_Database) (hf : wt_Database (co_Database z) ≤ 1048576) (w : World) (hr : RowsRd w w.heap.size (rw_Database z)) : Calls Tryz.prog 9 #[vv_Database z] w fun e w' => ∃ y : Y_Database, e = .returned (vv_Database y) ∧ co_Database y = co_Database z ∧ BagOwn w' w.heap.size (rw_Database y) ∧ Below w.heap.size w w' := by
 have hfp := hf
 rw [wt_Database_parts] at hfp
 have HC2 := Lib.hid (fun w' (h : Below w.heap.size w w') => to_StoreS z.f_Stores_a z.f_Stores_c z.f_Stores (by omega) w' (((rd_head (rd_left hr)).reads.below h).more h.size) (((rd_tail (rd_left hr)).below h).more h.size))
 have HC3 := Lib.hid (fun w' (h : Below w.heap.size w w') => to_IndexDefS z.f_Unique_a z.f_Unique_c z.f_Unique (by omega) w' (((rd_head (rd_right hr)).reads.below h).more h.size) (((rd_tail (rd_right hr)).below h).more h.size))
 clear hfp hf hr
 unfold vv_Database
 have S1 := Lib.hid (show Sl.Sep w _ [_, _] from L4.push_box (L4.push_box (Sl.Sep.start w) 25 #[.string z.f_Name, .int .i64 z.f_Version, .slice z.f_Stores_a z.f_Stores.length z.f_Stores_c, .slice z.f_Unique_a z.f_Unique.length z.f_Unique_c] (w.heap.size) (by simp)) 33 #[.string ⟨#[]⟩, .int .i64 0, .slice none 0 0, .slice none 0 0] (w.heap.size + 1) (by simp))
 obtain ⟨wa, hwa⟩ : ∃ u, u = ((w.alloc (.cells #[.string z.f_Name, .int .i64 z.f_Version, .slice z.f_Stores_a z.f_Stores.length z.f_Stores_c, .slice z.f_Unique_a z.f_Unique.length z.f_Unique_c] 25)).alloc (.cells #[.string ⟨#[]⟩, .int .i64 0, .slice none 0 0, .slice none 0 0] 33)) := ⟨_, rfl⟩
 rw [← hwa] at S1
 go_enter Tryz.func9, Tryz.ntmps9
 go_upto_region 1 with fail
 rw [← hwa]
 clear hwa
 go_upto_region 2 with fail
 have S2 := Lib.hid (show Sl.Sep w _ [_, _, _] from L4.push_box S1.out 33 #[.string ⟨#[]⟩, .int .i64 0, .slice none 0 0, .slice none 0 0] wa.heap.size rfl)
 clear S1
 obtain ⟨g1, hg⟩ : ∃ g', g' = wa.heap.size := ⟨_, rfl⟩
 rw [← hg] at S2 ⊢
 clear hg
 generalize wa.alloc (.cells #[.string ⟨#[]⟩, .int .i64 0, .slice none 0 0, .slice none 0 0] 33) = w1 at S2 ⊢
 obtain ⟨f0, f1, f2, f3⟩ := Bag.cs4 S2.out 0 rfl
 obtain ⟨f4, f5, f6, f7⟩ := Bag.cs4 S2.out 2 rfl
 have z0 := Bag.free_at S2.out 2 rfl 0
 go_upto_region 3 with fail
 clear f0 f1 f2 f3 f4 f5 f6 f7 z0
 have S3 := Lib.hid (show Sl.Sep w _ [_, _, L4.boxR g1 33 #[.string z.f_Name, .int .i64 0, .slice none 0 0, .slice none 0 0]] from L5.put_box5 (S2.out) 2 rfl 0 (.string z.f_Name))
 clear S2
 obtain ⟨f0, f1, f2, f3⟩ := Bag.cs4 S3.out 0 rfl
 obtain ⟨f4, f5, f6, f7⟩ := Bag.cs4 S3.out 2 rfl
 have z1 := Bag.free_at S3.out 2 rfl 1
 go_upto_region 4 with fail
 clear f0 f1 f2 f3 f4 f5 f6 f7 z1
 have S4 := Lib.hid (show Sl.Sep w _ [_, _, L4.boxR g1 33 #[.string z.f_Name, .int .i64 z.f_Version, .slice none 0 0, .slice none 0 0]] from L5.put_box5 (S3.out) 2 rfl 1 (.int .i64 z.f_Version))
 clear S3
 obtain ⟨f0, f1, f2, f3⟩ := Bag.cs4 S4.out 0 rfl
 go_wp2_with fail
 go_at_call 35
 refine (HC2.out _ S4.out.old).mono ?_
 rintro e w2 ⟨a2', c2', y2, rfl, hc2, ho, hb⟩
 clear f0 f1 f2 f3
 have S5 := Lib.hid (show Sl.Sep w _ [_, _, _, Bag.bag (rs_Store a2' c2' y2)] from Bag.push_bag S4.out hb ho)
 clear S4
 clear hb ho
 have HQ2 := Lib.hid hc2
 clear hc2
 obtain ⟨f0, f1, f2, f3⟩ := Bag.cs4 S5.out 0 rfl
 obtain ⟨f4, f5, f6, f7⟩ := Bag.cs4 S5.out 2 rfl
 have z2 := Bag.free_at S5.out 2 rfl 2
 go_upto_region 5 with fail
 clear f0 f1 f2 f3 f4 f5 f6 f7 z2
 have S6 := Lib.hid (show Sl.Sep w _ [_, _, L4.boxR g1 33 #[.string z.f_Name, .int .i64 z.f_Version, .slice a2' y2.length c2', .slice none 0 0], _] from L5.put_box5 (S5.out) 2 rfl 2 (.slice a2' y2.length c2'))
 clear S5
 obtain ⟨f0, f1, f2, f3⟩ := Bag.cs4 S6.out 0 rfl
 go_wp2_with fail
 go_at_call 36
 refine (HC3.out _ S6.out.old).mono ?_
 rintro e w3 ⟨a3', c3', y3, rfl, hc3, ho, hb⟩
 clear f0 f1 f2 f3
 have S7 := Lib.hid (show Sl.Sep w _ [_, _, _, _, Bag.bag (rs_IndexDef a3' c3' y3)] from Bag.push_bag S6.out hb ho)
 clear S6
 clear hb ho
 have HQ3 := Lib.hid hc3
 clear hc3
 obtain ⟨f0, f1, f2, f3⟩ := Bag.cs4 S7.out 0 rfl
 obtain ⟨f4, f5, f6, f7⟩ := Bag.cs4 S7.out 2 rfl
 have z3 := Bag.free_at S7.out 2 rfl 3
 go_upto_region 6 with fail
 clear f0 f1 f2 f3 f4 f5 f6 f7 z3
 have S8 := Lib.hid (show Sl.Sep w _ [_, _, L4.boxR g1 33 #[.string z.f_Name, .int .i64 z.f_Version, .slice a2' y2.length c2', .slice a3' y3.length c3'], _, _] from L5.put_box5 (S7.out) 2 rfl 3 (.slice a3' y3.length c3'))
 clear S7
 obtain ⟨f0, f1, f2, f3⟩ := Bag.cs4 S8.out 1 rfl
 obtain ⟨f4, f5, f6, f7⟩ := Bag.cs4 S8.out 2 rfl
 obtain ⟨z0, z1, z2, z3⟩ := Bag.fs4 S8.out 1 rfl
 go_wp2_with fail
 clear f0 f1 f2 f3 f4 f5 f6 f7 z0 z1 z2 z3
 have S9 := Lib.hid (show Sl.Sep w _ [_, L4.boxR (w.heap.size + 1) 33 #[.string z.f_Name, .int .i64 z.f_Version, .slice a2' y2.length c2', .slice a3' y3.length c3'], _, _, _] from L5.put_box5 (L5.put_box5 (L5.put_box5 (L5.put_box5 (S8.out) 1 rfl 0 (.string z.f_Name)) 1 rfl 1 (.int .i64 z.f_Version)) 1 rfl 2 (.slice a2' y2.length c2')) 1 rfl 3 (.slice a3' y3.length c3'))
 clear S8
 obtain ⟨f0, f1, f2, f3⟩ := Bag.cs4 S9.out 1 rfl
 refine bodyPost_ret (v := .agg #[.string z.f_Name, .int .i64 z.f_Version, .slice a2' y2.length c2', .slice a3' y3.length c3']) (by simp [results, Tryz.results9, go_sem, *]) rfl ?_
 clear f0 f1 f2 f3
 have S10 := Lib.hid (show Sl.Sep w _ [_, _, _, Bag.bag ((rs_Store a2' c2' y2) ++ (rs_IndexDef a3' c3' y3)), Bag.bag ([])] from Bag.bag_join S9.out 3 4 (by decide) rfl rfl)
 clear S9
 refine ⟨⟨z.f_Name, z.f_Version, a2', c2', y2, a3', c3', y3⟩, rfl, ?_, Bag.bag_from S10.out 3 rfl, S10.out.old⟩
 show (⟨z.f_Name, z.f_Version, coS_Store y2, coS_IndexDef y3⟩ : X_Database) = (⟨z.f_Name, z.f_Version, coS_Store z.f_Stores, coS_IndexDef z.f_Unique⟩ : X_Database)
 rw [HQ2.out, HQ3.out]
set_option maxHeartbeats 4000000 in
theorem sz_Database (z : Y_Database) (q : Int) (hw : Wide_Database z) (hq0 : -1 ≤ q) (hq1 : q ≤ 1048576) (w : World) (hr : RowsRd w w.heap.size (rw_Database z)) : Calls Tryz.prog 6 #[vv_Database z, .int .i64 q] w fun e w' => e = .returned (.int .i64 (lft q (wt_Database (co_Database z)))) ∧ Below w.heap.size w w' := by
 have hs0 : (z.f_Name.size : Int) ≤ 9223372036854775807 := by have h : z.f_Name.size ≤ maxLen := hw.1; unfold maxLen at h; omega
 have HS2 := Lib.hid (fun (m : Int) (h0 : -1 ≤ m) (h1 : m ≤ 1048576) w' (h : Below w.heap.size w w') => sz_StoreS z.f_Stores_a z.f_Stores_c z.f_Stores m hw.2.2.1.2 hw.2.2.1.1 h0 h1 w' (((rd_head (rd_left hr)).reads.below h).more h.size) (((rd_tail (rd_left hr)).below h).more h.size))
 have HS3 := Lib.hid (fun (m : Int) (h0 : -1 ≤ m) (h1 : m ≤ 1048576) w' (h : Below w.heap.size w w') => sz_IndexDefS z.f_Unique_a z.f_Unique_c z.f_Unique m hw.2.2.2.2 hw.2.2.2.1 h0 h1 w' (((rd_head (rd_right hr)).reads.below h).more h.size) (((rd_tail (rd_right hr)).below h).more h.size))
 have HW := Lib.hid (wt_Database_parts z)
 clear hw hr
 unfold vv_Database
 have S1 := Lib.hid (show Sl.Sep w _ [_] from L4.push_box (Sl.Sep.start w) 25 #[.string z.f_Name, .int .i64 z.f_Version, .slice z.f_Stores_a z.f_Stores.length z.f_Stores_c, .slice z.f_Unique_a z.f_Unique.length z.f_Unique_c] (w.heap.size) (by simp))
 obtain ⟨wa, hwa⟩ : ∃ u, u = (w.alloc (.cells #[.string z.f_Name, .int .i64 z.f_Version, .slice z.f_Stores_a z.f_Stores.length z.f_Stores_c, .slice z.f_Unique_a z.f_Unique.length z.f_Unique_c] 25)) := ⟨_, rfl⟩
 rw [← hwa] at S1
 go_enter Tryz.func6, Tryz.ntmps6
 go_upto_region 1 with fail
 rw [← hwa]
 clear hwa
 obtain ⟨f0, f1, f2, f3⟩ := Bag.cs4 S1.out 0 rfl
 by_cases hn0 : q - (z.f_Name.size : Int) < 0
 ·
  skip
  go_wp2_with fail
  go_ret
  exact ⟨by rw [HW.out, lft_neg (by omega)] <;> rfl, S1.out.old⟩
 ·
  skip
  obtain ⟨u2, hu⟩ : ∃ u, lft (q - (z.f_Name.size : Int)) (wsum wt_Store (coS_Store z.f_Stores)) = u := ⟨_, rfl⟩
  have hc2 := lft_cases hu
  have hr2 := lft_range (q := (q - (z.f_Name.size : Int))) (wsum wt_Store (coS_Store z.f_Stores)) (by omega)
  rw [hu] at hr2
  have HCU := HS2.out (q - (z.f_Name.size : Int)) (by omega) (by omega)
  simp only [hu] at HCU
  replace HCU := Lib.hid HCU
  clear hu
  go_wp2_with fail
  go_at_call 28
  refine (HCU.out _ S1.out.old).mono ?_
  rintro e w1 ⟨rfl, hb⟩
  clear f0 f1 f2 f3
  have S2 := Lib.hid (S1.out.keep hb)
  clear S1
  clear hb
  obtain ⟨f0, f1, f2, f3⟩ := Bag.cs4 S2.out 0 rfl
  clear HCU
  by_cases hn2 : u2 < 0
  ·
   have hm1 : u2 = -1 := by omega
   subst hm1
   go_wp2_with fail
   go_ret
   exact ⟨by rw [HW.out, lft_neg (by omega)] <;> rfl, S2.out.old⟩
  ·
   skip
   obtain ⟨u3, hu⟩ : ∃ u, lft u2 (wsum wt_IndexDef (coS_IndexDef z.f_Unique)) = u := ⟨_, rfl⟩
   have hc3 := lft_cases hu
   have hr3 := lft_range (q := u2) (wsum wt_IndexDef (coS_IndexDef z.f_Unique)) (by omega)
   rw [hu] at hr3
   have HCU := HS3.out u2 (by omega) (by omega)
   simp only [hu] at HCU
   replace HCU := Lib.hid HCU
   clear hu
   go_wp2_with fail
   go_at_call 29
   refine (HCU.out _ S2.out.old).mono ?_
   rintro e w2 ⟨rfl, hb⟩
   clear f0 f1 f2 f3
   have S3 := Lib.hid (S2.out.keep hb)
   clear S2
   clear hb
   obtain ⟨f0, f1, f2, f3⟩ := Bag.cs4 S3.out 0 rfl
   clear HCU
   by_cases hn3 : u3 < 0
   ·
    have hm1 : u3 = -1 := by omega
    subst hm1
    go_wp2_with fail
    go_ret
    exact ⟨by rw [HW.out, lft_neg (by omega)] <;> rfl, S3.out.old⟩
   ·
    skip
    go_wp2_with fail
    go_ret
    exact ⟨by rw [HW.out, lft_pos (by omega)] <;> first | rfl | (refine congrArg (fun i => Ending.returned (.int .i64 i)) ?_; omega), S3.out.old⟩
set_option maxHeartbeats 4000000 in
theorem eq_Database (y z : Y_Database) (hc : co_Database y = co_Database z) (hf : wt_Database (co_Database y) ≤ 1125899906842624) (w : World) (hr : RowsRd w w.heap.size (rw_Database y)) (hr2 : RowsRd w w.heap.size (rw_Database z)) : Calls Tryz.prog 12 #[vv_Database y, vv_Database z] w fun e w' => e = .returned (.bool true) ∧ Below w.heap.size w w' := by
 have hfp := hf
 rw [wt_Database_parts] at hfp
 have ee0 : z.f_Name = y.f_Name := (show y.f_Name = z.f_Name from congrArg X_Database.f_Name (hc)).symm
 have ee1 : z.f_Version = y.f_Version := (show y.f_Version = z.f_Version from congrArg X_Database.f_Version (hc)).symm
 have ee2 : z.f_Stores.length = y.f_Stores.length := (by have h := congrArg List.length (show coS_Store y.f_Stores = coS_Store z.f_Stores from congrArg X_Database.f_Stores (hc)); rw [coS_Store_eq, coS_Store_eq, List.length_map, List.length_map] at h; exact h.symm)
 have ee3 : z.f_Unique.length = y.f_Unique.length := (by have h := congrArg List.length (show coS_IndexDef y.f_Unique = coS_IndexDef z.f_Unique from congrArg X_Database.f_Unique (hc)); rw [coS_IndexDef_eq, coS_IndexDef_eq, List.length_map, List.length_map] at h; exact h.symm)
 have HE2 := Lib.hid (fun w' (h : Below w.heap.size w w') => eq_StoreS y.f_Stores_a z.f_Stores_a y.f_Stores_c z.f_Stores_c y.f_Stores z.f_Stores (congrArg X_Database.f_Stores hc) (by omega) w' (((rd_head (rd_left hr)).reads.below h).more h.size) (((rd_tail (rd_left hr)).below h).more h.size) (((rd_head (rd_left hr2)).reads.below h).more h.size) (((rd_tail (rd_left hr2)).below h).more h.size))
 simp only [ee0, ee1, ee2, ee3] at HE2
 have HE3 := Lib.hid (fun w' (h : Below w.heap.size w w') => eq_IndexDefS y.f_Unique_a z.f_Unique_a y.f_Unique_c z.f_Unique_c y.f_Unique z.f_Unique (congrArg X_Database.f_Unique hc) (by omega) w' (((rd_head (rd_right hr)).reads.below h).more h.size) (((rd_tail (rd_right hr)).below h).more h.size) (((rd_head (rd_right hr2)).reads.below h).more h.size) (((rd_tail (rd_right hr2)).below h).more h.size))
 simp only [ee0, ee1, ee2, ee3] at HE3
 have hv : vv_Database z = .agg #[.string y.f_Name, .int .i64 y.f_Version, .slice z.f_Stores_a y.f_Stores.length z.f_Stores_c, .slice z.f_Unique_a y.f_Unique.length z.f_Unique_c] := by unfold vv_Database; simp only [ee0, ee1, ee2, ee3]
 rw [hv]
 clear hv hfp hf hc hr hr2 ee0 ee1 ee2 ee3
 unfold vv_Database
 have S1 := Lib.hid (show Sl.Sep w _ [_, _] from L4.push_box (L4.push_box (Sl.Sep.start w) 33 #[.string y.f_Name, .int .i64 y.f_Version, .slice y.f_Stores_a y.f_Stores.length y.f_Stores_c, .slice y.f_Unique_a y.f_Unique.length y.f_Unique_c] (w.heap.size) (by simp)) 33 #[.string y.f_Name, .int .i64 y.f_Version, .slice z.f_Stores_a y.f_Stores.length z.f_Stores_c, .slice z.f_Unique_a y.f_Unique.length z.f_Unique_c] (w.heap.size + 1) (by simp))
 obtain ⟨wa, hwa⟩ : ∃ u, u = ((w.alloc (.cells #[.string y.f_Name, .int .i64 y.f_Version, .slice y.f_Stores_a y.f_Stores.length y.f_Stores_c, .slice y.f_Unique_a y.f_Unique.length y.f_Unique_c] 33)).alloc (.cells #[.string y.f_Name, .int .i64 y.f_Version, .slice z.f_Stores_a y.f_Stores.length z.f_Stores_c, .slice z.f_Unique_a y.f_Unique.length z.f_Unique_c] 33)) := ⟨_, rfl⟩
 rw [← hwa] at S1
 go_enter Tryz.func12, Tryz.ntmps12
 go_upto_region 1 with fail
 rw [← hwa]
 clear hwa
 obtain ⟨f0, f1, f2, f3⟩ := Bag.cs4 S1.out 0 rfl
 obtain ⟨f4, f5, f6, f7⟩ := Bag.cs4 S1.out 1 rfl
 go_wp2_with fail
 go_at_call 40
 refine (HE2.out _ S1.out.old).mono ?_
 rintro e w1 ⟨rfl, hb⟩
 clear f0 f1 f2 f3 f4 f5 f6 f7
 have S2 := Lib.hid (S1.out.keep hb)
 clear S1
 clear hb
 obtain ⟨f0, f1, f2, f3⟩ := Bag.cs4 S2.out 0 rfl
 obtain ⟨f4, f5, f6, f7⟩ := Bag.cs4 S2.out 1 rfl
 go_wp2_with fail
 go_at_call 41
 refine (HE3.out _ S2.out.old).mono ?_
 rintro e w2 ⟨rfl, hb⟩
 clear f0 f1 f2 f3 f4 f5 f6 f7
 have S3 := Lib.hid (S2.out.keep hb)
 clear S2
 clear hb
 obtain ⟨f0, f1, f2, f3⟩ := Bag.cs4 S3.out 0 rfl
 obtain ⟨f4, f5, f6, f7⟩ := Bag.cs4 S3.out 1 rfl
 go_wp2_with fail
 go_ret
 exact ⟨rfl, S3.out.old⟩
def cnt_Database (z : Y_Database) : Nat := 1 + (1 + (fsum cnt_Store z.f_Stores + (fsum cnt_IndexDef z.f_Unique)))
theorem cntS_Database (z : Y_Database) : cnt_Database z ≤ 64 * (wt_Database (co_Database z) + 1) := by
 have h2 := cnt_sum cntS_Store z.f_Stores
 have h3 := cnt_sum cntS_IndexDef z.f_Unique
 have hw : wt_Database (co_Database z) = z.f_Name.size + (wsum wt_Store (coS_Store z.f_Stores) + (wsum wt_IndexDef (coS_IndexDef z.f_Unique))) := by rfl
 rw [← coS_Store_eq] at h2
 rw [← coS_IndexDef_eq] at h3
 unfold cnt_Database
 omega
def md_Database (k : Int) (z : Y_Database) : Y_Database := ⟨z.f_Name, z.f_Version, z.f_Stores_a, z.f_Stores_c, (mks em_Store cnt_Store k z.f_Stores), z.f_Unique_a, z.f_Unique_c, (mks em_IndexDef cnt_IndexDef (k + (fsum cnt_Store z.f_Stores : Int)) z.f_Unique)⟩
def ct_Database (z : Y_Database) : Nat := fsum cnt_Store z.f_Stores + (fsum cnt_IndexDef z.f_Unique)
theorem ctS_Database (z : Y_Database) : ct_Database z ≤ 64 * (wt_Database (co_Database z) + 1) := by
 have h : ct_Database z ≤ cnt_Database z := by unfold ct_Database cnt_Database; omega
 exact Nat.le_trans h (cntS_Database z)
theorem rw_Database_fp (k : Int) (z : Y_Database) : (bag (rw_Database (md_Database k z))).fp = (bag (rw_Database z)).fp := by
 show (rs_Store z.f_Stores_a z.f_Stores_c (mks em_Store cnt_Store k z.f_Stores) ++ (rs_IndexDef z.f_Unique_a z.f_Unique_c (mks em_IndexDef cnt_IndexDef (k + (fsum cnt_Store z.f_Stores : Int)) z.f_Unique))).flatMap RowS.fp = (rs_Store z.f_Stores_a z.f_Stores_c z.f_Stores ++ (rs_IndexDef z.f_Unique_a z.f_Unique_c z.f_Unique)).flatMap RowS.fp
 simp only [List.flatMap_append, rs_IndexDef_fp, rs_Store_fp]
set_option maxHeartbeats 8000000 in
theorem mark_Database_sep (z : Y_Database) (k : Int) (W w : World) (S : Sl.Sep W w [bag (rw_Database z), Run.restL W w (bag (rw_Database z)).fp]) (hf : wt_Database (co_Database z) ≤ 1125899906842624) (hk0 : 0 < k) (hk1 : k + (ct_Database z : Int) ≤ 2305843009213693952) :
  Calls Tryz.prog 13 #[vv_Database z, .int .i64 k] w fun e w' => e = .returned (.int .i64 (k + (ct_Database z : Int))) ∧ Sl.Sep W w' [bag (rw_Database (md_Database k z)), Run.restL W w (bag (rw_Database z)).fp] := by
 have hct : ct_Database z = fsum cnt_Store z.f_Stores + (fsum cnt_IndexDef z.f_Unique) := rfl
 rw [wt_Database_parts] at hf
 have HFW0 := Lib.hid (show wsum wt_Store (coS_Store z.f_Stores) ≤ 1125899906842624 from by omega)
 obtain ⟨s0, hs0⟩ : ∃ u, u = fsum cnt_Store z.f_Stores := ⟨_, rfl⟩
 have HFW1 := Lib.hid (show wsum wt_IndexDef (coS_IndexDef z.f_Unique) ≤ 1125899906842624 from by omega)
 obtain ⟨s1, hs1⟩ : ∃ u, u = fsum cnt_IndexDef z.f_Unique := ⟨_, rfl⟩
 rw [← hs0, ← hs1] at hct
 obtain ⟨m1', hm1⟩ : ∃ u : Int, u = k + (s0 : Int) := ⟨_, rfl⟩
 have bd0 : 0 < m1' ∧ m1' ≤ 2305843009213693952 := by omega
 have HM1 := Lib.hid hm1
 have HS0 := Lib.hid hs0
 obtain ⟨m2', hm2⟩ : ∃ u : Int, u = m1' + (s1 : Int) := ⟨_, rfl⟩
 have bd1 : 0 < m2' ∧ m2' ≤ 2305843009213693952 := by omega
 have HM2 := Lib.hid hm2
 have HS1 := Lib.hid hs1
 have HCT := Lib.hid (show k + (ct_Database z : Int) = m2' by omega)
 obtain ⟨fps, hfps⟩ : ∃ f, f = (bag (rw_Database z)).fp := ⟨_, rfl⟩
 rw [← hfps] at S ⊢
 have S1 := Lib.hid S
 clear hf hct hfps S hk1 hs0 hm1 hs1 hm2
 unfold vv_Database
 have S2 := Lib.hid (show Sl.Sep W _ [Bag.bag (rs_Store z.f_Stores_a z.f_Stores_c z.f_Stores ++ (rs_IndexDef z.f_Unique_a z.f_Unique_c z.f_Unique)), Run.restL W w fps] from S1.out)
 clear S1
 have S3 := Lib.hid (show Sl.Sep W _ [Bag.bag (rs_Store z.f_Stores_a z.f_Stores_c z.f_Stores), _, Bag.bag (rs_IndexDef z.f_Unique_a z.f_Unique_c z.f_Unique)] from Bag.bag_split S2.out 0 rfl)
 clear S2
 have S4 := Lib.hid (show Sl.Sep W _ [_, _, _, _] from L4.push_box S3.out 33 #[.string z.f_Name, .int .i64 z.f_Version, .slice z.f_Stores_a z.f_Stores.length z.f_Stores_c, .slice z.f_Unique_a z.f_Unique.length z.f_Unique_c] w.heap.size rfl)
 clear S3
 obtain ⟨wa, hwa⟩ : ∃ u, u = (w.alloc (.cells #[.string z.f_Name, .int .i64 z.f_Version, .slice z.f_Stores_a z.f_Stores.length z.f_Stores_c, .slice z.f_Unique_a z.f_Unique.length z.f_Unique_c] 33)) := ⟨_, rfl⟩
 rw [← hwa] at S4
 go_enter Tryz.func13, Tryz.ntmps13
 go_upto_region 1 with fail
 rw [← hwa]
 clear hwa
 obtain ⟨f0, f1, f2, f3⟩ := Bag.cs4 S4.out 3 rfl
 go_wp2_with fail
 go_at_call 42
 have HC := mark_StoreS S4.out 0 (a := z.f_Stores_a) (c := z.f_Stores_c) (xs := z.f_Stores) rfl k HFW0.out (by omega) (by have := HS0.out; have := bd0.2; have := HM1.out; omega)
 try dsimp only [vv_StoreS] at HC
 rw [← HS0.out, ← HM1.out] at HC
 refine HC.mono ?_
 clear HC
 rintro e w1 ⟨rfl, hS⟩
 clear f0 f1 f2 f3
 have S5 := Lib.hid (show Sl.Sep W _ [Bag.bag (rs_Store z.f_Stores_a z.f_Stores_c (mks em_Store cnt_Store k z.f_Stores)), _, _, _] from hS)
 clear S4
 clear hS
 obtain ⟨f0, f1, f2, f3⟩ := Bag.cs4 S5.out 3 rfl
 go_wp2_with fail
 go_at_call 43
 have HC := mark_IndexDefS S5.out 2 (a := z.f_Unique_a) (c := z.f_Unique_c) (xs := z.f_Unique) rfl m1' HFW1.out (by omega) (by have := HS1.out; have := bd1.2; have := HM2.out; omega)
 try dsimp only [vv_IndexDefS] at HC
 rw [← HS1.out, ← HM2.out] at HC
 refine HC.mono ?_
 clear HC
 rintro e w2 ⟨rfl, hS⟩
 clear f0 f1 f2 f3
 have S6 := Lib.hid (show Sl.Sep W _ [_, _, Bag.bag (rs_IndexDef z.f_Unique_a z.f_Unique_c (mks em_IndexDef cnt_IndexDef m1' z.f_Unique)), _] from hS)
 clear S5
 clear hS
 obtain ⟨f0, f1, f2, f3⟩ := Bag.cs4 S6.out 3 rfl
 clear f0 f1 f2 f3
 have S7 := Lib.hid (show Sl.Sep W _ [Bag.bag ((rs_Store z.f_Stores_a z.f_Stores_c (mks em_Store cnt_Store k z.f_Stores)) ++ (rs_IndexDef z.f_Unique_a z.f_Unique_c (mks em_IndexDef cnt_IndexDef m1' z.f_Unique))), _, Bag.bag ([]), _] from Bag.bag_join S6.out 0 2 (by decide) rfl rfl)
 clear S6
 have HEM := Lib.hid (show rw_Database (md_Database k z) = (rs_Store z.f_Stores_a z.f_Stores_c (mks em_Store cnt_Store k z.f_Stores) ++ (rs_IndexDef z.f_Unique_a z.f_Unique_c (mks em_IndexDef cnt_IndexDef m1' z.f_Unique))) from by first | rfl | (simp only [HM2.out, HM1.out, HS0.out, HS1.out]; rfl))
 have S8 := Lib.hid (show Sl.Sep W _ [Bag.bag (rw_Database (md_Database k z)), _, Bag.bag ([]), _] from (by rw [HEM.out]; exact S7.out))
 clear S7
 have S9 := Lib.hid (show Sl.Sep W _ [_, _] from Bag.take S8.out [0, 1] (by rfl) (by decide))
 clear S8
 go_wp2_with fail
 go_ret
 exact ⟨by rw [HCT.out] <;> rfl, S9.out⟩
theorem mark_Database {W w : World} {rs : List Res} (h : Sl.Sep W w rs) (i : Nat) {z : Y_Database} (hi : rs[i]? = some (bag (rw_Database z))) (k : Int) (hf : wt_Database (co_Database z) ≤ 1125899906842624) (hk0 : 0 < k) (hk1 : k + (ct_Database z : Int) ≤ 2305843009213693952) :
  Calls Tryz.prog 13 #[vv_Database z, .int .i64 k] w fun e w' => e = .returned (.int .i64 (k + (ct_Database z : Int))) ∧ Sl.Sep W w' (rs.set i (bag (rw_Database (md_Database k z)))) :=
 (mark_Database_sep z k W w (Run.restL_start h i hi) hf hk0 hk1).mono fun _ _ ⟨he, hs⟩ => ⟨he, Run.restL_back h i hi hs (rw_Database_fp k z)⟩
set_option maxHeartbeats 4000000 in
theorem held_Database (z : Y_Database) (k : Int) (hf : wt_Database (co_Database z) ≤ 1125899906842624) (hk0 : 0 < k) (hk1 : k + (ct_Database z : Int) ≤ 2305843009213693952) (w : World) (hr : RowsRd w w.heap.size (rw_Database (md_Database k z))) :
  Calls Tryz.prog 14 #[vv_Database z, .int .i64 k] w fun e w' => e = .returned (.int .i64 (k + (ct_Database z : Int))) ∧ Below w.heap.size w w' := by
 have hct : ct_Database z = fsum cnt_Store z.f_Stores + (fsum cnt_IndexDef z.f_Unique) := rfl
 rw [wt_Database_parts] at hf
 have hr' : RowsRd w w.heap.size (rs_Store z.f_Stores_a z.f_Stores_c (mks em_Store cnt_Store k z.f_Stores) ++ (rs_IndexDef z.f_Unique_a z.f_Unique_c (mks em_IndexDef cnt_IndexDef (k + (fsum cnt_Store z.f_Stores : Int)) z.f_Unique))) := hr
 have hp0 : RowsRd w w.heap.size (rs_Store z.f_Stores_a z.f_Stores_c (mks em_Store cnt_Store k z.f_Stores)) := (rd_left hr')
 have hp1 : RowsRd w w.heap.size (rs_IndexDef z.f_Unique_a z.f_Unique_c (mks em_IndexDef cnt_IndexDef (k + (fsum cnt_Store z.f_Stores : Int)) z.f_Unique)) := (rd_right hr')
 have HFW0 := Lib.hid (show wsum wt_Store (coS_Store z.f_Stores) ≤ 1125899906842624 from by omega)
 obtain ⟨s0, hs0⟩ : ∃ u, u = fsum cnt_Store z.f_Stores := ⟨_, rfl⟩
 have HFW1 := Lib.hid (show wsum wt_IndexDef (coS_IndexDef z.f_Unique) ≤ 1125899906842624 from by omega)
 obtain ⟨s1, hs1⟩ : ∃ u, u = fsum cnt_IndexDef z.f_Unique := ⟨_, rfl⟩
 try simp only [← hs0] at hct hp0 hp1
 try simp only [← hs1] at hct hp0 hp1
 obtain ⟨m1', hm1⟩ : ∃ u : Int, u = k + (s0 : Int) := ⟨_, rfl⟩
 have bd0 : 0 < m1' ∧ m1' ≤ 2305843009213693952 := by omega
 have hneg0 : ¬ (m1' < 0) := by omega
 try simp only [← hm1] at hp0 hp1
 obtain ⟨m2', hm2⟩ : ∃ u : Int, u = m1' + (s1 : Int) := ⟨_, rfl⟩
 have bd1 : 0 < m2' ∧ m2' ≤ 2305843009213693952 := by omega
 have hneg1 : ¬ (m2' < 0) := by omega
 try simp only [← hm2] at hp0 hp1
 have HC0 := fun w' (h : Below w.heap.size w w') => held_StoreS z.f_Stores_a z.f_Stores_c z.f_Stores k HFW0.out (by omega) (by have := bd0.2; omega) w' (((rd_head hp0).reads.below h).more h.size) (((rd_tail hp0).below h).more h.size)
 rw [← hs0, ← hm1] at HC0
 replace HC0 := Lib.hid HC0
 have HC1 := fun w' (h : Below w.heap.size w w') => held_IndexDefS z.f_Unique_a z.f_Unique_c z.f_Unique m1' HFW1.out (by omega) (by have := bd1.2; omega) w' (((rd_head hp1).reads.below h).more h.size) (((rd_tail hp1).below h).more h.size)
 rw [← hs1, ← hm2] at HC1
 replace HC1 := Lib.hid HC1
 have HCT := Lib.hid (show k + (ct_Database z : Int) = m2' by omega)
 clear hf hct hr hr' hk1 hs0 hm1 hp0 hs1 hm2 hp1
 unfold vv_Database
 have S1 := Lib.hid (show Sl.Sep w _ [_] from L4.push_box (Sl.Sep.start w) 33 #[.string z.f_Name, .int .i64 z.f_Version, .slice z.f_Stores_a z.f_Stores.length z.f_Stores_c, .slice z.f_Unique_a z.f_Unique.length z.f_Unique_c] (w.heap.size) (by simp))
 obtain ⟨wa, hwa⟩ : ∃ u, u = (w.alloc (.cells #[.string z.f_Name, .int .i64 z.f_Version, .slice z.f_Stores_a z.f_Stores.length z.f_Stores_c, .slice z.f_Unique_a z.f_Unique.length z.f_Unique_c] 33)) := ⟨_, rfl⟩
 rw [← hwa] at S1
 go_enter Tryz.func14, Tryz.ntmps14
 go_upto_region 1 with fail
 rw [← hwa]
 clear hwa
 obtain ⟨f0, f1, f2, f3⟩ := Bag.cs4 S1.out 0 rfl
 go_wp2_with fail
 go_at_call 44
 refine (HC0.out _ S1.out.old).mono ?_
 rintro e w1 ⟨rfl, hb⟩
 clear f0 f1 f2 f3
 have S2 := Lib.hid (S1.out.keep hb)
 clear S1
 clear hb
 obtain ⟨f0, f1, f2, f3⟩ := Bag.cs4 S2.out 0 rfl
 go_wp2_with fail
 go_at_call 45
 refine (HC1.out _ S2.out.old).mono ?_
 rintro e w2 ⟨rfl, hb⟩
 clear f0 f1 f2 f3
 have S3 := Lib.hid (S2.out.keep hb)
 clear S2
 clear hb
 obtain ⟨f0, f1, f2, f3⟩ := Bag.cs4 S3.out 0 rfl
 go_wp2_with fail
 go_ret
 exact ⟨by rw [HCT.out] <;> rfl, S3.out.old⟩
end Go.Proofs.YthljdhfgphebnaaGreat.V

namespace Go.Proofs.YthljdhfgphebnaaGreat.V
open Go.ChangeShapes Go.WideShapes Go.ChangeAt Go.RowKit Mem Sl Sv Bag
open L5 (markT)
structure X_Upgrade where
 f_Kind : Int
 f_Store : ByteArray
 f_Field : ByteArray
def co_Upgrade (z : X_Upgrade) : X_Upgrade := z
def cl_Upgrade (z : X_Upgrade) : List Value := [.int .i64 z.f_Kind, .string z.f_Store, .string z.f_Field]
def cs_Upgrade (z : X_Upgrade) : Array Value := #[.int .i64 z.f_Kind, .string z.f_Store, .string z.f_Field]
def vv_Upgrade (z : X_Upgrade) : Value := .agg #[.int .i64 z.f_Kind, .string z.f_Store, .string z.f_Field]
def rw_Upgrade (z : X_Upgrade) : List RowS := []
def wt_Upgrade (c : X_Upgrade) : Nat := c.f_Store.size + (c.f_Field.size)
theorem wt_Upgrade_parts (z : X_Upgrade) : wt_Upgrade (co_Upgrade z) = z.f_Store.size + (z.f_Field.size) := rfl
def Wide_Upgrade (z : X_Upgrade) : Prop := (-9223372036854775808 ≤ z.f_Kind ∧ z.f_Kind ≤ 9223372036854775807) ∧ z.f_Store.size ≤ maxLen ∧ z.f_Field.size ≤ maxLen
section
variable {H : Type} {enc : TypeId × Value → H} {W : World} {b : Nat} {sp : Nat → Bool} {hd : Bool}
theorem trod_Upgrade {fuel : Nat} {cs : List Value} {x : DataW H × List MemPlace} (h : DataW.trod enc Tryz.prog W b sp hd fuel 27 cs = some x) (hlt : ∀ p ∈ x.2, p.block < W.heap.size) : ∃ z : X_Upgrade, cs = cl_Upgrade z ∧ RowsRd W W.heap.size (rw_Upgrade z) ∧ Wide_Upgrade z := by
 obtain ⟨xs, n, _, hx, hl, hlen, hf⟩ := DataW.trod_struct Tryz.underlying27 h
 have hlN : cs.length = 3 := hl.trans (by kernel_rfl)
 match cs, hlN with
 | [c0, c1, c2], _ =>
  have h0 : DataW.trod enc Tryz.prog W b sp hd n 3 (List.take (Tryz.prog.cellsOf 3) (List.drop 0 [c0, c1, c2])) = xs[0]? := hf 0 _ rfl
  rw [show Tryz.prog.cellsOf 3 = 1 by kernel_rfl, List.getElem?_eq_getElem (by rw [hlen]; decide)] at h0
  obtain ⟨x0, e0, _, w0⟩ := DataW.trod_int Tryz.underlying3 h0
  have h1 : DataW.trod enc Tryz.prog W b sp hd n 9 (List.take (Tryz.prog.cellsOf 9) (List.drop 1 [c0, c1, c2])) = xs[1]? := hf 1 _ rfl
  rw [show Tryz.prog.cellsOf 9 = 1 by kernel_rfl, List.getElem?_eq_getElem (by rw [hlen]; decide)] at h1
  obtain ⟨x1, e1, _, w1⟩ := DataW.trod_string Tryz.underlying9 h1
  have h2 : DataW.trod enc Tryz.prog W b sp hd n 9 (List.take (Tryz.prog.cellsOf 9) (List.drop 2 [c0, c1, c2])) = xs[2]? := hf 2 _ rfl
  rw [show Tryz.prog.cellsOf 9 = 1 by kernel_rfl, List.getElem?_eq_getElem (by rw [hlen]; decide)] at h2
  obtain ⟨x2, e2, _, w2⟩ := DataW.trod_string Tryz.underlying9 h2
  simp only [List.drop_succ_cons, List.drop_zero, List.take_succ_cons, List.take_zero, List.cons.injEq, and_true] at e0
  subst e0
  simp only [List.drop_succ_cons, List.drop_zero, List.take_succ_cons, List.take_zero, List.cons.injEq, and_true] at e1
  subst e1
  simp only [List.drop_succ_cons, List.drop_zero, List.take_succ_cons, List.take_zero, List.cons.injEq, and_true] at e2
  subst e2
  exact ⟨⟨x0, x1, x2⟩, rfl, rd_nil _ _, ⟨Law.wf_i64 w0, w1, w2⟩⟩
theorem open_Upgrade {b0 : Nat} {v : Value} {d : DataW H} {ps : List MemPlace} (hval : Value.okWide Tryz.prog W .any b0 27 v) (h0 : DataW.Trod enc Tryz.prog W b sp hd 27 v d ps) (hlt : ∀ p ∈ ps, p.block < W.heap.size) : ∃ z : X_Upgrade, v = vv_Upgrade z ∧ RowsRd W W.heap.size (rw_Upgrade z) ∧ Wide_Upgrade z := by
 obtain ⟨cs, rfl, _⟩ := okWide_struct Tryz.underlying27 hval
 obtain ⟨fuel, hf0⟩ := h0
 obtain ⟨z, e, h1, h2⟩ := trod_Upgrade hf0 hlt
 obtain ⟨l⟩ := cs
 exact ⟨z, by rw [show l = cl_Upgrade z from e]; rfl, h1, h2⟩
end
set_option maxHeartbeats 4000000 in
theorem to_Upgrade (z : X_Upgrade) (w : World) : Calls Tryz.prog 10 #[vv_Upgrade z] w fun e w' => e = .returned (vv_Upgrade z) ∧ Below w.heap.size w w' := by
 unfold vv_Upgrade
 have S1 := Lib.hid (show Sl.Sep w _ [_, _] from L4.push_box (L4.push_box (Sl.Sep.start w) 27 #[.int .i64 z.f_Kind, .string z.f_Store, .string z.f_Field] (w.heap.size) (by simp)) 37 #[.int .i64 0, .string ⟨#[]⟩, .string ⟨#[]⟩] (w.heap.size + 1) (by simp))
 obtain ⟨wa, hwa⟩ : ∃ u, u = ((w.alloc (.cells #[.int .i64 z.f_Kind, .string z.f_Store, .string z.f_Field] 27)).alloc (.cells #[.int .i64 0, .string ⟨#[]⟩, .string ⟨#[]⟩] 37)) := ⟨_, rfl⟩
 rw [← hwa] at S1
 go_enter Tryz.func10, Tryz.ntmps10
 go_upto_region 1 with fail
 rw [← hwa]
 clear hwa
 go_upto_region 2 with fail
 have S2 := Lib.hid (show Sl.Sep w _ [_, _, _] from L4.push_box S1.out 37 #[.int .i64 0, .string ⟨#[]⟩, .string ⟨#[]⟩] wa.heap.size rfl)
 clear S1
 obtain ⟨g1, hg⟩ : ∃ g', g' = wa.heap.size := ⟨_, rfl⟩
 rw [← hg] at S2 ⊢
 clear hg
 generalize wa.alloc (.cells #[.int .i64 0, .string ⟨#[]⟩, .string ⟨#[]⟩] 37) = w1 at S2 ⊢
 obtain ⟨f0, f1, f2⟩ := Bag.cs3 S2.out 0 rfl
 obtain ⟨f3, f4, f5⟩ := Bag.cs3 S2.out 2 rfl
 have z0 := Bag.free_at S2.out 2 rfl 0
 go_upto_region 3 with fail
 clear f0 f1 f2 f3 f4 f5 z0
 have S3 := Lib.hid (show Sl.Sep w _ [_, _, L4.boxR g1 37 #[.int .i64 z.f_Kind, .string ⟨#[]⟩, .string ⟨#[]⟩]] from L5.put_box5 (S2.out) 2 rfl 0 (.int .i64 z.f_Kind))
 clear S2
 obtain ⟨f0, f1, f2⟩ := Bag.cs3 S3.out 0 rfl
 obtain ⟨f3, f4, f5⟩ := Bag.cs3 S3.out 2 rfl
 have z1 := Bag.free_at S3.out 2 rfl 1
 go_upto_region 4 with fail
 clear f0 f1 f2 f3 f4 f5 z1
 have S4 := Lib.hid (show Sl.Sep w _ [_, _, L4.boxR g1 37 #[.int .i64 z.f_Kind, .string z.f_Store, .string ⟨#[]⟩]] from L5.put_box5 (S3.out) 2 rfl 1 (.string z.f_Store))
 clear S3
 obtain ⟨f0, f1, f2⟩ := Bag.cs3 S4.out 0 rfl
 obtain ⟨f3, f4, f5⟩ := Bag.cs3 S4.out 2 rfl
 have z2 := Bag.free_at S4.out 2 rfl 2
 go_upto_region 5 with fail
 clear f0 f1 f2 f3 f4 f5 z2
 have S5 := Lib.hid (show Sl.Sep w _ [_, _, L4.boxR g1 37 #[.int .i64 z.f_Kind, .string z.f_Store, .string z.f_Field]] from L5.put_box5 (S4.out) 2 rfl 2 (.string z.f_Field))
 clear S4
 obtain ⟨f0, f1, f2⟩ := Bag.cs3 S5.out 1 rfl
 obtain ⟨f3, f4, f5⟩ := Bag.cs3 S5.out 2 rfl
 obtain ⟨z0, z1, z2⟩ := Bag.fs3 S5.out 1 rfl
 go_wp2_with fail
 clear f0 f1 f2 f3 f4 f5 z0 z1 z2
 have S6 := Lib.hid (show Sl.Sep w _ [_, L4.boxR (w.heap.size + 1) 37 #[.int .i64 z.f_Kind, .string z.f_Store, .string z.f_Field], _] from L5.put_box5 (L5.put_box5 (L5.put_box5 (S5.out) 1 rfl 0 (.int .i64 z.f_Kind)) 1 rfl 1 (.string z.f_Store)) 1 rfl 2 (.string z.f_Field))
 clear S5
 obtain ⟨f0, f1, f2⟩ := Bag.cs3 S6.out 1 rfl
 refine bodyPost_ret (v := .agg #[.int .i64 z.f_Kind, .string z.f_Store, .string z.f_Field]) (by simp [results, Tryz.results10, go_sem, *]) rfl ?_
 clear f0 f1 f2
 exact ⟨rfl, S6.out.old⟩
set_option maxHeartbeats 4000000 in
theorem sz_Upgrade (z : X_Upgrade) (q : Int) (hw : Wide_Upgrade z) (hq0 : -1 ≤ q) (hq1 : q ≤ 1048576) (w : World) : Calls Tryz.prog 7 #[vv_Upgrade z, .int .i64 q] w fun e w' => e = .returned (.int .i64 (lft q (wt_Upgrade (co_Upgrade z)))) ∧ Below w.heap.size w w' := by
 have hs1 : (z.f_Store.size : Int) ≤ 9223372036854775807 := by have h : z.f_Store.size ≤ maxLen := hw.2.1; unfold maxLen at h; omega
 have hs2 : (z.f_Field.size : Int) ≤ 9223372036854775807 := by have h : z.f_Field.size ≤ maxLen := hw.2.2; unfold maxLen at h; omega
 have HW := Lib.hid (wt_Upgrade_parts z)
 clear hw
 unfold vv_Upgrade
 have S1 := Lib.hid (show Sl.Sep w _ [_] from L4.push_box (Sl.Sep.start w) 27 #[.int .i64 z.f_Kind, .string z.f_Store, .string z.f_Field] (w.heap.size) (by simp))
 obtain ⟨wa, hwa⟩ : ∃ u, u = (w.alloc (.cells #[.int .i64 z.f_Kind, .string z.f_Store, .string z.f_Field] 27)) := ⟨_, rfl⟩
 rw [← hwa] at S1
 go_enter Tryz.func7, Tryz.ntmps7
 go_upto_region 1 with fail
 rw [← hwa]
 clear hwa
 obtain ⟨f0, f1, f2⟩ := Bag.cs3 S1.out 0 rfl
 by_cases hn1 : q - (z.f_Store.size : Int) < 0
 ·
  skip
  go_wp2_with fail
  go_ret
  exact ⟨by rw [HW.out, lft_neg (by omega)] <;> rfl, S1.out.old⟩
 ·
  skip
  by_cases hn2 : (q - (z.f_Store.size : Int)) - (z.f_Field.size : Int) < 0
  ·
   skip
   go_wp2_with fail
   go_ret
   exact ⟨by rw [HW.out, lft_neg (by omega)] <;> rfl, S1.out.old⟩
  ·
   skip
   go_wp2_with fail
   go_ret
   exact ⟨by rw [HW.out, lft_pos (by omega)] <;> first | rfl | (refine congrArg (fun i => Ending.returned (.int .i64 i)) ?_; omega), S1.out.old⟩
end Go.Proofs.YthljdhfgphebnaaGreat.V

namespace Go.Proofs.YthljdhfgphebnaaGreat.L8
open V L6 L7
open L4 (K isK cmpK)
open L5 (F isR isN)
open Go.Op (bytesLess)
open Go.ChangeShapes Go.WideShapes Go.ChangeAt Go.RowKit Mem Sl Sv Bag

def hasN (n : ByteArray) (s : S6) : Bool := s.name.toList == n.toList
def fndS (xs : List S6) (n : ByteArray) : Option Nat := xs.findIdx? (hasN n)
def numO : Option Nat → Int
 | some i => i
 | none => -1
def eqX (a b : X_IndexDef) : Bool := a.f_Store.toList == b.f_Store.toList && a.f_Field.toList == b.f_Field.toList
def fndX (us : List X_IndexDef) (u : X_IndexDef) : Option Nat := us.findIdx? fun v => eqX v u
theorem bytes_inj {a b : ByteArray} (h : a.toList = b.toList) : a = b := by
 rw [ByteArray.toList_eq, ByteArray.toList_eq] at h
 obtain ⟨⟨a⟩⟩ := a
 obtain ⟨⟨b⟩⟩ := b
 simp only at h
 rw [h]
theorem hasN_iff {n : ByteArray} {s : S6} : hasN n s = true ↔ s.name = n := by
 unfold hasN
 rw [beq_iff_eq]
 exact ⟨bytes_inj, fun h => by rw [h]⟩
theorem eqX_iff {a b : X_IndexDef} : eqX a b = true ↔ a = b := by
 unfold eqX
 rw [Bool.and_eq_true, beq_iff_eq, beq_iff_eq]
 constructor
 ·
  intro h
  obtain ⟨a1, a2⟩ := a
  obtain ⟨b1, b2⟩ := b
  rw [show a1 = b1 from bytes_inj h.1, show a2 = b2 from bytes_inj h.2]
 ·
  rintro rfl; exact ⟨rfl, rfl⟩
theorem idx_at {α : Type} {p : α → Bool} {xs : List α} (i : Nat) (hi : i < xs.length) (h : p xs[i] = true) (ha : ∀ j (hj : j < xs.length), j < i → p xs[j] = false) : xs.findIdx? p = some i := by
 rw [List.findIdx?_eq_some_iff_getElem]
 exact ⟨hi, h, fun j hj => by rw [ha j (by omega) hj]; simp⟩
theorem idx_none {α : Type} {p : α → Bool} {xs : List α} (ha : ∀ j (hj : j < xs.length), p xs[j] = false) : xs.findIdx? p = none := by
 rw [List.findIdx?_eq_none_iff]
 intro x hx
 obtain ⟨j, hj, rfl⟩ := List.getElem_of_mem hx
 exact ha j hj
theorem idx_some {α : Type} {p : α → Bool} {xs : List α} {i : Nat} (h : xs.findIdx? p = some i) : ∃ hi : i < xs.length, p xs[i] = true ∧ ∀ j (hj : j < i), p (xs[j]'(by omega)) = false := by
 rw [List.findIdx?_eq_some_iff_getElem] at h
 obtain ⟨hi, h1, h2⟩ := h
 exact ⟨hi, h1, fun j hj => by simpa using h2 j hj⟩
def ahead8 (xs : List S6) (s : S6) : Nat → Bool
 | 0 => true
 | j + 1 => match xs[j]? with
  | none => true
  | some r => bytesLess r.name.toList s.name.toList
def okSx (xs : List S6) (i : Nat) : Bool := match xs[i]? with
 | none => true
 | some s => isS s && ahead8 xs s i
theorem okSx_at {xs : List S6} {k : Nat} {x : S6} (h : xs[k]? = some x) : okSx xs k = (isS x && ahead8 xs x k) := by
 unfold okSx
 rw [h]
theorem ahead8_at {xs : List S6} {m : Nat} {x y : S6} (h2 : xs[m]? = some y) : ahead8 xs x (m + 1) = bytesLess y.name.toList x.name.toList := by
 simp only [ahead8, h2]
def badX (xs : List S6) (k : Nat) (f : ByteArray) : Bool := match xs[k]? with
 | none => false
 | some s => ufB f.data.toList (idxI s.items f.data.toList)
def keptX (xs : List S6) (u : X_IndexDef) : Bool := match fndS xs u.f_Store with
 | none => false
 | some k => isN u.f_Field.data.toList && !badX xs k u.f_Field
def freshX (us : List X_IndexDef) (u : X_IndexDef) (i : Nat) : Bool := (us.take i).all fun v => !eqX v u
def okUx (xs : List S6) (us : List X_IndexDef) (i : Nat) : Bool := match us[i]? with
 | none => true
 | some u => keptX xs u && freshX us u i
theorem okUx_at {xs : List S6} {us : List X_IndexDef} {k : Nat} {u : X_IndexDef} (h : us[k]? = some u) : okUx xs us k = (keptX xs u && freshX us u k) := by
 unfold okUx
 rw [h]
def allTo (p : Nat → Bool) (n : Nat) : Bool := (List.range n).all p
theorem allTo_all {p : Nat → Bool} {n : Nat} (h : ∀ i, i < n → p i = true) : allTo p n = true := List.all_eq_true.2 fun i hi => h i (List.mem_range.1 hi)
theorem allTo_at {p : Nat → Bool} {n : Nat} (h : allTo p n = true) (i : Nat) (hi : i < n) : p i = true := (List.all_eq_true.1 h) i (List.mem_range.2 hi)
theorem allTo_no {p : Nat → Bool} {n : Nat} (i : Nat) (hi : i < n) (h : p i = false) : allTo p n = false := by
 cases h1 : allTo p n with
 | false => rfl
 | true => rw [allTo_at h1 i hi] at h; cases h
theorem fresh_all {us : List X_IndexDef} {u : X_IndexDef} {i : Nat} (h : ∀ j (hj : j < us.length), j < i → eqX us[j] u = false) : freshX us u i = true := by
 unfold freshX
 rw [List.all_eq_true]
 intro v hv
 obtain ⟨j, hj, rfl⟩ := List.getElem_of_mem hv
 rw [List.length_take] at hj
 rw [List.getElem_take, h j (by omega) (by omega)]
 rfl
theorem fresh_no {us : List X_IndexDef} {u : X_IndexDef} {i : Nat} (j : Nat) (hj : j < us.length) (hi : j < i) (h : eqX us[j] u = true) : freshX us u i = false := by
 cases h1 : freshX us u i with
 | false => rfl
 | true =>
  unfold freshX at h1
  rw [List.all_eq_true] at h1
  have h2 := h1 us[j] (List.mem_iff_getElem.2 ⟨j, by rw [List.length_take]; omega, by rw [List.getElem_take]⟩)
  rw [h] at h2
  cases h2
def isD (d : X_Database) : Bool := allTo (okSx d.f_Stores) d.f_Stores.length && (allTo (okUx d.f_Stores d.f_Unique) d.f_Unique.length && (isN d.f_Name.data.toList && (L1.inB d.f_Version 0 1000 && (decide (d.f_Stores.length ≤ 4) && decide (d.f_Unique.length ≤ 4)))))

def posS (xs : List S6) (n : ByteArray) : Nat := (xs.findIdx? fun (s : S6) => !bytesLess s.name.toList n.toList).getD xs.length
def notBefore (n : ByteArray) (s : S6) : Bool := !bytesLess s.name.toList n.toList
theorem posS_at {xs : List S6} {n : ByteArray} (i : Nat) (hi : i ≤ xs.length) (hl : ∀ j (hj : j < xs.length), j < i → bytesLess xs[j].name.toList n.toList = true) (hn : ∀ hi : i < xs.length, bytesLess xs[i].name.toList n.toList = false) : posS xs n = i := by
 show (xs.findIdx? (notBefore n)).getD xs.length = i
 by_cases h : i < xs.length
 ·
  rw [idx_at (p := notBefore n) i h (by unfold notBefore; rw [hn h]; rfl) (fun j hj hji => by unfold notBefore; rw [hl j hj hji]; rfl)]
  rfl
 ·
  obtain rfl : i = xs.length := by omega
  rw [idx_none (p := notBefore n) (fun j hj => by unfold notBefore; rw [hl j hj hj]; rfl)]
  rfl
theorem posS_le (xs : List S6) (n : ByteArray) : posS xs n ≤ xs.length := by
 unfold posS
 cases h : xs.findIdx? fun (s : S6) => !bytesLess s.name.toList n.toList with
 | none => exact Nat.le_refl _
 | some i => obtain ⟨hi, _⟩ := idx_some h; exact Nat.le_of_lt hi
def zS (n : ByteArray) : S6 := ⟨n, [], 0⟩
def insS (xs : List S6) (n : ByteArray) : List S6 := xs.take (posS xs n) ++ zS n :: xs.drop (posS xs n)
def dropD (d : X_Database) (n : ByteArray) : X_Database := ⟨d.f_Name, d.f_Version, d.f_Stores.filter fun s => !hasN n s, d.f_Unique.filter fun v => !(v.f_Store.toList == n.toList)⟩
def ixOf (u : X_Upgrade) : X_IndexDef := ⟨u.f_Store, u.f_Field⟩
def rawD (d : X_Database) (u : X_Upgrade) : Option X_Database :=
 if u.f_Kind = 1 then (if (fndS d.f_Stores u.f_Store).isSome then none else some { d with f_Stores := insS d.f_Stores u.f_Store })
 else if u.f_Kind = 2 then (if (fndS d.f_Stores u.f_Store).isSome then some (dropD d u.f_Store) else none)
 else if u.f_Kind = 3 then (if (fndS d.f_Stores u.f_Store).isSome && !(fndX d.f_Unique (ixOf u)).isSome then some { d with f_Unique := d.f_Unique ++ [ixOf u] } else none)
 else if u.f_Kind = 4 then (match fndX d.f_Unique (ixOf u) with
  | some x => some { d with f_Unique := d.f_Unique.eraseIdx x }
  | none => none)
 else none
def upB (d : X_Database) (u : X_Upgrade) : Bool := match rawD d u with
 | none => false
 | some o => isD d && isD o
def upD (d : X_Database) (u : X_Upgrade) : X_Database := match rawD d u with
 | none => d
 | some o => if isD d && isD o then o else d
structure FitX (u : X_IndexDef) : Prop where
 store : u.f_Store.size ≤ 281474976710656
 field : u.f_Field.size ≤ 281474976710656
structure FitD (d : X_Database) : Prop where
 name : d.f_Name.size ≤ 281474976710656
 len : d.f_Stores.length ≤ 1048576
 stores : ∀ s ∈ d.f_Stores, FitS s
 many : d.f_Unique.length ≤ 1048576
 unique : ∀ u ∈ d.f_Unique, FitX u
theorem isD_parts {d : X_Database} (h : isD d = true) : allTo (okSx d.f_Stores) d.f_Stores.length = true ∧ allTo (okUx d.f_Stores d.f_Unique) d.f_Unique.length = true ∧ isN d.f_Name.data.toList = true ∧ L1.inB d.f_Version 0 1000 = true ∧ d.f_Stores.length ≤ 4 ∧ d.f_Unique.length ≤ 4 := by
 unfold isD at h
 simp only [Bool.and_eq_true, decide_eq_true_eq] at h
 exact h
section
variable {w : World} {B : Nat} {z : Y_Database}
theorem rdS (h : RowsRd w B (rw_Database z)) : Reads w B z.f_Stores_a (z.f_Stores.flatMap cl_Store) := (rd_head (rd_left h)).reads
theorem rdX (h : RowsRd w B (rw_Database z)) : RowsRd w B (rws_Store z.f_Stores) := rd_tail (rd_left h)
theorem rdU (h : RowsRd w B (rw_Database z)) : Reads w B z.f_Unique_a (z.f_Unique.flatMap cl_IndexDef) := (rd_head (rd_right h)).reads
theorem co_len : (co_Database z).f_Stores.length = z.f_Stores.length := by show (coS_Store z.f_Stores).length = _; rw [coS_Store_eq, List.length_map]
theorem coS_at {ss : List LS} {k : Nat} {x : LS} (h : ss[k]? = some x) : (coS_Store ss)[k]? = some x.con := by rw [coS_Store_eq, List.getElem?_map, h]; rfl
theorem coS_len {ss : List LS} : (coS_Store ss).length = ss.length := by rw [coS_Store_eq, List.length_map]
theorem rd_store {ss : List LS} (h : RowsRd w B (rws_Store ss)) {k : Nat} {x : LS} (hx : ss[k]? = some x) : RowsRd w B x.rows := rd_el (rw_ := rw_Store) h hx
theorem fit_store {ss : List LS} (h : ∀ s ∈ coS_Store ss, FitS s) {k : Nat} {x : LS} (hx : ss[k]? = some x) : FitS x.con := h _ (List.mem_of_getElem? (coS_at hx))
end
end Go.Proofs.YthljdhfgphebnaaGreat.L8

namespace Go.Proofs.YthljdhfgphebnaaGreat.L8
open V L6 L7
open L4 (K isK cmpK)
open L5 (F isR isN string_geq Small)
open Go.ChangeShapes Go.WideShapes Go.ChangeAt Go.RowKit Mem Sl Ex L2 Sv Bag

theorem fitR_wt {l : List F} (h : wt_Record l ≤ 1048576) : l.length ≤ 1048576 ∧ Small l := by
 have h1 : l.length ≤ wt_Record l := wsum_len wt_Field l
 refine ⟨by omega, fun f hf => ?_⟩
 have h2 : wt_Field f + 1 ≤ wt_Record l := wsum_mem hf
 have h3 : wt_Field f = f.name.size := rfl
 omega
theorem fitI_wt {x : It} (h : wt_Item x ≤ 1048576) : FitI x := by
 have h1 : wt_Item x = x.k.text.size + wt_Record x.l := rfl
 obtain ⟨h2, h3⟩ := fitR_wt (l := x.l) (by omega)
 exact ⟨by omega, h2, h3⟩
theorem fitS_wt {s : S6} (h : wt_Store s ≤ 1048576) : FitS s := by
 have h1 : wt_Store s = s.name.size + wsum wt_Item s.items := rfl
 have h2 := wsum_len wt_Item s.items
 refine ⟨by omega, by omega, fun x hx => fitI_wt ?_⟩
 have h3 : wt_Item x + 1 ≤ wsum wt_Item s.items := wsum_mem hx
 omega
theorem fitX_wt {u : X_IndexDef} (h : wt_IndexDef u ≤ 1048576) : FitX u := by
 have h1 : wt_IndexDef u = u.f_Store.size + u.f_Field.size := rfl
 exact ⟨by omega, by omega⟩
theorem fitD_wt {d : X_Database} (h : wt_Database d ≤ 1048576) : FitD d := by
 have h1 : wt_Database d = d.f_Name.size + (wsum wt_Store d.f_Stores + wsum wt_IndexDef d.f_Unique) := rfl
 have h2 := wsum_len wt_Store d.f_Stores
 have h3 := wsum_len wt_IndexDef d.f_Unique
 refine ⟨by omega, by omega, fun s hs => fitS_wt ?_, by omega, fun u hu => fitX_wt ?_⟩
 ·
  have h4 : wt_Store s + 1 ≤ wsum wt_Store d.f_Stores := wsum_mem hs
  omega
 ·
  have h4 : wt_IndexDef u + 1 ≤ wsum wt_IndexDef d.f_Unique := wsum_mem hu
  omega
theorem wsum_app {α : Type} (f : α → Nat) (xs ys : List α) : wsum f (xs ++ ys) = wsum f xs + wsum f ys := by
 unfold wsum; rw [List.length_append, fsum_app]; omega
theorem wsum_cons {α : Type} (f : α → Nat) (x : α) (xs : List α) : wsum f (x :: xs) = f x + 1 + wsum f xs := by
 unfold wsum; rw [List.length_cons, fsum_cons]; omega
theorem wsum_sub {α : Type} (f : α → Nat) {xs ys : List α} (h : xs.Sublist ys) : wsum f xs ≤ wsum f ys := by
 induction h with
 | slnil => exact Nat.le_refl _
 | cons a _ ih => rw [wsum_cons]; omega
 | cons_cons a _ ih => rw [wsum_cons, wsum_cons]; omega
theorem wt_raw {d o : X_Database} {u : X_Upgrade} (h : rawD d u = some o) : wt_Database o ≤ wt_Database d + 1 + (u.f_Store.size + u.f_Field.size) := by
 have e : ∀ d : X_Database, wt_Database d = d.f_Name.size + (wsum wt_Store d.f_Stores + wsum wt_IndexDef d.f_Unique) := fun _ => rfl
 rw [e, e]
 unfold rawD at h
 split at h
 ·
  split at h
  ·
   cases h
  ·
   injection h with h; subst h
   have h1 : wsum wt_Store (insS d.f_Stores u.f_Store) = wsum wt_Store d.f_Stores + 1 + u.f_Store.size := by
    unfold insS
    rw [wsum_app, wsum_cons]
    have h2 : wsum wt_Store d.f_Stores = wsum wt_Store (d.f_Stores.take (posS d.f_Stores u.f_Store)) + wsum wt_Store (d.f_Stores.drop (posS d.f_Stores u.f_Store)) := by rw [← wsum_app, List.take_append_drop]
    have h3 : wt_Store (zS u.f_Store) = u.f_Store.size := rfl
    omega
   dsimp only
   omega
 ·
  split at h
  ·
   split at h
   ·
    injection h with h; subst h
    have h1 := wsum_sub wt_Store (List.filter_sublist (p := fun s : S6 => !hasN u.f_Store s) (l := d.f_Stores))
    have h2 := wsum_sub wt_IndexDef (List.filter_sublist (p := fun v : X_IndexDef => !(v.f_Store.toList == u.f_Store.toList)) (l := d.f_Unique))
    show d.f_Name.size + (wsum wt_Store (d.f_Stores.filter _) + wsum wt_IndexDef (d.f_Unique.filter _)) ≤ _
    omega
   ·
    cases h
  ·
   split at h
   ·
    split at h
    ·
     injection h with h; subst h
     have h1 : wt_IndexDef (ixOf u) = u.f_Store.size + u.f_Field.size := rfl
     dsimp only
     rw [wsum_app, wsum_cons]
     have h2 : wsum wt_IndexDef [] = 0 := rfl
     omega
    ·
     cases h
   ·
    split at h
    ·
     split at h
     ·
      rename_i x _
      injection h with h; subst h
      have h1 := wsum_sub wt_IndexDef (List.eraseIdx_sublist d.f_Unique x)
      dsimp only
      omega
     ·
      cases h
    ·
     cases h
theorem wt_up (d : X_Database) (u : X_Upgrade) : wt_Database (upD d u) ≤ wt_Database d + 1 + (u.f_Store.size + u.f_Field.size) := by
 unfold upD
 cases h : rawD d u with
 | none => dsimp only; omega
 | some o =>
  have := wt_raw h
  dsimp only
  split <;> omega
end Go.Proofs.YthljdhfgphebnaaGreat.L8

namespace Go.Proofs.YthljdhfgphebnaaGreat.Reg
section
variable {P : Program} {ops : Array Oper} {Q : Exit → Act → World → Prop} {md : Region.Mode} {S0 S1 : World → Prop} {q : Nat}
def Tier (S0 S1 : World → Prop) (q : Nat) (listed : Array Bool) (i : Nat) (w : World) : Prop := S0 w ∧ (i ≠ q → listed.getD q true = false → S1 w)
def anyL (P : Program) (md : Region.Mode) (ops : Array Oper) (Q : Exit → Act → World → Prop) (S0 S1 : World → Prop) (q : Nat) : Nat → Array Bool → Act → World → Prop
 | 0, L, a, w => Region.ready md ops L = [] ∧ Q .normal a w
 | n + 1, L, a, w => (Region.ready md ops L = [] → Q .normal a w) ∧ ∀ i, i ∈ Region.ready md ops L → wpOp P ops Q i (fun a' w' => Tier S0 S1 q L i w' ∧ anyL P md ops Q S0 S1 q n (L.setIfInBounds i true) a' w') a w
theorem anyL_plain : ∀ (n : Nat) (L : Array Bool) (a : Act) (w : World), anyL P md ops Q S0 S1 q n L a w → wpAny P md ops Q n L a w
 | 0, _, _, _, h => h
 | n + 1, _, _, _, h => ⟨h.1, fun i hi => wpOp_mono (fun a' w' h' => anyL_plain n _ a' w' h'.2) (h.2 i hi)⟩
theorem anyL_first {i : Nat} {oi : Oper} {v : Value} {T : World → Prop} (hi : ops[i]? = some oi) (hsel : ∀ (j : Nat) (o : Oper) cs b, ops[j]? = some o → o.op ≠ .select cs b) (hQ : ∀ c a w, Q (.panic c) (a.put oi.dst v) w → Q (.panic c) a w)
  (hiq : i ≠ q)
  (hT : (∀ w, S0 w → T w) ∨ ((∀ w, S0 w → S1 w → T w) ∧ ∃ oq, ops[q]? = some oq ∧ ∃ e ∈ oq.after, Region.binds md e = true ∧ e.on = i)) :
  ∀ (n : Nat) (L : Array Bool) (a : Act) (w : World), ((∀ w, S0 w → T w) ∨ L.getD q true = false) →
   (∀ j oj, ops[j]? = some oj → j ≠ i → L.getD j true = false → (∀ e ∈ oj.after, Region.binds md e = true → e.on ≠ i) → oi.apart ops oj = true) →
   i ∈ Region.ready md ops L → YieldsIf P ops T oi v a → (S0 w ∧ (L.getD q true = false → S1 w)) →
   anyL P md ops Q S0 S1 q n (L.setIfInBounds i true) (a.put oi.dst v) w → anyL P md ops Q S0 S1 q (n + 1) L a w := by
 have hTw : ∀ (L : Array Bool) (w : World), ((∀ w, S0 w → T w) ∨ L.getD q true = false) → S0 w → (L.getD q true = false → S1 w) → T w := fun L w hL h0 h1 => by
  rcases hT with h | ⟨h, _⟩
  ·
   exact h w h0
  ·
   rcases hL with h2 | h2
   ·
    exact h2 w h0
   ·
    exact h w h0 (h1 h2)
 intro n
 induction n with
 | zero =>
  intro L a w hL hfree hr hy hS H
  refine ⟨fun h => (by rw [h] at hr; cases hr), fun j hj => ?_⟩
  by_cases hji : j = i
  ·
   subst hji
   exact hy.wpOp hi (hTw L w hL hS.1 hS.2) ⟨⟨hS.1, fun _ => hS.2⟩, H⟩
  ·
   have := ready_mono hj hji
   rw [H.1] at this
   cases this
 | succ n ih =>
  intro L a w hL hfree hr hy hS H
  refine ⟨fun h => (by rw [h] at hr; cases hr), fun j hj => ?_⟩
  by_cases hji : j = i
  ·
   subst hji
   exact hy.wpOp hi (hTw L w hL hS.1 hS.2) ⟨⟨hS.1, fun _ => hS.2⟩, H⟩
  ·
   have h1 := H.2 j (ready_mono hj hji)
   obtain ⟨hjun, oj, hoj, hall⟩ := mem_ready.1 hj
   have hnot : ∀ e ∈ oj.after, Region.binds md e = true → e.on ≠ i := fun e he hb heq => by
    have g1 := hall e he hb
    have g0 := (mem_ready.1 hr).1
    rw [heq] at g1
    rcases Nat.lt_or_ge i L.size with h' | h'
    ·
     simp [h'] at g0 g1; rw [g0] at g1; cases g1
    ·
     simp [Array.getElem?_eq_none h'] at g1
   have h2 := wpOp_putIf hoj (hfree j oj hoj hji hjun hnot) (fun cs b => hsel i oi cs b hi) (fun cs b => hsel j oj cs b hoj) hQ hy h1
   have hfree' : ∀ k ok, ops[k]? = some ok → k ≠ i → (L.setIfInBounds j true).getD k true = false → (∀ e ∈ ok.after, Region.binds md e = true → e.on ≠ i) → oi.apart ops ok = true := fun k ok hk hki hun hno => by
    refine hfree k ok hk hki ?_ hno
    by_cases hjk : j = k
    ·
     subst hjk; exact hjun
    ·
     rw [getD_set_ne true hjk] at hun; exact hun
   -- the late one is not j, where it waits for i
   have hL' : (∀ w, S0 w → T w) ∨ (L.setIfInBounds j true).getD q true = false := by
    rcases hT with h | ⟨_, oq, hoq, e, he, hb, hei⟩
    ·
     exact .inl h
    ·
     rcases hL with h | h
     ·
      exact .inl h
     ·
      by_cases hjq : j = q
      ·
       subst hjq
       rw [hoj] at hoq
       injection hoq with hoq
       subst hoq
       exact absurd hei (hnot e he hb)
      ·
       exact .inr (by rw [getD_set_ne true hjq]; exact h)
   refine wpOp_mono (fun a' w' h3 => ?_) h2
   obtain ⟨hy', ⟨t0, t1⟩, hrest⟩ := h3
   have hS' : S0 w' ∧ ((L.setIfInBounds j true).getD q true = false → S1 w') := ⟨t0, fun hq => by
    by_cases hjq : j = q
    ·
     subst hjq
     rcases Nat.lt_or_ge j L.size with h' | h'
     ·
      simp [h'] at hq
     ·
      simp at hq
    ·
     rw [getD_set_ne true hjq] at hq
     exact t1 hjq (by rw [getD_set_ne true hiq]; exact hq)⟩
   refine ⟨⟨t0, fun hjq hq => ?_⟩, ih (L.setIfInBounds j true) a' w' hL' hfree' (ready_mono hr (Ne.symm hji)) hy' hS' ?_⟩
   ·
    exact hS'.2 (by rw [getD_set_ne true hjq]; exact hq)
   ·
    rw [Array.setIfInBounds_comm _ _ hji]
    exact hrest
theorem wp_region_late {id : Nat} {a : Act} {w : World} (S0 S1 : World → Prop) (q : Nat) (hm : P.follows .mixedOrders = true) (h0 : S0 w.drew) (h1 : S1 w.drew)
  (h : S0 w.drew → S1 w.drew → anyL P .any ops Q S0 S1 q ops.size (Array.replicate ops.size false) a w.drew) : (Code.region id ops true).wp P Q a w :=
 wp_region_any hm (anyL_plain _ _ _ _ (h h0 h1))
end
section
variable {P : Program} {l : List Oper} {Q : Exit → Act → World → Prop} {md : Region.Mode} {S0 S1 : World → Prop} {q fuel i : Nat} {oi : Oper} {v : Value} {listed : Array Bool} {a : Act} {w : World}
def waits (md : Region.Mode) (l : List Oper) (q i : Nat) : Bool := match nthO q l with
 | none => false
 | some o => o.after.any fun e => Region.binds md e && e.on == i
theorem early_op (hi : nthO i l = some oi) (hs : Region.noSelect l.toArray = true) (hf : Region.free md l.toArray listed i = true) (hr : (Region.ready md l.toArray listed).contains i = true) (hiq : (i == q) = false) (hq : waits md l q i = true) (hl : listed.getD q true = false)
  (hQ : ∀ c a w, Q (.panic c) (a.put oi.dst v) w → Q (.panic c) a w) (hw : Region.wanted oi (yielded l.toArray a.tmps) = true) (hy : ∀ w, S0 w → S1 w → (execOp a.eval oi).run P w = .ok (.value v) w) (h0 : S0 w) (h1 : S1 w)
  (h : anyL P md l.toArray Q S0 S1 q fuel (listed.setIfInBounds i true) (a.put oi.dst v) w) : anyL P md l.toArray Q S0 S1 q (fuel + 1) listed a w := by
 refine anyL_first (T := fun w => S0 w ∧ S1 w) (by rw [nthO_eq]; exact hi) (Region.noSelect_spec hs) hQ (by simpa using hiq) (.inr ⟨fun w a b => ⟨a, b⟩, ?_⟩) fuel listed a w (.inr hl) (Region.free_spec (by rw [nthO_eq]; exact hi) hf) (by simpa using hr) (.inl ⟨hw, fun w hh => hy w hh.1 hh.2⟩) ⟨h0, fun _ => h1⟩ h
 unfold waits at hq
 cases ho : nthO q l with
 | none => rw [ho] at hq; cases hq
 | some o =>
  rw [ho] at hq
  simp only [Array.any_eq_true, Bool.and_eq_true, beq_iff_eq] at hq
  obtain ⟨j, hj, h2, h3⟩ := hq
  exact ⟨o, by rw [nthO_eq]; exact ho, _, Array.getElem_mem hj, h2, h3⟩
theorem plain_op (hi : nthO i l = some oi) (hs : Region.noSelect l.toArray = true) (hf : Region.free md l.toArray listed i = true) (hr : (Region.ready md l.toArray listed).contains i = true) (hiq : (i == q) = false)
  (hQ : ∀ c a w, Q (.panic c) (a.put oi.dst v) w → Q (.panic c) a w) (hw : Region.wanted oi (yielded l.toArray a.tmps) = true) (hy : ∀ w, S0 w → (execOp a.eval oi).run P w = .ok (.value v) w) (h0 : S0 w) (h1 : listed.getD q true = false → S1 w)
  (h : anyL P md l.toArray Q S0 S1 q fuel (listed.setIfInBounds i true) (a.put oi.dst v) w) : anyL P md l.toArray Q S0 S1 q (fuel + 1) listed a w :=
 anyL_first (T := S0) (by rw [nthO_eq]; exact hi) (Region.noSelect_spec hs) hQ (by simpa using hiq) (.inl fun _ h => h) fuel listed a w (.inl fun _ h => h) (Region.free_spec (by rw [nthO_eq]; exact hi) hf) (by simpa using hr) (.inl ⟨hw, hy⟩) ⟨h0, h1⟩ h
theorem only_op (hi : nthO i l = some oi) (hr : Region.ready md l.toArray listed = [i])
  (h : ∀ K' : Act → World → Prop, Shut (∀ a w, S0 w → S1 w → (S0 w → S1 w → anyL P md l.toArray Q S0 S1 q fuel (listed.setIfInBounds i true) a w) → K' a w) → if Region.wanted oi (yielded l.toArray a.tmps) = true then Oper.wp P oi a w K' Q else K' (a.put oi.dst undef) w) :
  anyL P md l.toArray Q S0 S1 q (fuel + 1) listed a w := by
 refine ⟨fun h0 => (by rw [hr] at h0; cases h0), fun j hj => ?_⟩
 rw [hr] at hj
 obtain rfl := List.mem_singleton.1 hj
 exact wpOp_step (by rw [nthO_eq]; exact hi) (fun K' hK => h K' (fun a w h0 h1 hW => hK a w ⟨⟨h0, fun _ _ => h1⟩, hW h0 h1⟩))
theorem late_op (hi : nthO i l = some oi) (hr : Region.ready md l.toArray listed = [i]) (hiq : (i == q) = true)
  (h : ∀ K' : Act → World → Prop, Shut (∀ a w, S0 w → (S0 w → anyL P md l.toArray Q S0 S1 q fuel (listed.setIfInBounds i true) a w) → K' a w) → if Region.wanted oi (yielded l.toArray a.tmps) = true then Oper.wp P oi a w K' Q else K' (a.put oi.dst undef) w) :
  anyL P md l.toArray Q S0 S1 q (fuel + 1) listed a w := by
 refine ⟨fun h0 => (by rw [hr] at h0; cases h0), fun j hj => ?_⟩
 rw [hr] at hj
 obtain rfl := List.mem_singleton.1 hj
 exact wpOp_step (by rw [nthO_eq]; exact hi) (fun K' hK => h K' (fun a w h0 hW => hK a w ⟨⟨h0, fun hn => absurd (by simpa using hiq) hn⟩, hW h0⟩))
theorem anyL_done {l : Array Oper} {listed : Array Bool} {a : Act} {w : World} (hr : Region.ready md l listed = []) (h : Q .normal a w) : ∀ fuel, anyL P md l Q S0 S1 q fuel listed a w
 | 0 => ⟨hr, h⟩
 | _ + 1 => ⟨fun _ => h, by rw [hr]; simp⟩
end
end Go.Proofs.YthljdhfgphebnaaGreat.Reg

set_option linter.unusedSimpArgs false
namespace Go.Proofs.YthljdhfgphebnaaGreat.L6
open L4 (K isK cmpK R inR encU)
open L5 (F isR isN cellsF encR eqR Small)
open Go.ChangeShapes Go.WideShapes Go.ChangeAt Go.RowKit Mem Sl Ex L2 Sv Bag

set_option maxHeartbeats 2000000 in
theorem l6Item_any (kd n : Int) (s : ByteArray) (a : Option Addr) (c : Nat) (l : List F) (hl : l.length ≤ 1048576) (w : World) (hr : Reads w w.heap.size a (cellsF l)) :
  Calls Tryz.prog 84 #[.agg #[.int .i64 kd, .int .i64 n, .string s, .slice a l.length c]] w (GaveI w ⟨⟨kd, n, s⟩, l⟩) := by
 have HC := Lib.hid (fun w' (h : Below w.heap.size w w') => L5.l5Copy_any a c l (by have := hl; omega) w' ((hr.below h).more h.size))
 obtain ⟨N, hN⟩ : ∃ n, n = l.length := ⟨_, rfl⟩
 rw [← hN] at HC ⊢
 have HN := Lib.hid hN
 clear hN hr hl
 have S1 := Lib.hid (show Sl.Sep w _ [_, _] from L4.push_box (L4.push_box (Sl.Sep.start w) 135 #[.int .i64 kd, .int .i64 n, .string s, .slice a N c] (w.heap.size) (by simp)) 135 #[.int .i64 0, .int .i64 0, .string ⟨#[]⟩, .slice none 0 0] (w.heap.size + 1) (by simp))
 obtain ⟨wa, hwa⟩ : ∃ u, u = ((w.alloc (.cells #[.int .i64 kd, .int .i64 n, .string s, .slice a N c] 135)).alloc (.cells #[.int .i64 0, .int .i64 0, .string ⟨#[]⟩, .slice none 0 0] 135)) := ⟨_, rfl⟩
 rw [← hwa] at S1
 go_enter Tryz.func84, Tryz.ntmps84
 go_upto_region 1 with fail
 rw [← hwa]
 clear hwa
 go_upto_region 1 with fail
 refine wp_region_held_drew (S := (fun w' => (w'.cell? ⟨w.heap.size, 0, none⟩ = some (.int .i64 kd) ∧ w'.cell? ⟨w.heap.size, 1, none⟩ = some (.int .i64 n) ∧ w'.cell? ⟨w.heap.size, 2, none⟩ = some (.string s) ∧ w'.cell? ⟨w.heap.size, 3, none⟩ = some (.slice a N c)))) (by kernel_rfl) (Bag.cs4 (Bag.drew1 S1.out) 0 rfl) (fun hS => ?_)
 have S2 := Lib.hid (Bag.drew1 S1.out)
 clear S1
 generalize World.drew _ = w1 at hS S2 ⊢
 refine tk 0 rfl ?_
 try simp only [zp0, zp1, zp2, zp3, zp4]
 refine tk 1 rfl ?_
 try simp only [zp0, zp1, zp2, zp3, zp4]
 refine tk 2 rfl ?_
 try simp only [zp0, zp1, zp2, zp3, zp4]
 refine tk 3 rfl ?_
 try simp only [zp0, zp1, zp2, zp3, zp4]
 refine Reg.one_op (i := 4) rfl (by kernel_rfl) (fun K hK => ?_)
 go_simp
 go_at_call 120
 refine (HC.out _ S2.out.old).mono ?_
 rintro e w2 ⟨a1, c1, rfl, ho, hb⟩
 have S3 := Lib.hid (show Sl.Sep w _ [_, _, Sv.ownV 184 2 a1 c1 N (cellsF l)] from Sv.push_own S2.out hb ho)
 clear S2
 clear hb ho
 go_wp2_with fail
 refine hK.out _ _ (Bag.cs4 S3.out 0 rfl) (fun hS => ?_)
 clear hK K
 try simp only [zp0, zp1, zp2, zp3, zp4]
 refine tk 5 rfl ?_
 try simp only [zp0, zp1, zp2, zp3, zp4]
 refine Reg.one_op (i := 6) rfl (by kernel_rfl) (fun K hK => ?_)
 obtain ⟨f0, f1, f2, f3⟩ := Bag.cs4 S3.out 1 rfl
 obtain ⟨z0, z1, z2, z3⟩ := Bag.fs4 S3.out 1 rfl
 go_simp
 clear f0 f1 f2 f3 z0 z1 z2 z3
 have S4 := Lib.hid (show Sl.Sep w _ [_, L4.boxR (w.heap.size + 1) 135 #[.int .i64 kd, .int .i64 n, .string s, .slice a1 N c1], _] from L5.put_box5 (L5.put_box5 (L5.put_box5 (L5.put_box5 (S3.out) 1 rfl 0 (.int .i64 kd)) 1 rfl 1 (.int .i64 n)) 1 rfl 2 (.string s)) 1 rfl 3 (.slice a1 N c1))
 clear S3
 refine hK.out _ _ (Bag.cs4 S4.out 0 rfl) (fun hS => ?_)
 clear hK K
 try simp only [zp0, zp1, zp2, zp3, zp4]
 refine wpAnyH_done (by kernel_rfl) ?_ _
 obtain ⟨f0, f1, f2, f3⟩ := Bag.cs4 S4.out 0 rfl
 obtain ⟨f4, f5, f6, f7⟩ := Bag.cs4 S4.out 1 rfl
 go_wp2_with fail
 refine bodyPost_ret (v := .agg #[.int .i64 kd, .int .i64 n, .string s, .slice a1 N c1]) (by simp [results, Tryz.results84, go_sem, *]) rfl ?_
 have hb := Bag.bag_from (Bag.bag_of_one S4.out 2 (r := (LI.mk ⟨kd, n, s⟩ a1 c1 l).row) (by show some _ = some _; rw [HN.out]; rfl)) 2 rfl
 exact ⟨a1, c1, by rw [HN.out], hb, S4.out.old⟩
theorem infoItem : (Tryz.prog.info? 135).map (fun i => (i.zero, i.size, i.bytes)) = some (some (.agg #[.int .i64 0, .int .i64 0, .string ⟨#[]⟩, .slice none 0 0]), 4, 56) := by kernel_rfl
theorem itemInfo : ∃ i, Tryz.prog.info? 135 = some i ∧ i.zero = some (.agg #[.int .i64 0, .int .i64 0, .string ⟨#[]⟩, .slice none 0 0]) ∧ i.size = 4 ∧ i.bytes = 56 := by
 have h := infoItem
 rw [Option.map_eq_some_iff] at h
 obtain ⟨i, h1, h2⟩ := h
 simp only [Prod.mk.injEq] at h2
 exact ⟨i, h1, h2⟩
theorem readsI_at {w : World} {B : Nat} {ad : Addr} {xs : List LI} (h : Reads w B (some ad) (cellsI xs)) (j : Nat) (x : LI) (hx : xs[j]? = some x) :
  w.cell? (ad.add (j * 4)) = some (.int .i64 x.k.kind) ∧ w.cell? ⟨(ad.add (j * 4)).block, (ad.add (j * 4)).off + 1, none⟩ = some (.int .i64 x.k.n) ∧ w.cell? ⟨(ad.add (j * 4)).block, (ad.add (j * 4)).off + 2, none⟩ = some (.string x.k.text) ∧ w.cell? ⟨(ad.add (j * 4)).block, (ad.add (j * 4)).off + 3, none⟩ = some (.slice x.a x.l.length x.c) := by
 obtain ⟨hj, rfl⟩ := List.getElem?_eq_some_iff.1 hx
 obtain ⟨ad', e, _, h1⟩ := readsI h j hj
 injection e with e
 subst e
 exact h1
theorem readsI_some {w : World} {B : Nat} {a : Option Addr} {xs : List LI} (h : Reads w B a (cellsI xs)) (j : Nat) (hj : j < xs.length) : ∃ ad x, a = some ad ∧ xs[j]? = some x := by
 obtain ⟨ad, e, _⟩ := readsI h j hj
 exact ⟨ad, _, e, List.getElem?_eq_getElem hj⟩
theorem conI_take {xs : List LI} {j : Nat} {x : LI} (hx : xs[j]? = some x) : (conI xs).take (j + 1) = (conI xs).take j ++ [x.con] := by
 obtain ⟨hj, rfl⟩ := List.getElem?_eq_some_iff.1 hx
 rw [List.take_succ_eq_append_getElem (by simpa using hj), conI_get _ _ hj]
theorem rowsI_mem {xs : List LI} {j : Nat} {x : LI} (hx : xs[j]? = some x) : x.row ∈ rowsI xs := by
 obtain ⟨hj, rfl⟩ := List.getElem?_eq_some_iff.1 hx
 exact rowsI_at xs j hj
theorem fit_at {xs : List LI} {j : Nat} {x : LI} (h : ∀ y ∈ conI xs, FitI y) (hx : xs[j]? = some x) : FitI x.con := by
 obtain ⟨hj, rfl⟩ := List.getElem?_eq_some_iff.1 hx
 exact h _ (List.mem_map.2 ⟨_, List.getElem_mem hj, rfl⟩)
set_option maxHeartbeats 4000000 in
theorem l6Copy_any (y : LS) (hf : FitS y.con) (w : World) (hr : RowsRd w w.heap.size y.rows) :
  Calls Tryz.prog 53 #[y.v] w (GaveS w y.con) := by
 obtain ⟨i0, hi1, hi2, hi3, hi4⟩ := itemInfo
 have HI := Lib.hid (And.intro hi1 (And.intro hi2 (And.intro hi3 hi4)))
 clear hi1 hi2 hi3 hi4
 obtain ⟨name, a, c, xs, auto⟩ := y
 have HR := Lib.hid (fun w' (h : Below w.heap.size w w') => LS.outer (hr.below h))
 have HX := Lib.hid (fun w' (h : Below w.heap.size w w') => (LS.inner (hr.below h)).more h.size)
 have HF := Lib.hid hf.items
 have hl := hf.len
 simp only [LS.con, conI_length] at hl
 unfold LS.v LS.cells LS.con
 dsimp only at HR HX HF hl ⊢
 obtain ⟨N, hN⟩ : ∃ n, n = xs.length := ⟨_, rfl⟩
 rw [← hN] at hl ⊢
 have hl' : (N : Int) ≤ 1048576 := by omega
 have HN := Lib.hid hN
 clear hN hr hf
 have S1 := Lib.hid (show Sl.Sep w _ [_, _] from L4.push_box (L4.push_box (Sl.Sep.start w) 70 #[.string name, .slice a N c, .int .i64 auto] (w.heap.size) (by simp)) 70 #[.string ⟨#[]⟩, .slice none 0 0, .int .i64 0] (w.heap.size + 1) (by simp))
 obtain ⟨wa, hwa⟩ : ∃ u, u = ((w.alloc (.cells #[.string name, .slice a N c, .int .i64 auto] 70)).alloc (.cells #[.string ⟨#[]⟩, .slice none 0 0, .int .i64 0] 70)) := ⟨_, rfl⟩
 rw [← hwa] at S1
 go_enter Tryz.func53, Tryz.ntmps53
 go_upto_region 1 with fail
 rw [← hwa]
 clear hwa
 obtain ⟨f0, f1, f2⟩ := Bag.cs3 S1.out 0 rfl
 obtain ⟨f3, f4, f5⟩ := Bag.cs3 S1.out 1 rfl
 go_upto_region 2 with fail
 clear f0 f1 f2 f3 f4 f5
 have S2 := Lib.hid (show Sl.Sep w _ [_, _, _] from L4.push_box S1.out 70 #[.string name, .slice none 0 0, .int .i64 auto] wa.heap.size rfl)
 clear S1
 obtain ⟨g1, hg⟩ : ∃ g', g' = wa.heap.size := ⟨_, rfl⟩
 rw [← hg] at S2 ⊢
 clear hg
 generalize wa.alloc (.cells #[.string name, .slice none 0 0, .int .i64 auto] 70) = w1 at S2 ⊢
 have S3 := Lib.hid (show Sl.Sep w _ [_, _, L4.boxR g1 70 #[.string name, .slice none 0 0, .int .i64 auto], Sv.ownV 135 4 none 0 0 (cellsI [])] from Sv.push_own S2.out (Below.refl _ _) (OwnV.nil _ _ _ _))
 clear S2
 have S4 := Lib.hid (show Sl.Sep w _ [_, _, _, _, Bag.bag (rowsI [])] from Bag.push_bag S3.out (Below.refl _ _) (Bag.BagOwn.nil _ _))
 clear S3
 go_wp2_with fail
 go_loopw [4] (fun i wr => ∃ (k : Nat) (A : Option Addr) (C : Nat) (ys : List LI), k ≤ N ∧ i = .int .i64 k ∧ Hid (conI ys = (conI xs).take k ∧ Sl.Sep w wr [L4.boxR w.heap.size 70 #[.string name, .slice a N c, .int .i64 auto], L4.boxR (w.heap.size + 1) 70 #[.string ⟨#[]⟩, .slice none 0 0, .int .i64 0], L4.boxR g1 70 #[.string name, .slice A k C, .int .i64 auto], Sv.ownV 135 4 A C k (cellsI ys), Bag.bag (rowsI ys)])) (fun i _ => N - (intOf i).toNat)
 case atStart => exact ⟨0, none, 0, [], Nat.zero_le _, rfl, rfl, S4.out⟩
 case round =>
  obtain ⟨k, A, C, ys, hk, rfl, hrel⟩ := hrel
  have HC := Lib.hid hrel.out.1
  have S5 := Lib.hid hrel.out.2
  clear hrel S4
  by_cases hlt : (k : Int) < (N : Int)
  ·
   skip
   have hkl : k < xs.length := by have := HN.out; omega
   obtain ⟨ad, x, rfl, hx⟩ := readsI_some (HR.out _ S5.out.old) k hkl
   obtain ⟨⟨kd, n, t⟩, ia, ic, l⟩ := x
   have HK := Lib.hid (fun w' (h : Below w.heap.size w w') => readsI_at (HR.out _ h) k _ hx)
   try dsimp only at HK
   have HCI := Lib.hid (fun w' (h : Below w.heap.size w w') => l6Item_any kd n t ia ic l (fit_at HF.out hx).len w' (((HX.out _ h).at_ (rowsI_mem hx)).reads))
   try dsimp only at HCI
   have HT := Lib.hid (conI_take hx)
   clear hx
   obtain ⟨f0, f1, f2⟩ := Bag.cs3 S5.out 0 rfl
   obtain ⟨f3, f4, f5⟩ := Bag.cs3 S5.out 1 rfl
   obtain ⟨f6, f7, f8⟩ := Bag.cs3 S5.out 2 rfl
   obtain ⟨f9, f10, f11, f12⟩ := HK.out _ S5.out.old
   go_upto_region 5 with fail
   clear f0 f1 f2 f3 f4 f5 f6 f7 f8 f9 f10 f11 f12
   refine Reg.wp_region_late (fun w' => (w'.cell? ⟨w.heap.size, 0, none⟩ = some (.string name) ∧ w'.cell? ⟨w.heap.size, 1, none⟩ = some (.slice (some ad) N c) ∧ w'.cell? ⟨w.heap.size, 2, none⟩ = some (.int .i64 auto)) ∧ (w'.cell? (ad.add (k * 4)) = some (.int .i64 kd) ∧ w'.cell? (⟨(ad.add (k * 4)).block, (ad.add (k * 4)).off + 1, none⟩) = some (.int .i64 n) ∧ w'.cell? (⟨(ad.add (k * 4)).block, (ad.add (k * 4)).off + 2, none⟩) = some (.string t) ∧ w'.cell? (⟨(ad.add (k * 4)).block, (ad.add (k * 4)).off + 3, none⟩) = some (.slice ia l.length ic))) (fun w' => (w'.cell? ⟨g1, 0, none⟩ = some (.string name) ∧ w'.cell? ⟨g1, 1, none⟩ = some (.slice A k C) ∧ w'.cell? ⟨g1, 2, none⟩ = some (.int .i64 auto))) 11 (by kernel_rfl) ⟨Bag.cs3 (Bag.drew1 S5.out) 0 rfl, HK.out _ (Bag.drew1 S5.out).old⟩ (Bag.cs3 (Bag.drew1 S5.out) 2 rfl) (fun hS hL => ?_)
   have S6 := Lib.hid (Bag.drew1 S5.out)
   clear S5
   generalize World.drew _ = w2 at hS hL S6 ⊢
   refine Reg.early_op (i := 0) (v := ?_) rfl (by kernel_rfl) (by kernel_rfl) (by kernel_rfl) rfl (by kernel_rfl) (by kernel_rfl) (fun _ _ _ h => h) (by rfl) ?_ hS hL ?_
   rotate_left
   ·
    (intro w hSw hSv; (try dsimp only at hSw); (try dsimp only at hSv); go_simp; try with_reducible rfl)
   try simp only [zp0, zp1, zp2, zp3, zp4]
   refine Reg.early_op (i := 1) (v := ?_) rfl (by kernel_rfl) (by kernel_rfl) (by kernel_rfl) rfl (by kernel_rfl) (by kernel_rfl) (fun _ _ _ h => h) (by rfl) ?_ hS hL ?_
   rotate_left
   ·
    (intro w hSw hSv; (try dsimp only at hSw); (try dsimp only at hSv); go_simp; try with_reducible rfl)
   try simp only [zp0, zp1, zp2, zp3, zp4]
   refine Reg.early_op (i := 2) (v := ?_) rfl (by kernel_rfl) (by kernel_rfl) (by kernel_rfl) rfl (by kernel_rfl) (by kernel_rfl) (fun _ _ _ h => h) (by rfl) ?_ hS hL ?_
   rotate_left
   ·
    (intro w hSw hSv; (try dsimp only at hSw); (try dsimp only at hSv); go_simp; try with_reducible rfl)
   try simp only [zp0, zp1, zp2, zp3, zp4]
   refine Reg.early_op (i := 3) (v := ?_) rfl (by kernel_rfl) (by kernel_rfl) (by kernel_rfl) rfl (by kernel_rfl) (by kernel_rfl) (fun _ _ _ h => h) (by rfl) ?_ hS hL ?_
   rotate_left
   ·
    (intro w hSw hSv; (try dsimp only at hSw); (try dsimp only at hSv); go_simp; try with_reducible rfl)
   try simp only [zp0, zp1, zp2, zp3, zp4]
   refine Reg.early_op (i := 4) (v := ?_) rfl (by kernel_rfl) (by kernel_rfl) (by kernel_rfl) rfl (by kernel_rfl) (by kernel_rfl) (fun _ _ _ h => h) (by rfl) ?_ hS hL ?_
   rotate_left
   ·
    (intro w hSw hSv; (try dsimp only at hSw); (try dsimp only at hSv); go_simp; try with_reducible rfl)
   try simp only [zp0, zp1, zp2, zp3, zp4]
   refine Reg.early_op (i := 5) (v := ?_) rfl (by kernel_rfl) (by kernel_rfl) (by kernel_rfl) rfl (by kernel_rfl) (by kernel_rfl) (fun _ _ _ h => h) (by rfl) ?_ hS hL ?_
   rotate_left
   ·
    (intro w hSw hSv; (try dsimp only at hSw); (try dsimp only at hSv); go_simp; try with_reducible rfl)
   try simp only [zp0, zp1, zp2, zp3, zp4]
   refine Reg.early_op (i := 6) (v := ?_) rfl (by kernel_rfl) (by kernel_rfl) (by kernel_rfl) rfl (by kernel_rfl) (by kernel_rfl) (fun _ _ _ h => h) (by rfl) ?_ hS hL ?_
   rotate_left
   ·
    (intro w hSw hSv; (try dsimp only at hSw); (try dsimp only at hSv); go_simp; try with_reducible rfl)
   try simp only [zp0, zp1, zp2, zp3, zp4]
   refine Reg.only_op (i := 7) rfl (by kernel_rfl) (fun K hK => ?_)
   go_simp
   go_at_call 84
   refine (HCI.out _ S6.out.old).mono ?_
   rintro e w3 ⟨a1, c1, rfl, ho, hb⟩
   have S7 := Lib.hid (show Sl.Sep w _ [_, _, _, _, _, Bag.bag ([(LI.mk ⟨kd, n, t⟩ a1 c1 l).row])] from Bag.push_bag S6.out hb ho)
   clear S6
   clear hb ho
   go_wp2_with fail
   clear hL
   refine hK.out _ _ ⟨Bag.cs3 S7.out 0 rfl, HK.out _ S7.out.old⟩ (Bag.cs3 S7.out 2 rfl) (fun hS hL => ?_)
   clear hK K
   try simp only [zp0, zp1, zp2, zp3, zp4]
   refine Reg.only_op (i := 8) rfl (by kernel_rfl) (fun K hK => ?_)
   go_simp
   have S8 := Lib.hid (show Sl.Sep w _ [_, _, _, _, _, _, Sv.ownV 135 4 (some ⟨w3.heap.size, 0, none⟩) 1 1 (cellsI [⟨⟨kd, n, t⟩, a1, c1, l⟩])] from Sv.push_own S7.out ((Below.refl _ _).alloc (Nat.le_refl _) _) (OwnV.madeAt w3 135 4 1 w3.heap.size #[.int .i64 kd, .int .i64 n, .string t, .slice a1 l.length c1] rfl (Nat.le_refl _) rfl (by decide)))
   clear S7
   obtain ⟨g2, hg⟩ : ∃ g', g' = w3.heap.size := ⟨_, rfl⟩
   rw [← hg] at S8 ⊢
   clear hg
   generalize w3.alloc (.cells #[.int .i64 kd, .int .i64 n, .string t, .slice a1 l.length c1] 135) = w4 at S8 ⊢
   clear hL
   refine hK.out _ _ ⟨Bag.cs3 S8.out 0 rfl, HK.out _ S8.out.old⟩ (Bag.cs3 S8.out 2 rfl) (fun hS hL => ?_)
   clear hK K
   try simp only [zp0, zp1, zp2, zp3, zp4]
   refine Reg.only_op (i := 9) rfl (by kernel_rfl) (fun K hK => ?_)
   refine Sv.step_append_s S8.out 3 rfl rfl _ _ 68 (by rfl) i0 (.agg #[.int .i64 0, .int .i64 0, .string ⟨#[]⟩, .slice none 0 0]) 56 Tryz.underlying68 HI.out.1 HI.out.2.1 HI.out.2.2.1 HI.out.2.2.2 rfl (by omega) _ (by rfl) rfl _ _ 1 _ _ (cellsI [⟨⟨kd, n, t⟩, a1, c1, l⟩]) (by rfl) rfl ((Sv.own_at S8.out 6 rfl).reads) rfl (cellsI_one _) (by unfold maxLen; omega) (by omega) ?_
   intro a3' c3' w5 hA
   have S9 := Lib.hid (show Sl.Sep w _ [_, _, _, Sv.ownV 135 4 a3' c3' (k + 1) (cellsI ys ++ (cellsI [⟨⟨kd, n, t⟩, a1, c1, l⟩])), _, _, Sv.ownV 135 4 (some ⟨g2, 0, none⟩) 1 1 (cellsI [⟨⟨kd, n, t⟩, a1, c1, l⟩])] from hA)
   clear S8
   clear hA
   clear hL
   refine hK.out _ _ ⟨Bag.cs3 S9.out 0 rfl, HK.out _ S9.out.old⟩ (Bag.cs3 S9.out 2 rfl) (fun hS hL => ?_)
   clear hK K
   try simp only [zp0, zp1, zp2, zp3, zp4]
   refine Reg.early_op (i := 10) (v := ?_) rfl (by kernel_rfl) (by kernel_rfl) (by kernel_rfl) rfl (by kernel_rfl) (by kernel_rfl) (fun _ _ _ h => h) (by rfl) ?_ hS hL ?_
   rotate_left
   ·
    (intro w hSw hSv; (try dsimp only at hSw); (try dsimp only at hSv); go_simp; try with_reducible rfl)
   try simp only [zp0, zp1, zp2, zp3, zp4]
   refine Reg.late_op (i := 11) rfl (by kernel_rfl) rfl (fun K hK => ?_)
   obtain ⟨f0, f1, f2⟩ := Bag.cs3 S9.out 2 rfl
   obtain ⟨z0, z1, z2⟩ := Bag.fs3 S9.out 2 rfl
   go_simp
   clear f0 f1 f2 z0 z1 z2
   have S10 := Lib.hid (show Sl.Sep w _ [_, _, L4.boxR g1 70 #[.string name, .slice a3' (k + 1) c3', .int .i64 auto], _, _, _, _] from L5.put_box5 (S9.out) 2 rfl 1 (.slice a3' (k + 1) c3'))
   clear S9
   refine hK.out _ _ ⟨Bag.cs3 S10.out 0 rfl, HK.out _ S10.out.old⟩ (fun hS => ?_)
   clear hL
   clear hK K
   try simp only [zp0, zp1, zp2, zp3, zp4]
   refine Reg.anyL_done (by kernel_rfl) ?_ _
   obtain ⟨f0, f1, f2⟩ := Bag.cs3 S10.out 0 rfl
   obtain ⟨f3, f4, f5⟩ := Bag.cs3 S10.out 1 rfl
   obtain ⟨f6, f7, f8⟩ := Bag.cs3 S10.out 2 rfl
   obtain ⟨f9, f10, f11, f12⟩ := HK.out _ S10.out.old
   clear f0 f1 f2 f3 f4 f5 f6 f7 f8 f9 f10 f11 f12
   have S11 := Lib.hid (show Sl.Sep w _ [_, _, _, _, Bag.bag (rowsI ys ++ ([(LI.mk ⟨kd, n, t⟩ a1 c1 l).row])), Bag.bag ([]), _] from Bag.bag_join S10.out 4 5 (by decide) rfl rfl)
   clear S10
   have S12 := Lib.hid (show Sl.Sep w _ [_, _, _, _, _] from Bag.take S11.out [0, 1, 2, 3, 4] (by rfl) (by decide))
   clear S11
   obtain ⟨f0, f1, f2⟩ := Bag.cs3 S12.out 0 rfl
   obtain ⟨f3, f4, f5⟩ := Bag.cs3 S12.out 1 rfl
   obtain ⟨f6, f7, f8⟩ := Bag.cs3 S12.out 2 rfl
   obtain ⟨f9, f10, f11, f12⟩ := HK.out _ S12.out.old
   go_wp2_with fail
   go_roundw
   case rel =>
    refine ⟨k + 1, a3', c3', ys ++ [⟨⟨kd, n, t⟩, a1, c1, l⟩], by omega, by go_num, And.intro ?_ ?_⟩
    ·
     rw [HT.out, ← HC.out]; exact List.map_append
    ·
     rw [cellsI_append, rowsI_append]; exact S12.out
   case measure => simp [intOf]; omega
  ·
   skip
   obtain ⟨f0, f1, f2⟩ := Bag.cs3 S5.out 0 rfl
   obtain ⟨f3, f4, f5⟩ := Bag.cs3 S5.out 1 rfl
   obtain ⟨f6, f7, f8⟩ := Bag.cs3 S5.out 2 rfl
   obtain ⟨z0, z1, z2⟩ := Bag.fs3 S5.out 1 rfl
   go_wp2_with fail
   clear f0 f1 f2 f3 f4 f5 f6 f7 f8 z0 z1 z2
   have S6 := Lib.hid (show Sl.Sep w _ [L4.boxR w.heap.size 70 #[.string name, .slice a N c, .int .i64 auto], L4.boxR (w.heap.size + 1) 70 #[.string name, .slice A k C, .int .i64 auto], L4.boxR g1 70 #[.string name, .slice A k C, .int .i64 auto], Sv.ownV 135 4 A C k (cellsI ys), Bag.bag (rowsI ys)] from L5.put_box5 (L5.put_box5 (L5.put_box5 (S5.out) 1 rfl 0 (.string name)) 1 rfl 1 (.slice A k C)) 1 rfl 2 (.int .i64 auto))
   clear S5
   obtain ⟨f0, f1, f2⟩ := Bag.cs3 S6.out 1 rfl
   obtain rfl : k = N := by omega
   refine bodyPost_ret (v := .agg #[.string name, .slice A k C, .int .i64 auto]) (by simp [results, Tryz.results53, go_sem, *]) rfl ?_
   have hlen : k = ys.length := by have h1 := congrArg List.length HC.out; have := HN.out; simp at h1; omega
   have hcon : conI ys = conI xs := by rw [HC.out, List.take_of_length_le (by have := HN.out; simp; omega)]
   subst hlen
   have S90 := Lib.hid (Bag.bag_of_one S6.out 3 (r := rowI A C ys) rfl)
   have S91 := Lib.hid (Bag.bag_join S90.out 3 4 (by decide) rfl rfl)
   exact ⟨⟨name, A, C, ys, auto⟩, rfl, by unfold LS.con; rw [hcon], Bag.bag_from S91.out 3 rfl, S91.out.old⟩
end Go.Proofs.YthljdhfgphebnaaGreat.L6

