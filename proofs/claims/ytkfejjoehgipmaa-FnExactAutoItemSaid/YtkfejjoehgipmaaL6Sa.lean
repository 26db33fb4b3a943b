/-
  The contracts of chapter 6's functions of the specification: l6Item, l6Copy. Conditions: keys' texts of at most 2^40 bytes, at most 2^20 fields and items. (Written by my program gen_l6a.py.)
-/
import Derived.Test.YtkfejjoehgipmaaTk
import Derived.Test.YtkfejjoehgipmaaL6Num
import Derived.Test.YtkfejjoehgipmaaPc
import Derived.Test.YtkfejjoehgipmaaL5Set
import Derived.Test.YtkfejjoehgipmaaRegL
import Derived.Deep.RegionHeld3
namespace Go.Proofs.Ytkfejjoehgipmaa.L6
set_option maxRecDepth 100000
open L4 (K isK cmpK R inR encU)
open L5 (F isR isN cellsF encR eqR Small)
open Go.ChangeShapes Go.WideShapes Go.ChangeAt Go.RowKit Mem Sl Ex L2 Sv Bag
set_option linter.unusedVariables false
set_option linter.unusedSimpArgs false

set_option maxHeartbeats 2000000 in
theorem l6Item_any (kd n : Int) (s : ByteArray) (a : Option Addr) (c : Nat) (l : List F) (hl : l.length ≤ 1048576) (w : World) (hr : Reads w w.heap.size a (cellsF l)) :
    Calls Try.prog 97 #[.agg #[.int .i64 kd, .int .i64 n, .string s, .slice a l.length c]] w (GaveI w ⟨⟨kd, n, s⟩, l⟩) := by
  have HC := Lib.hid (fun w' (h : Below w.heap.size w w') => L5.l5Copy_any a c l (by have := hl; omega) w' ((hr.below h).more h.size))
  obtain ⟨N, hN⟩ : ∃ n, n = l.length := ⟨_, rfl⟩
  rw [← hN] at HC ⊢
  have HN := Lib.hid hN
  clear hN hr hl
  have S1 := Lib.hid (show Sl.Sep w ((w.alloc (.cells #[.int .i64 kd, .int .i64 n, .string s, .slice a N c] 40)).alloc (.cells #[.int .i64 0, .int .i64 0, .string ⟨#[]⟩, .slice none 0 0] 40)) [L4.boxR w.heap.size 40 #[.int .i64 kd, .int .i64 n, .string s, .slice a N c], L4.boxR (w.heap.size + 1) 40 #[.int .i64 0, .int .i64 0, .string ⟨#[]⟩, .slice none 0 0]] from L4.push_box (L4.push_box (Sl.Sep.start w) 40 #[.int .i64 kd, .int .i64 n, .string s, .slice a N c] (w.heap.size) (by simp)) 40 #[.int .i64 0, .int .i64 0, .string ⟨#[]⟩, .slice none 0 0] (w.heap.size + 1) (by simp))
  obtain ⟨wa, hwa⟩ : ∃ u, u = ((w.alloc (.cells #[.int .i64 kd, .int .i64 n, .string s, .slice a N c] 40)).alloc (.cells #[.int .i64 0, .int .i64 0, .string ⟨#[]⟩, .slice none 0 0] 40)) := ⟨_, rfl⟩
  rw [← hwa] at S1
  go_enter Try.func97, Try.ntmps97
  go_upto_region 1 with fail
  rw [← hwa]
  clear hwa
  go_upto_region 1 with fail
  refine wp_region_held_drew (S := (fun w' => World.cell? w' ⟨w.heap.size, 0, none⟩ = some (.int .i64 kd) ∧ World.cell? w' ⟨w.heap.size, 1, none⟩ = some (.int .i64 n) ∧ World.cell? w' ⟨w.heap.size, 2, none⟩ = some (.string s) ∧ World.cell? w' ⟨w.heap.size, 3, none⟩ = some (.slice a N c))) (by kernel_rfl) ⟨Bag.cell_at S1.out 0 rfl 0 rfl, Bag.cell_at S1.out 0 rfl 1 rfl, Bag.cell_at S1.out 0 rfl 2 rfl, Bag.cell_at S1.out 0 rfl 3 rfl⟩ (fun hS => ?_)
  have S2 := Lib.hid (show Sl.Sep w _ [L4.boxR w.heap.size 40 #[.int .i64 kd, .int .i64 n, .string s, .slice a N c], L4.boxR (w.heap.size + 1) 40 #[.int .i64 0, .int .i64 0, .string ⟨#[]⟩, .slice none 0 0]] from Bag.drew1 S1.out)
  clear S1
  generalize World.drew _ = w1 at hS S2 ⊢
  refine tk 0 rfl ?_
  try simp only [zp0, zp1, zp2, zp3, zp4]
  refine tk 1 rfl ?_
  try simp only [zp0, zp1, zp2, zp3, zp4]
  refine tk 2 rfl ?_
  try simp only [zp0, zp1, zp2, zp3, zp4]
  refine tk 3 rfl ?_
  try simp only [zp0, zp1, zp2, zp3, zp4]
  refine Reg.one_op (i := 4) rfl (by kernel_rfl) (fun K hK => ?_)
  go_simp
  go_at_call 67
  refine (HC.out _ S2.out.old).mono ?_
  rintro e w2 ⟨a1, c1, rfl, ho, hb⟩
  have S3 := Lib.hid (show Sl.Sep w _ [L4.boxR w.heap.size 40 #[.int .i64 kd, .int .i64 n, .string s, .slice a N c], L4.boxR (w.heap.size + 1) 40 #[.int .i64 0, .int .i64 0, .string ⟨#[]⟩, .slice none 0 0], Sv.ownV 102 2 a1 c1 N (cellsF l)] from Sv.push_own S2.out hb ho)
  clear S2
  clear hb ho
  go_wp2_with fail
  refine hK.out _ _ ⟨Bag.cell_at S3.out 0 rfl 0 rfl, Bag.cell_at S3.out 0 rfl 1 rfl, Bag.cell_at S3.out 0 rfl 2 rfl, Bag.cell_at S3.out 0 rfl 3 rfl⟩ (fun hS => ?_)
  clear hK K
  try simp only [zp0, zp1, zp2, zp3, zp4]
  refine tk 5 rfl ?_
  try simp only [zp0, zp1, zp2, zp3, zp4]
  refine Reg.one_op (i := 6) rfl (by kernel_rfl) (fun K hK => ?_)
  have f0 : World.cell? _ ⟨w.heap.size + 1, 0, none⟩ = some (.int .i64 0) := Bag.cell_at S3.out 1 rfl 0 rfl
  have f1 : World.cell? _ ⟨w.heap.size + 1, 1, none⟩ = some (.int .i64 0) := Bag.cell_at S3.out 1 rfl 1 rfl
  have f2 : World.cell? _ ⟨w.heap.size + 1, 2, none⟩ = some (.string ⟨#[]⟩) := Bag.cell_at S3.out 1 rfl 2 rfl
  have f3 : World.cell? _ ⟨w.heap.size + 1, 3, none⟩ = some (.slice none 0 0) := Bag.cell_at S3.out 1 rfl 3 rfl
  have z0 := Bag.free_at S3.out 1 rfl 0
  have z1 := Bag.free_at S3.out 1 rfl 1
  have z2 := Bag.free_at S3.out 1 rfl 2
  have z3 := Bag.free_at S3.out 1 rfl 3
  go_simp
  clear f0 f1 f2 f3 z0 z1 z2 z3
  have S4 := Lib.hid (show Sl.Sep w _ [L4.boxR w.heap.size 40 #[.int .i64 kd, .int .i64 n, .string s, .slice a N c], L4.boxR (w.heap.size + 1) 40 #[.int .i64 kd, .int .i64 n, .string s, .slice a1 N c1], Sv.ownV 102 2 a1 c1 N (cellsF l)] from L5.put_box5 (L5.put_box5 (L5.put_box5 (L5.put_box5 (S3.out) 1 rfl 0 (.int .i64 kd)) 1 rfl 1 (.int .i64 n)) 1 rfl 2 (.string s)) 1 rfl 3 (.slice a1 N c1))
  clear S3
  refine hK.out _ _ ⟨Bag.cell_at S4.out 0 rfl 0 rfl, Bag.cell_at S4.out 0 rfl 1 rfl, Bag.cell_at S4.out 0 rfl 2 rfl, Bag.cell_at S4.out 0 rfl 3 rfl⟩ (fun hS => ?_)
  clear hK K
  try simp only [zp0, zp1, zp2, zp3, zp4]
  refine wpAnyH_done (by kernel_rfl) ?_ _
  have f0 : World.cell? _ ⟨w.heap.size, 0, none⟩ = some (.int .i64 kd) := Bag.cell_at S4.out 0 rfl 0 rfl
  have f1 : World.cell? _ ⟨w.heap.size, 1, none⟩ = some (.int .i64 n) := Bag.cell_at S4.out 0 rfl 1 rfl
  have f2 : World.cell? _ ⟨w.heap.size, 2, none⟩ = some (.string s) := Bag.cell_at S4.out 0 rfl 2 rfl
  have f3 : World.cell? _ ⟨w.heap.size, 3, none⟩ = some (.slice a N c) := Bag.cell_at S4.out 0 rfl 3 rfl
  have f4 : World.cell? _ ⟨w.heap.size + 1, 0, none⟩ = some (.int .i64 kd) := Bag.cell_at S4.out 1 rfl 0 rfl
  have f5 : World.cell? _ ⟨w.heap.size + 1, 1, none⟩ = some (.int .i64 n) := Bag.cell_at S4.out 1 rfl 1 rfl
  have f6 : World.cell? _ ⟨w.heap.size + 1, 2, none⟩ = some (.string s) := Bag.cell_at S4.out 1 rfl 2 rfl
  have f7 : World.cell? _ ⟨w.heap.size + 1, 3, none⟩ = some (.slice a1 N c1) := Bag.cell_at S4.out 1 rfl 3 rfl
  go_wp2_with fail
  refine bodyPost_ret (v := .agg #[.int .i64 kd, .int .i64 n, .string s, .slice a1 N c1]) (by simp [results, Try.results97, go_sem, *]) rfl ?_
  have hb := Bag.bag_from (Bag.bag_of_one S4.out 2 (r := (LI.mk ⟨kd, n, s⟩ a1 c1 l).row) (by show some _ = some _; rw [HN.out]; rfl)) 2 rfl
  exact ⟨a1, c1, by rw [HN.out], hb, S4.out.old⟩
theorem infoItem : (Try.prog.info? 40).map (fun i => (i.zero, i.size, i.bytes)) = some (some (.agg #[.int .i64 0, .int .i64 0, .string ⟨#[]⟩, .slice none 0 0]), 4, 56) := by kernel_rfl
theorem itemInfo : ∃ i, Try.prog.info? 40 = some i ∧ i.zero = some (.agg #[.int .i64 0, .int .i64 0, .string ⟨#[]⟩, .slice none 0 0]) ∧ i.size = 4 ∧ i.bytes = 56 := by
  have h := infoItem
  rw [Option.map_eq_some_iff] at h
  obtain ⟨i, h1, h2⟩ := h
  simp only [Prod.mk.injEq] at h2
  exact ⟨i, h1, h2⟩
theorem readsI_at {w : World} {B : Nat} {ad : Addr} {xs : List LI} (h : Reads w B (some ad) (cellsI xs)) (j : Nat) (x : LI) (hx : xs[j]? = some x) :
    w.cell? (ad.add (j * 4)) = some (.int .i64 x.k.kind) ∧ w.cell? ⟨(ad.add (j * 4)).block, (ad.add (j * 4)).off + 1, none⟩ = some (.int .i64 x.k.n) ∧ w.cell? ⟨(ad.add (j * 4)).block, (ad.add (j * 4)).off + 2, none⟩ = some (.string x.k.text) ∧ w.cell? ⟨(ad.add (j * 4)).block, (ad.add (j * 4)).off + 3, none⟩ = some (.slice x.a x.l.length x.c) := by
  obtain ⟨hj, rfl⟩ := List.getElem?_eq_some_iff.1 hx
  obtain ⟨ad', e, _, h1⟩ := readsI h j hj
  injection e with e
  subst e
  exact h1
theorem readsI_some {w : World} {B : Nat} {a : Option Addr} {xs : List LI} (h : Reads w B a (cellsI xs)) (j : Nat) (hj : j < xs.length) : ∃ ad x, a = some ad ∧ xs[j]? = some x := by
  obtain ⟨ad, e, _⟩ := readsI h j hj
  exact ⟨ad, _, e, List.getElem?_eq_getElem hj⟩
theorem conI_take {xs : List LI} {j : Nat} {x : LI} (hx : xs[j]? = some x) : (conI xs).take (j + 1) = (conI xs).take j ++ [x.con] := by
  obtain ⟨hj, rfl⟩ := List.getElem?_eq_some_iff.1 hx
  rw [List.take_succ_eq_append_getElem (by simpa using hj), conI_get _ _ hj]
theorem rowsI_mem {xs : List LI} {j : Nat} {x : LI} (hx : xs[j]? = some x) : x.row ∈ rowsI xs := by
  obtain ⟨hj, rfl⟩ := List.getElem?_eq_some_iff.1 hx
  exact rowsI_at xs j hj
theorem fit_at {xs : List LI} {j : Nat} {x : LI} (h : ∀ y ∈ conI xs, FitI y) (hx : xs[j]? = some x) : FitI x.con := by
  obtain ⟨hj, rfl⟩ := List.getElem?_eq_some_iff.1 hx
  exact h _ (List.mem_map.2 ⟨_, List.getElem_mem hj, rfl⟩)
set_option maxHeartbeats 4000000 in
theorem l6Copy_any (y : LS) (hf : FitS y.con) (w : World) (hr : RowsRd w w.heap.size y.rows) :
    Calls Try.prog 66 #[y.v] w (GaveS w y.con) := by
  obtain ⟨i0, hi1, hi2, hi3, hi4⟩ := itemInfo
  have HI := Lib.hid (And.intro hi1 (And.intro hi2 (And.intro hi3 hi4)))
  clear hi1 hi2 hi3 hi4
  obtain ⟨name, a, c, xs, auto⟩ := y
  have HR := Lib.hid (fun w' (h : Below w.heap.size w w') => LS.outer (hr.below h))
  have HX := Lib.hid (fun w' (h : Below w.heap.size w w') => (LS.inner (hr.below h)).more h.size)
  have HF := Lib.hid hf.items
  have hl := hf.len
  simp only [LS.con, conI_length] at hl
  unfold LS.v LS.cells LS.con
  dsimp only at HR HX HF hl ⊢
  obtain ⟨N, hN⟩ : ∃ n, n = xs.length := ⟨_, rfl⟩
  rw [← hN] at hl ⊢
  have hl' : (N : Int) ≤ 1048576 := by omega
  have HN := Lib.hid hN
  clear hN hr hf
  have S1 := Lib.hid (show Sl.Sep w ((w.alloc (.cells #[.string name, .slice a N c, .int .i64 auto] 26)).alloc (.cells #[.string ⟨#[]⟩, .slice none 0 0, .int .i64 0] 26)) [L4.boxR w.heap.size 26 #[.string name, .slice a N c, .int .i64 auto], L4.boxR (w.heap.size + 1) 26 #[.string ⟨#[]⟩, .slice none 0 0, .int .i64 0]] from L4.push_box (L4.push_box (Sl.Sep.start w) 26 #[.string name, .slice a N c, .int .i64 auto] (w.heap.size) (by simp)) 26 #[.string ⟨#[]⟩, .slice none 0 0, .int .i64 0] (w.heap.size + 1) (by simp))
  obtain ⟨wa, hwa⟩ : ∃ u, u = ((w.alloc (.cells #[.string name, .slice a N c, .int .i64 auto] 26)).alloc (.cells #[.string ⟨#[]⟩, .slice none 0 0, .int .i64 0] 26)) := ⟨_, rfl⟩
  rw [← hwa] at S1
  go_enter Try.func66, Try.ntmps66
  go_upto_region 1 with fail
  rw [← hwa]
  clear hwa
  have f0 : World.cell? _ ⟨w.heap.size, 0, none⟩ = some (.string name) := Bag.cell_at S1.out 0 rfl 0 rfl
  have f1 : World.cell? _ ⟨w.heap.size, 1, none⟩ = some (.slice a N c) := Bag.cell_at S1.out 0 rfl 1 rfl
  have f2 : World.cell? _ ⟨w.heap.size, 2, none⟩ = some (.int .i64 auto) := Bag.cell_at S1.out 0 rfl 2 rfl
  have f3 : World.cell? _ ⟨w.heap.size + 1, 0, none⟩ = some (.string ⟨#[]⟩) := Bag.cell_at S1.out 1 rfl 0 rfl
  have f4 : World.cell? _ ⟨w.heap.size + 1, 1, none⟩ = some (.slice none 0 0) := Bag.cell_at S1.out 1 rfl 1 rfl
  have f5 : World.cell? _ ⟨w.heap.size + 1, 2, none⟩ = some (.int .i64 0) := Bag.cell_at S1.out 1 rfl 2 rfl
  go_upto_region 2 with fail
  clear f0 f1 f2 f3 f4 f5
  have S2 := Lib.hid (show Sl.Sep w _ [L4.boxR w.heap.size 26 #[.string name, .slice a N c, .int .i64 auto], L4.boxR (w.heap.size + 1) 26 #[.string ⟨#[]⟩, .slice none 0 0, .int .i64 0], L4.boxR wa.heap.size 26 #[.string name, .slice none 0 0, .int .i64 auto]] from L4.push_box S1.out 26 #[.string name, .slice none 0 0, .int .i64 auto] wa.heap.size rfl)
  clear S1
  obtain ⟨g1, hg⟩ : ∃ g', g' = wa.heap.size := ⟨_, rfl⟩
  rw [← hg] at S2 ⊢
  clear hg
  generalize wa.alloc (.cells #[.string name, .slice none 0 0, .int .i64 auto] 26) = w1 at S2 ⊢
  have S3 := Lib.hid (show Sl.Sep w _ [L4.boxR w.heap.size 26 #[.string name, .slice a N c, .int .i64 auto], L4.boxR (w.heap.size + 1) 26 #[.string ⟨#[]⟩, .slice none 0 0, .int .i64 0], L4.boxR g1 26 #[.string name, .slice none 0 0, .int .i64 auto], Sv.ownV 40 4 none 0 0 (cellsI [])] from Sv.push_own S2.out (Below.refl _ _) (OwnV.nil _ _ _ _))
  clear S2
  have S4 := Lib.hid (show Sl.Sep w _ [L4.boxR w.heap.size 26 #[.string name, .slice a N c, .int .i64 auto], L4.boxR (w.heap.size + 1) 26 #[.string ⟨#[]⟩, .slice none 0 0, .int .i64 0], L4.boxR g1 26 #[.string name, .slice none 0 0, .int .i64 auto], Sv.ownV 40 4 none 0 0 (cellsI []), Bag.bag (rowsI [])] from Bag.push_bag S3.out (Below.refl _ _) (Bag.BagOwn.nil _ _))
  clear S3
  go_wp2_with fail
  go_loopw [4] (fun i wr => ∃ (k : Nat) (A : Option Addr) (C : Nat) (ys : List LI), k ≤ N ∧ i = .int .i64 k ∧ Hid (conI ys = (conI xs).take k ∧ Sl.Sep w wr [L4.boxR w.heap.size 26 #[.string name, .slice a N c, .int .i64 auto], L4.boxR (w.heap.size + 1) 26 #[.string ⟨#[]⟩, .slice none 0 0, .int .i64 0], L4.boxR g1 26 #[.string name, .slice A k C, .int .i64 auto], Sv.ownV 40 4 A C k (cellsI ys), Bag.bag (rowsI ys)])) (fun i _ => N - (intOf i).toNat)
  case atStart => exact ⟨0, none, 0, [], Nat.zero_le _, rfl, rfl, S4.out⟩
  case round =>
    obtain ⟨k, A, C, ys, hk, rfl, hrel⟩ := hrel
    have HC := Lib.hid hrel.out.1
    have S5 := Lib.hid hrel.out.2
    clear hrel S4
    by_cases hlt : (k : Int) < (N : Int)
    · skip
      have hkl : k < xs.length := by have := HN.out; omega
      obtain ⟨ad, x, rfl, hx⟩ := readsI_some (HR.out _ S5.out.old) k hkl
      obtain ⟨⟨kd, n, t⟩, ia, ic, l⟩ := x
      have HK := Lib.hid (fun w' (h : Below w.heap.size w w') => readsI_at (HR.out _ h) k _ hx)
      try dsimp only at HK
      have HCI := Lib.hid (fun w' (h : Below w.heap.size w w') => l6Item_any kd n t ia ic l (fit_at HF.out hx).len w' (((HX.out _ h).at_ (rowsI_mem hx)).reads))
      try dsimp only at HCI
      have HT := Lib.hid (conI_take hx)
      clear hx
      have f0 : World.cell? _ ⟨w.heap.size, 0, none⟩ = some (.string name) := Bag.cell_at S5.out 0 rfl 0 rfl
      have f1 : World.cell? _ ⟨w.heap.size, 1, none⟩ = some (.slice (some ad) N c) := Bag.cell_at S5.out 0 rfl 1 rfl
      have f2 : World.cell? _ ⟨w.heap.size, 2, none⟩ = some (.int .i64 auto) := Bag.cell_at S5.out 0 rfl 2 rfl
      have f3 : World.cell? _ ⟨w.heap.size + 1, 0, none⟩ = some (.string ⟨#[]⟩) := Bag.cell_at S5.out 1 rfl 0 rfl
      have f4 : World.cell? _ ⟨w.heap.size + 1, 1, none⟩ = some (.slice none 0 0) := Bag.cell_at S5.out 1 rfl 1 rfl
      have f5 : World.cell? _ ⟨w.heap.size + 1, 2, none⟩ = some (.int .i64 0) := Bag.cell_at S5.out 1 rfl 2 rfl
      have f6 : World.cell? _ ⟨g1, 0, none⟩ = some (.string name) := Bag.cell_at S5.out 2 rfl 0 rfl
      have f7 : World.cell? _ ⟨g1, 1, none⟩ = some (.slice A k C) := Bag.cell_at S5.out 2 rfl 1 rfl
      have f8 : World.cell? _ ⟨g1, 2, none⟩ = some (.int .i64 auto) := Bag.cell_at S5.out 2 rfl 2 rfl
      have f9 : World.cell? _ (ad.add (k * 4)) = some (.int .i64 kd) := (HK.out _ S5.out.old).1
      have f10 : World.cell? _ (⟨(ad.add (k * 4)).block, (ad.add (k * 4)).off + 1, none⟩) = some (.int .i64 n) := (HK.out _ S5.out.old).2.1
      have f11 : World.cell? _ (⟨(ad.add (k * 4)).block, (ad.add (k * 4)).off + 2, none⟩) = some (.string t) := (HK.out _ S5.out.old).2.2.1
      have f12 : World.cell? _ (⟨(ad.add (k * 4)).block, (ad.add (k * 4)).off + 3, none⟩) = some (.slice ia l.length ic) := (HK.out _ S5.out.old).2.2.2
      go_upto_region 5 with fail
      clear f0 f1 f2 f3 f4 f5 f6 f7 f8 f9 f10 f11 f12
      refine Reg.wp_region_late (fun w' => World.cell? w' ⟨w.heap.size, 0, none⟩ = some (.string name) ∧ World.cell? w' ⟨w.heap.size, 1, none⟩ = some (.slice (some ad) N c) ∧ World.cell? w' ⟨w.heap.size, 2, none⟩ = some (.int .i64 auto) ∧ World.cell? w' (ad.add (k * 4)) = some (.int .i64 kd) ∧ World.cell? w' (⟨(ad.add (k * 4)).block, (ad.add (k * 4)).off + 1, none⟩) = some (.int .i64 n) ∧ World.cell? w' (⟨(ad.add (k * 4)).block, (ad.add (k * 4)).off + 2, none⟩) = some (.string t) ∧ World.cell? w' (⟨(ad.add (k * 4)).block, (ad.add (k * 4)).off + 3, none⟩) = some (.slice ia l.length ic)) (fun w' => World.cell? w' ⟨g1, 0, none⟩ = some (.string name) ∧ World.cell? w' ⟨g1, 1, none⟩ = some (.slice A k C) ∧ World.cell? w' ⟨g1, 2, none⟩ = some (.int .i64 auto)) 11 (by kernel_rfl) ⟨Bag.cell_at S5.out 0 rfl 0 rfl, Bag.cell_at S5.out 0 rfl 1 rfl, Bag.cell_at S5.out 0 rfl 2 rfl, (HK.out _ S5.out.old).1, (HK.out _ S5.out.old).2.1, (HK.out _ S5.out.old).2.2.1, (HK.out _ S5.out.old).2.2.2⟩ ⟨Bag.cell_at S5.out 2 rfl 0 rfl, Bag.cell_at S5.out 2 rfl 1 rfl, Bag.cell_at S5.out 2 rfl 2 rfl⟩ (fun hS hL => ?_)
      have S6 := Lib.hid (show Sl.Sep w _ [L4.boxR w.heap.size 26 #[.string name, .slice (some ad) N c, .int .i64 auto], L4.boxR (w.heap.size + 1) 26 #[.string ⟨#[]⟩, .slice none 0 0, .int .i64 0], L4.boxR g1 26 #[.string name, .slice A k C, .int .i64 auto], Sv.ownV 40 4 A C k (cellsI ys), Bag.bag (rowsI ys)] from Bag.drew1 S5.out)
      clear S5
      generalize World.drew _ = w2 at hS hL S6 ⊢
      refine Reg.early_op (i := 0) (v := ?_) rfl (by kernel_rfl) (by kernel_rfl) (by kernel_rfl) rfl (by kernel_rfl) (by kernel_rfl) (fun _ _ _ h => h) (by rfl) ?_ hS hL ?_
      rotate_left
      · (intro w hSw hSv; (try dsimp only at hSw); (try dsimp only at hSv); go_simp; try with_reducible rfl)
      try simp only [zp0, zp1, zp2, zp3, zp4]
      refine Reg.early_op (i := 1) (v := ?_) rfl (by kernel_rfl) (by kernel_rfl) (by kernel_rfl) rfl (by kernel_rfl) (by kernel_rfl) (fun _ _ _ h => h) (by rfl) ?_ hS hL ?_
      rotate_left
      · (intro w hSw hSv; (try dsimp only at hSw); (try dsimp only at hSv); go_simp; try with_reducible rfl)
      try simp only [zp0, zp1, zp2, zp3, zp4]
      refine Reg.early_op (i := 2) (v := ?_) rfl (by kernel_rfl) (by kernel_rfl) (by kernel_rfl) rfl (by kernel_rfl) (by kernel_rfl) (fun _ _ _ h => h) (by rfl) ?_ hS hL ?_
      rotate_left
      · (intro w hSw hSv; (try dsimp only at hSw); (try dsimp only at hSv); go_simp; try with_reducible rfl)
      try simp only [zp0, zp1, zp2, zp3, zp4]
      refine Reg.early_op (i := 3) (v := ?_) rfl (by kernel_rfl) (by kernel_rfl) (by kernel_rfl) rfl (by kernel_rfl) (by kernel_rfl) (fun _ _ _ h => h) (by rfl) ?_ hS hL ?_
      rotate_left
      · (intro w hSw hSv; (try dsimp only at hSw); (try dsimp only at hSv); go_simp; try with_reducible rfl)
      try simp only [zp0, zp1, zp2, zp3, zp4]
      refine Reg.early_op (i := 4) (v := ?_) rfl (by kernel_rfl) (by kernel_rfl) (by kernel_rfl) rfl (by kernel_rfl) (by kernel_rfl) (fun _ _ _ h => h) (by rfl) ?_ hS hL ?_
      rotate_left
      · (intro w hSw hSv; (try dsimp only at hSw); (try dsimp only at hSv); go_simp; try with_reducible rfl)
      try simp only [zp0, zp1, zp2, zp3, zp4]
      refine Reg.early_op (i := 5) (v := ?_) rfl (by kernel_rfl) (by kernel_rfl) (by kernel_rfl) rfl (by kernel_rfl) (by kernel_rfl) (fun _ _ _ h => h) (by rfl) ?_ hS hL ?_
      rotate_left
      · (intro w hSw hSv; (try dsimp only at hSw); (try dsimp only at hSv); go_simp; try with_reducible rfl)
      try simp only [zp0, zp1, zp2, zp3, zp4]
      refine Reg.early_op (i := 6) (v := ?_) rfl (by kernel_rfl) (by kernel_rfl) (by kernel_rfl) rfl (by kernel_rfl) (by kernel_rfl) (fun _ _ _ h => h) (by rfl) ?_ hS hL ?_
      rotate_left
      · (intro w hSw hSv; (try dsimp only at hSw); (try dsimp only at hSv); go_simp; try with_reducible rfl)
      try simp only [zp0, zp1, zp2, zp3, zp4]
      refine Reg.only_op (i := 7) rfl (by kernel_rfl) (fun K hK => ?_)
      go_simp
      go_at_call 97
      refine (HCI.out _ S6.out.old).mono ?_
      rintro e w3 ⟨a1, c1, rfl, ho, hb⟩
      have S7 := Lib.hid (show Sl.Sep w _ [L4.boxR w.heap.size 26 #[.string name, .slice (some ad) N c, .int .i64 auto], L4.boxR (w.heap.size + 1) 26 #[.string ⟨#[]⟩, .slice none 0 0, .int .i64 0], L4.boxR g1 26 #[.string name, .slice A k C, .int .i64 auto], Sv.ownV 40 4 A C k (cellsI ys), Bag.bag (rowsI ys), Bag.bag ([(LI.mk ⟨kd, n, t⟩ a1 c1 l).row])] from Bag.push_bag S6.out hb ho)
      clear S6
      clear hb ho
      go_wp2_with fail
      clear hL
      refine hK.out _ _ ⟨Bag.cell_at S7.out 0 rfl 0 rfl, Bag.cell_at S7.out 0 rfl 1 rfl, Bag.cell_at S7.out 0 rfl 2 rfl, (HK.out _ S7.out.old).1, (HK.out _ S7.out.old).2.1, (HK.out _ S7.out.old).2.2.1, (HK.out _ S7.out.old).2.2.2⟩ ⟨Bag.cell_at S7.out 2 rfl 0 rfl, Bag.cell_at S7.out 2 rfl 1 rfl, Bag.cell_at S7.out 2 rfl 2 rfl⟩ (fun hS hL => ?_)
      clear hK K
      try simp only [zp0, zp1, zp2, zp3, zp4]
      refine Reg.only_op (i := 8) rfl (by kernel_rfl) (fun K hK => ?_)
      go_simp
      have S8 := Lib.hid (show Sl.Sep w _ [L4.boxR w.heap.size 26 #[.string name, .slice (some ad) N c, .int .i64 auto], L4.boxR (w.heap.size + 1) 26 #[.string ⟨#[]⟩, .slice none 0 0, .int .i64 0], L4.boxR g1 26 #[.string name, .slice A k C, .int .i64 auto], Sv.ownV 40 4 A C k (cellsI ys), Bag.bag (rowsI ys), Bag.bag ([(LI.mk ⟨kd, n, t⟩ a1 c1 l).row]), Sv.ownV 40 4 (some ⟨w3.heap.size, 0, none⟩) 1 1 (cellsI [⟨⟨kd, n, t⟩, a1, c1, l⟩])] from Sv.push_own S7.out ((Below.refl _ _).alloc (Nat.le_refl _) _) (OwnV.madeAt w3 40 4 1 w3.heap.size #[.int .i64 kd, .int .i64 n, .string t, .slice a1 l.length c1] rfl (Nat.le_refl _) rfl (by decide)))
      clear S7
      obtain ⟨g2, hg⟩ : ∃ g', g' = w3.heap.size := ⟨_, rfl⟩
      rw [← hg] at S8 ⊢
      clear hg
      generalize w3.alloc (.cells #[.int .i64 kd, .int .i64 n, .string t, .slice a1 l.length c1] 40) = w4 at S8 ⊢
      clear hL
      refine hK.out _ _ ⟨Bag.cell_at S8.out 0 rfl 0 rfl, Bag.cell_at S8.out 0 rfl 1 rfl, Bag.cell_at S8.out 0 rfl 2 rfl, (HK.out _ S8.out.old).1, (HK.out _ S8.out.old).2.1, (HK.out _ S8.out.old).2.2.1, (HK.out _ S8.out.old).2.2.2⟩ ⟨Bag.cell_at S8.out 2 rfl 0 rfl, Bag.cell_at S8.out 2 rfl 1 rfl, Bag.cell_at S8.out 2 rfl 2 rfl⟩ (fun hS hL => ?_)
      clear hK K
      try simp only [zp0, zp1, zp2, zp3, zp4]
      refine Reg.only_op (i := 9) rfl (by kernel_rfl) (fun K hK => ?_)
      refine Sv.step_append_s S8.out 3 rfl rfl _ _ 24 (by rfl) i0 (.agg #[.int .i64 0, .int .i64 0, .string ⟨#[]⟩, .slice none 0 0]) 56 Try.underlying24 HI.out.1 HI.out.2.1 HI.out.2.2.1 HI.out.2.2.2 rfl (by omega) _ (by rfl) rfl _ _ 1 _ _ (cellsI [⟨⟨kd, n, t⟩, a1, c1, l⟩]) (by rfl) rfl ((Sv.own_at S8.out 6 rfl).reads) rfl (cellsI_one _) (by unfold maxLen; omega) (by omega) ?_
      intro a3' c3' w5 hA
      have S9 := Lib.hid (show Sl.Sep w _ [L4.boxR w.heap.size 26 #[.string name, .slice (some ad) N c, .int .i64 auto], L4.boxR (w.heap.size + 1) 26 #[.string ⟨#[]⟩, .slice none 0 0, .int .i64 0], L4.boxR g1 26 #[.string name, .slice A k C, .int .i64 auto], Sv.ownV 40 4 a3' c3' (k + 1) (cellsI ys ++ (cellsI [⟨⟨kd, n, t⟩, a1, c1, l⟩])), Bag.bag (rowsI ys), Bag.bag ([(LI.mk ⟨kd, n, t⟩ a1 c1 l).row]), Sv.ownV 40 4 (some ⟨g2, 0, none⟩) 1 1 (cellsI [⟨⟨kd, n, t⟩, a1, c1, l⟩])] from hA)
      clear S8
      clear hA
      clear hL
      refine hK.out _ _ ⟨Bag.cell_at S9.out 0 rfl 0 rfl, Bag.cell_at S9.out 0 rfl 1 rfl, Bag.cell_at S9.out 0 rfl 2 rfl, (HK.out _ S9.out.old).1, (HK.out _ S9.out.old).2.1, (HK.out _ S9.out.old).2.2.1, (HK.out _ S9.out.old).2.2.2⟩ ⟨Bag.cell_at S9.out 2 rfl 0 rfl, Bag.cell_at S9.out 2 rfl 1 rfl, Bag.cell_at S9.out 2 rfl 2 rfl⟩ (fun hS hL => ?_)
      clear hK K
      try simp only [zp0, zp1, zp2, zp3, zp4]
      refine Reg.early_op (i := 10) (v := ?_) rfl (by kernel_rfl) (by kernel_rfl) (by kernel_rfl) rfl (by kernel_rfl) (by kernel_rfl) (fun _ _ _ h => h) (by rfl) ?_ hS hL ?_
      rotate_left
      · (intro w hSw hSv; (try dsimp only at hSw); (try dsimp only at hSv); go_simp; try with_reducible rfl)
      try simp only [zp0, zp1, zp2, zp3, zp4]
      refine Reg.late_op (i := 11) rfl (by kernel_rfl) rfl (fun K hK => ?_)
      have f0 : World.cell? _ ⟨g1, 0, none⟩ = some (.string name) := Bag.cell_at S9.out 2 rfl 0 rfl
      have f1 : World.cell? _ ⟨g1, 1, none⟩ = some (.slice A k C) := Bag.cell_at S9.out 2 rfl 1 rfl
      have f2 : World.cell? _ ⟨g1, 2, none⟩ = some (.int .i64 auto) := Bag.cell_at S9.out 2 rfl 2 rfl
      have z0 := Bag.free_at S9.out 2 rfl 0
      have z1 := Bag.free_at S9.out 2 rfl 1
      have z2 := Bag.free_at S9.out 2 rfl 2
      go_simp
      clear f0 f1 f2 z0 z1 z2
      have S10 := Lib.hid (show Sl.Sep w _ [L4.boxR w.heap.size 26 #[.string name, .slice (some ad) N c, .int .i64 auto], L4.boxR (w.heap.size + 1) 26 #[.string ⟨#[]⟩, .slice none 0 0, .int .i64 0], L4.boxR g1 26 #[.string name, .slice a3' (k + 1) c3', .int .i64 auto], Sv.ownV 40 4 a3' c3' (k + 1) (cellsI ys ++ (cellsI [⟨⟨kd, n, t⟩, a1, c1, l⟩])), Bag.bag (rowsI ys), Bag.bag ([(LI.mk ⟨kd, n, t⟩ a1 c1 l).row]), Sv.ownV 40 4 (some ⟨g2, 0, none⟩) 1 1 (cellsI [⟨⟨kd, n, t⟩, a1, c1, l⟩])] from L5.put_box5 (S9.out) 2 rfl 1 (.slice a3' (k + 1) c3'))
      clear S9
      refine hK.out _ _ ⟨Bag.cell_at S10.out 0 rfl 0 rfl, Bag.cell_at S10.out 0 rfl 1 rfl, Bag.cell_at S10.out 0 rfl 2 rfl, (HK.out _ S10.out.old).1, (HK.out _ S10.out.old).2.1, (HK.out _ S10.out.old).2.2.1, (HK.out _ S10.out.old).2.2.2⟩ (fun hS => ?_)
      clear hL
      clear hK K
      try simp only [zp0, zp1, zp2, zp3, zp4]
      refine Reg.anyL_done (by kernel_rfl) ?_ _
      have f0 : World.cell? _ ⟨w.heap.size, 0, none⟩ = some (.string name) := Bag.cell_at S10.out 0 rfl 0 rfl
      have f1 : World.cell? _ ⟨w.heap.size, 1, none⟩ = some (.slice (some ad) N c) := Bag.cell_at S10.out 0 rfl 1 rfl
      have f2 : World.cell? _ ⟨w.heap.size, 2, none⟩ = some (.int .i64 auto) := Bag.cell_at S10.out 0 rfl 2 rfl
      have f3 : World.cell? _ ⟨w.heap.size + 1, 0, none⟩ = some (.string ⟨#[]⟩) := Bag.cell_at S10.out 1 rfl 0 rfl
      have f4 : World.cell? _ ⟨w.heap.size + 1, 1, none⟩ = some (.slice none 0 0) := Bag.cell_at S10.out 1 rfl 1 rfl
      have f5 : World.cell? _ ⟨w.heap.size + 1, 2, none⟩ = some (.int .i64 0) := Bag.cell_at S10.out 1 rfl 2 rfl
      have f6 : World.cell? _ ⟨g1, 0, none⟩ = some (.string name) := Bag.cell_at S10.out 2 rfl 0 rfl
      have f7 : World.cell? _ ⟨g1, 1, none⟩ = some (.slice a3' (k + 1) c3') := Bag.cell_at S10.out 2 rfl 1 rfl
      have f8 : World.cell? _ ⟨g1, 2, none⟩ = some (.int .i64 auto) := Bag.cell_at S10.out 2 rfl 2 rfl
      have f9 : World.cell? _ (ad.add (k * 4)) = some (.int .i64 kd) := (HK.out _ S10.out.old).1
      have f10 : World.cell? _ (⟨(ad.add (k * 4)).block, (ad.add (k * 4)).off + 1, none⟩) = some (.int .i64 n) := (HK.out _ S10.out.old).2.1
      have f11 : World.cell? _ (⟨(ad.add (k * 4)).block, (ad.add (k * 4)).off + 2, none⟩) = some (.string t) := (HK.out _ S10.out.old).2.2.1
      have f12 : World.cell? _ (⟨(ad.add (k * 4)).block, (ad.add (k * 4)).off + 3, none⟩) = some (.slice ia l.length ic) := (HK.out _ S10.out.old).2.2.2
      clear f0 f1 f2 f3 f4 f5 f6 f7 f8 f9 f10 f11 f12
      have S11 := Lib.hid (show Sl.Sep w _ [L4.boxR w.heap.size 26 #[.string name, .slice (some ad) N c, .int .i64 auto], L4.boxR (w.heap.size + 1) 26 #[.string ⟨#[]⟩, .slice none 0 0, .int .i64 0], L4.boxR g1 26 #[.string name, .slice a3' (k + 1) c3', .int .i64 auto], Sv.ownV 40 4 a3' c3' (k + 1) (cellsI ys ++ (cellsI [⟨⟨kd, n, t⟩, a1, c1, l⟩])), Bag.bag (rowsI ys ++ ([(LI.mk ⟨kd, n, t⟩ a1 c1 l).row])), Bag.bag ([]), Sv.ownV 40 4 (some ⟨g2, 0, none⟩) 1 1 (cellsI [⟨⟨kd, n, t⟩, a1, c1, l⟩])] from Bag.bag_join S10.out 4 5 (by decide) rfl rfl)
      clear S10
      have S12 := Lib.hid (show Sl.Sep w _ [L4.boxR w.heap.size 26 #[.string name, .slice (some ad) N c, .int .i64 auto], L4.boxR (w.heap.size + 1) 26 #[.string ⟨#[]⟩, .slice none 0 0, .int .i64 0], L4.boxR g1 26 #[.string name, .slice a3' (k + 1) c3', .int .i64 auto], Sv.ownV 40 4 a3' c3' (k + 1) (cellsI ys ++ (cellsI [⟨⟨kd, n, t⟩, a1, c1, l⟩])), Bag.bag (rowsI ys ++ ([(LI.mk ⟨kd, n, t⟩ a1 c1 l).row]))] from Bag.take S11.out [0, 1, 2, 3, 4] (by rfl) (by decide))
      clear S11
      have f0 : World.cell? _ ⟨w.heap.size, 0, none⟩ = some (.string name) := Bag.cell_at S12.out 0 rfl 0 rfl
      have f1 : World.cell? _ ⟨w.heap.size, 1, none⟩ = some (.slice (some ad) N c) := Bag.cell_at S12.out 0 rfl 1 rfl
      have f2 : World.cell? _ ⟨w.heap.size, 2, none⟩ = some (.int .i64 auto) := Bag.cell_at S12.out 0 rfl 2 rfl
      have f3 : World.cell? _ ⟨w.heap.size + 1, 0, none⟩ = some (.string ⟨#[]⟩) := Bag.cell_at S12.out 1 rfl 0 rfl
      have f4 : World.cell? _ ⟨w.heap.size + 1, 1, none⟩ = some (.slice none 0 0) := Bag.cell_at S12.out 1 rfl 1 rfl
      have f5 : World.cell? _ ⟨w.heap.size + 1, 2, none⟩ = some (.int .i64 0) := Bag.cell_at S12.out 1 rfl 2 rfl
      have f6 : World.cell? _ ⟨g1, 0, none⟩ = some (.string name) := Bag.cell_at S12.out 2 rfl 0 rfl
      have f7 : World.cell? _ ⟨g1, 1, none⟩ = some (.slice a3' (k + 1) c3') := Bag.cell_at S12.out 2 rfl 1 rfl
      have f8 : World.cell? _ ⟨g1, 2, none⟩ = some (.int .i64 auto) := Bag.cell_at S12.out 2 rfl 2 rfl
      have f9 : World.cell? _ (ad.add (k * 4)) = some (.int .i64 kd) := (HK.out _ S12.out.old).1
      have f10 : World.cell? _ (⟨(ad.add (k * 4)).block, (ad.add (k * 4)).off + 1, none⟩) = some (.int .i64 n) := (HK.out _ S12.out.old).2.1
      have f11 : World.cell? _ (⟨(ad.add (k * 4)).block, (ad.add (k * 4)).off + 2, none⟩) = some (.string t) := (HK.out _ S12.out.old).2.2.1
      have f12 : World.cell? _ (⟨(ad.add (k * 4)).block, (ad.add (k * 4)).off + 3, none⟩) = some (.slice ia l.length ic) := (HK.out _ S12.out.old).2.2.2
      go_wp2_with fail
      go_roundw
      case rel =>
        refine ⟨k + 1, a3', c3', ys ++ [⟨⟨kd, n, t⟩, a1, c1, l⟩], by omega, by go_num, And.intro ?_ ?_⟩
        · rw [HT.out, ← HC.out]; exact List.map_append
        · rw [cellsI_append, rowsI_append]; exact S12.out
      case measure => simp [intOf]; omega
    · skip
      have f0 : World.cell? _ ⟨w.heap.size, 0, none⟩ = some (.string name) := Bag.cell_at S5.out 0 rfl 0 rfl
      have f1 : World.cell? _ ⟨w.heap.size, 1, none⟩ = some (.slice a N c) := Bag.cell_at S5.out 0 rfl 1 rfl
      have f2 : World.cell? _ ⟨w.heap.size, 2, none⟩ = some (.int .i64 auto) := Bag.cell_at S5.out 0 rfl 2 rfl
      have f3 : World.cell? _ ⟨w.heap.size + 1, 0, none⟩ = some (.string ⟨#[]⟩) := Bag.cell_at S5.out 1 rfl 0 rfl
      have f4 : World.cell? _ ⟨w.heap.size + 1, 1, none⟩ = some (.slice none 0 0) := Bag.cell_at S5.out 1 rfl 1 rfl
      have f5 : World.cell? _ ⟨w.heap.size + 1, 2, none⟩ = some (.int .i64 0) := Bag.cell_at S5.out 1 rfl 2 rfl
      have f6 : World.cell? _ ⟨g1, 0, none⟩ = some (.string name) := Bag.cell_at S5.out 2 rfl 0 rfl
      have f7 : World.cell? _ ⟨g1, 1, none⟩ = some (.slice A k C) := Bag.cell_at S5.out 2 rfl 1 rfl
      have f8 : World.cell? _ ⟨g1, 2, none⟩ = some (.int .i64 auto) := Bag.cell_at S5.out 2 rfl 2 rfl
      have z0 := Bag.free_at S5.out 1 rfl 0
      have z1 := Bag.free_at S5.out 1 rfl 1
      have z2 := Bag.free_at S5.out 1 rfl 2
      go_wp2_with fail
      clear f0 f1 f2 f3 f4 f5 f6 f7 f8 z0 z1 z2
      have S6 := Lib.hid (show Sl.Sep w _ [L4.boxR w.heap.size 26 #[.string name, .slice a N c, .int .i64 auto], L4.boxR (w.heap.size + 1) 26 #[.string name, .slice A k C, .int .i64 auto], L4.boxR g1 26 #[.string name, .slice A k C, .int .i64 auto], Sv.ownV 40 4 A C k (cellsI ys), Bag.bag (rowsI ys)] from L5.put_box5 (L5.put_box5 (L5.put_box5 (S5.out) 1 rfl 0 (.string name)) 1 rfl 1 (.slice A k C)) 1 rfl 2 (.int .i64 auto))
      clear S5
      have f0 : World.cell? _ ⟨w.heap.size + 1, 0, none⟩ = some (.string name) := Bag.cell_at S6.out 1 rfl 0 rfl
      have f1 : World.cell? _ ⟨w.heap.size + 1, 1, none⟩ = some (.slice A k C) := Bag.cell_at S6.out 1 rfl 1 rfl
      have f2 : World.cell? _ ⟨w.heap.size + 1, 2, none⟩ = some (.int .i64 auto) := Bag.cell_at S6.out 1 rfl 2 rfl
      obtain rfl : k = N := by omega
      refine bodyPost_ret (v := .agg #[.string name, .slice A k C, .int .i64 auto]) (by simp [results, Try.results66, go_sem, *]) rfl ?_
      have hlen : k = ys.length := by have h1 := congrArg List.length HC.out; have := HN.out; simp at h1; omega
      have hcon : conI ys = conI xs := by rw [HC.out, List.take_of_length_le (by have := HN.out; simp; omega)]
      subst hlen
      have S90 := Lib.hid (Bag.bag_of_one S6.out 3 (r := rowI A C ys) rfl)
      have S91 := Lib.hid (Bag.bag_join S90.out 3 4 (by decide) rfl rfl)
      exact ⟨⟨name, A, C, ys, auto⟩, rfl, by unfold LS.con; rw [hcon], Bag.bag_from S91.out 3 rfl, S91.out.old⟩
end Go.Proofs.Ytkfejjoehgipmaa.L6
