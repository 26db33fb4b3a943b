/-
  The contracts of chapter 6's functions of the program: copyItem, copyStore. Conditions: keys' texts of at most 2^40 bytes, at most 2^20 fields and items. (Written by my program gen_l6g.py.)
-/
import Derived.Test.YtkfejjoehgipmaaTk
import Derived.Test.YtkfejjoehgipmaaL6Sa
import Derived.Test.YtkfejjoehgipmaaL5Cp
namespace Go.Proofs.Ytkfejjoehgipmaa.L6
set_option maxRecDepth 100000
open L4 (K isK cmpK R inR encU)
open L5 (F isR isN cellsF encR eqR Small)
open Go.ChangeShapes Go.WideShapes Go.ChangeAt Go.RowKit Mem Sl Ex L2 Sv Bag
set_option linter.unusedVariables false
set_option linter.unusedSimpArgs false

set_option maxHeartbeats 2000000 in
theorem copyItem_any (kd n : Int) (s : ByteArray) (a : Option Addr) (c : Nat) (l : List F) (hl : l.length ≤ 1048576) (w : World) (hr : Reads w w.heap.size a (cellsF l)) :
    Calls Try.prog 85 #[.agg #[.int .i64 kd, .int .i64 n, .string s, .slice a l.length c]] w (GaveI w ⟨⟨kd, n, s⟩, l⟩) := by
  have HC := Lib.hid (fun w' (h : Below w.heap.size w w') => L5.copyRecord_any a c l (by have := hl; omega) w' ((hr.below h).more h.size))
  obtain ⟨N, hN⟩ : ∃ n, n = l.length := ⟨_, rfl⟩
  rw [← hN] at HC ⊢
  have HN := Lib.hid hN
  clear hN hr hl
  have S1 := Lib.hid (show Sl.Sep w ((w.alloc (.cells #[.int .i64 kd, .int .i64 n, .string s, .slice a N c] 40)).alloc (.cells #[.int .i64 0, .int .i64 0, .string ⟨#[]⟩, .slice none 0 0] 40)) [L4.boxR w.heap.size 40 #[.int .i64 kd, .int .i64 n, .string s, .slice a N c], L4.boxR (w.heap.size + 1) 40 #[.int .i64 0, .int .i64 0, .string ⟨#[]⟩, .slice none 0 0]] from L4.push_box (L4.push_box (Sl.Sep.start w) 40 #[.int .i64 kd, .int .i64 n, .string s, .slice a N c] (w.heap.size) (by simp)) 40 #[.int .i64 0, .int .i64 0, .string ⟨#[]⟩, .slice none 0 0] (w.heap.size + 1) (by simp))
  obtain ⟨wa, hwa⟩ : ∃ u, u = ((w.alloc (.cells #[.int .i64 kd, .int .i64 n, .string s, .slice a N c] 40)).alloc (.cells #[.int .i64 0, .int .i64 0, .string ⟨#[]⟩, .slice none 0 0] 40)) := ⟨_, rfl⟩
  rw [← hwa] at S1
  go_enter Try.func85, Try.ntmps85
  go_upto_region 1 with fail
  rw [← hwa]
  clear hwa
  go_upto_region 1 with fail
  refine wp_region_held_drew (S := (fun w' => World.cell? w' ⟨w.heap.size, 0, none⟩ = some (.int .i64 kd) ∧ World.cell? w' ⟨w.heap.size, 1, none⟩ = some (.int .i64 n) ∧ World.cell? w' ⟨w.heap.size, 2, none⟩ = some (.string s) ∧ World.cell? w' ⟨w.heap.size, 3, none⟩ = some (.slice a N c))) (by kernel_rfl) ⟨Bag.cell_at S1.out 0 rfl 0 rfl, Bag.cell_at S1.out 0 rfl 1 rfl, Bag.cell_at S1.out 0 rfl 2 rfl, Bag.cell_at S1.out 0 rfl 3 rfl⟩ (fun hS => ?_)
  have S2 := Lib.hid (show Sl.Sep w _ [L4.boxR w.heap.size 40 #[.int .i64 kd, .int .i64 n, .string s, .slice a N c], L4.boxR (w.heap.size + 1) 40 #[.int .i64 0, .int .i64 0, .string ⟨#[]⟩, .slice none 0 0]] from Bag.drew1 S1.out)
  clear S1
  generalize World.drew _ = w1 at hS S2 ⊢
  refine tk 0 rfl ?_
  try simp only [zp0, zp1, zp2, zp3, zp4]
  refine tk 1 rfl ?_
  try simp only [zp0, zp1, zp2, zp3, zp4]
  refine tk 2 rfl ?_
  try simp only [zp0, zp1, zp2, zp3, zp4]
  refine tk 3 rfl ?_
  try simp only [zp0, zp1, zp2, zp3, zp4]
  refine Reg.one_op (i := 4) rfl (by kernel_rfl) (fun K hK => ?_)
  go_simp
  go_at_call 60
  refine (HC.out _ S2.out.old).mono ?_
  rintro e w2 ⟨a1, c1, rfl, ho, hb⟩
  have S3 := Lib.hid (show Sl.Sep w _ [L4.boxR w.heap.size 40 #[.int .i64 kd, .int .i64 n, .string s, .slice a N c], L4.boxR (w.heap.size + 1) 40 #[.int .i64 0, .int .i64 0, .string ⟨#[]⟩, .slice none 0 0], Sv.ownV 102 2 a1 c1 N (cellsF l)] from Sv.push_own S2.out hb ho)
  clear S2
  clear hb ho
  go_wp2_with fail
  refine hK.out _ _ ⟨Bag.cell_at S3.out 0 rfl 0 rfl, Bag.cell_at S3.out 0 rfl 1 rfl, Bag.cell_at S3.out 0 rfl 2 rfl, Bag.cell_at S3.out 0 rfl 3 rfl⟩ (fun hS => ?_)
  clear hK K
  try simp only [zp0, zp1, zp2, zp3, zp4]
  refine tk 5 rfl ?_
  try simp only [zp0, zp1, zp2, zp3, zp4]
  refine Reg.one_op (i := 6) rfl (by kernel_rfl) (fun K hK => ?_)
  have f0 : World.cell? _ ⟨w.heap.size + 1, 0, none⟩ = some (.int .i64 0) := Bag.cell_at S3.out 1 rfl 0 rfl
  have f1 : World.cell? _ ⟨w.heap.size + 1, 1, none⟩ = some (.int .i64 0) := Bag.cell_at S3.out 1 rfl 1 rfl
  have f2 : World.cell? _ ⟨w.heap.size + 1, 2, none⟩ = some (.string ⟨#[]⟩) := Bag.cell_at S3.out 1 rfl 2 rfl
  have f3 : World.cell? _ ⟨w.heap.size + 1, 3, none⟩ = some (.slice none 0 0) := Bag.cell_at S3.out 1 rfl 3 rfl
  have z0 := Bag.free_at S3.out 1 rfl 0
  have z1 := Bag.free_at S3.out 1 rfl 1
  have z2 := Bag.free_at S3.out 1 rfl 2
  have z3 := Bag.free_at S3.out 1 rfl 3
  go_simp
  clear f0 f1 f2 f3 z0 z1 z2 z3
  have S4 := Lib.hid (show Sl.Sep w _ [L4.boxR w.heap.size 40 #[.int .i64 kd, .int .i64 n, .string s, .slice a N c], L4.boxR (w.heap.size + 1) 40 #[.int .i64 kd, .int .i64 n, .string s, .slice a1 N c1], Sv.ownV 102 2 a1 c1 N (cellsF l)] from L5.put_box5 (L5.put_box5 (L5.put_box5 (L5.put_box5 (S3.out) 1 rfl 0 (.int .i64 kd)) 1 rfl 1 (.int .i64 n)) 1 rfl 2 (.string s)) 1 rfl 3 (.slice a1 N c1))
  clear S3
  refine hK.out _ _ ⟨Bag.cell_at S4.out 0 rfl 0 rfl, Bag.cell_at S4.out 0 rfl 1 rfl, Bag.cell_at S4.out 0 rfl 2 rfl, Bag.cell_at S4.out 0 rfl 3 rfl⟩ (fun hS => ?_)
  clear hK K
  try simp only [zp0, zp1, zp2, zp3, zp4]
  refine wpAnyH_done (by kernel_rfl) ?_ _
  have f0 : World.cell? _ ⟨w.heap.size, 0, none⟩ = some (.int .i64 kd) := Bag.cell_at S4.out 0 rfl 0 rfl
  have f1 : World.cell? _ ⟨w.heap.size, 1, none⟩ = some (.int .i64 n) := Bag.cell_at S4.out 0 rfl 1 rfl
  have f2 : World.cell? _ ⟨w.heap.size, 2, none⟩ = some (.string s) := Bag.cell_at S4.out 0 rfl 2 rfl
  have f3 : World.cell? _ ⟨w.heap.size, 3, none⟩ = some (.slice a N c) := Bag.cell_at S4.out 0 rfl 3 rfl
  have f4 : World.cell? _ ⟨w.heap.size + 1, 0, none⟩ = some (.int .i64 kd) := Bag.cell_at S4.out 1 rfl 0 rfl
  have f5 : World.cell? _ ⟨w.heap.size + 1, 1, none⟩ = some (.int .i64 n) := Bag.cell_at S4.out 1 rfl 1 rfl
  have f6 : World.cell? _ ⟨w.heap.size + 1, 2, none⟩ = some (.string s) := Bag.cell_at S4.out 1 rfl 2 rfl
  have f7 : World.cell? _ ⟨w.heap.size + 1, 3, none⟩ = some (.slice a1 N c1) := Bag.cell_at S4.out 1 rfl 3 rfl
  go_wp2_with fail
  refine bodyPost_ret (v := .agg #[.int .i64 kd, .int .i64 n, .string s, .slice a1 N c1]) (by simp [results, Try.results85, go_sem, *]) rfl ?_
  have hb := Bag.bag_from (Bag.bag_of_one S4.out 2 (r := (LI.mk ⟨kd, n, s⟩ a1 c1 l).row) (by show some _ = some _; rw [HN.out]; rfl)) 2 rfl
  exact ⟨a1, c1, by rw [HN.out], hb, S4.out.old⟩
def GaveSF (w : World) (s : S6) (e : Ending) (w' : World) : Prop :=
  ∃ (g : Nat) (ys : List LI), e = .returned (.agg #[.string s.name, .slice (some ⟨g, 0, none⟩) ys.length ys.length, .int .i64 s.auto]) ∧ conI ys = s.items ∧ BagOwn w' w.heap.size (rowI (some ⟨g, 0, none⟩) ys.length ys :: rowsI ys) ∧ Below w.heap.size w w'

set_option maxHeartbeats 4000000 in
theorem copyStore_full (y : LS) (hf : FitS y.con) (w : World) (hr : RowsRd w w.heap.size y.rows) :
    Calls Try.prog 59 #[y.v] w (GaveSF w y.con) := by
  obtain ⟨i0, hi1, hi2, hi3, hi4⟩ := itemInfo
  have HI := Lib.hid (And.intro hi1 (And.intro hi2 (And.intro hi3 hi4)))
  clear hi1 hi2 hi3 hi4
  obtain ⟨name, a, c, xs, auto⟩ := y
  have HR := Lib.hid (fun w' (h : Below w.heap.size w w') => LS.outer (hr.below h))
  have HX := Lib.hid (fun w' (h : Below w.heap.size w w') => (LS.inner (hr.below h)).more h.size)
  have HF := Lib.hid hf.items
  have HNM := Lib.hid hf.name
  have hl := hf.len
  simp only [LS.con, conI_length] at hl
  dsimp only [LS.con] at HR HX HF HNM
  try unfold LS.v LS.cells LS.con
  try dsimp only
  obtain ⟨N, hN⟩ : ∃ n, n = xs.length := ⟨_, rfl⟩
  rw [← hN] at hl ⊢
  have hl' : (N : Int) ≤ 1048576 := by omega
  have HN := Lib.hid hN
  clear hN hr hf
  obtain ⟨Z, hZ⟩ : ∃ Z, Z = (madeCells (Value.agg #[.int .i64 0, .int .i64 0, .string ⟨#[]⟩, .slice none 0 0]).cells (N * 4)).toList := ⟨_, rfl⟩
  have HZ := Lib.hid (show Z.length = N * 4 by rw [hZ]; simp [madeCells])
  have HZD := Lib.hid hZ
  clear hZ
  have S1 := Lib.hid (show Sl.Sep w ((w.alloc (.cells #[.string name, .slice a N c, .int .i64 auto] 26)).alloc (.cells #[.string ⟨#[]⟩, .slice none 0 0, .int .i64 0] 26)) [L4.boxR w.heap.size 26 #[.string name, .slice a N c, .int .i64 auto], L4.boxR (w.heap.size + 1) 26 #[.string ⟨#[]⟩, .slice none 0 0, .int .i64 0]] from L4.push_box (L4.push_box (Sl.Sep.start w) 26 #[.string name, .slice a N c, .int .i64 auto] (w.heap.size) (by simp)) 26 #[.string ⟨#[]⟩, .slice none 0 0, .int .i64 0] (w.heap.size + 1) (by simp))
  obtain ⟨wa, hwa⟩ : ∃ u, u = ((w.alloc (.cells #[.string name, .slice a N c, .int .i64 auto] 26)).alloc (.cells #[.string ⟨#[]⟩, .slice none 0 0, .int .i64 0] 26)) := ⟨_, rfl⟩
  rw [← hwa] at S1
  go_enter Try.func59, Try.ntmps59
  go_upto_region 1 with fail
  rw [← hwa]
  clear hwa
  have f0 : World.cell? _ ⟨w.heap.size, 0, none⟩ = some (.string name) := Bag.cell_at S1.out 0 rfl 0 rfl
  have f1 : World.cell? _ ⟨w.heap.size, 1, none⟩ = some (.slice a N c) := Bag.cell_at S1.out 0 rfl 1 rfl
  have f2 : World.cell? _ ⟨w.heap.size, 2, none⟩ = some (.int .i64 auto) := Bag.cell_at S1.out 0 rfl 2 rfl
  have f3 : World.cell? _ ⟨w.heap.size + 1, 0, none⟩ = some (.string ⟨#[]⟩) := Bag.cell_at S1.out 1 rfl 0 rfl
  have f4 : World.cell? _ ⟨w.heap.size + 1, 1, none⟩ = some (.slice none 0 0) := Bag.cell_at S1.out 1 rfl 1 rfl
  have f5 : World.cell? _ ⟨w.heap.size + 1, 2, none⟩ = some (.int .i64 0) := Bag.cell_at S1.out 1 rfl 2 rfl
  go_upto_region 2 with (at_make; refine Run.wpList_make_s S1.out rfl _ _ 24 rfl 40 i0 (.agg #[.int .i64 0, .int .i64 0, .string ⟨#[]⟩, .slice none 0 0]) 4 Try.underlying24 HI.out.1 HI.out.2.1 HI.out.2.2.1 _ _ N rfl rfl (by rw [HI.out.2.2.2]; omega) (by unfold maxLen; omega) ?_; intro w1 S')
  clear f0 f1 f2 f3 f4 f5
  obtain ⟨g1, hg⟩ : ∃ g', g' = wa.heap.size := ⟨_, rfl⟩
  rw [← hg] at S' ⊢
  clear hg
  have S2 := Lib.hid (show Sl.Sep w _ [L4.boxR w.heap.size 26 #[.string name, .slice a N c, .int .i64 auto], L4.boxR (w.heap.size + 1) 26 #[.string ⟨#[]⟩, .slice none 0 0, .int .i64 0], Sv.ownV 40 4 (some ⟨g1, 0, none⟩) N N (cellsI [] ++ Z)] from (by have h := S'; rw [← HZD.out] at h; exact h))
  clear S1
  clear S'
  have S3 := Lib.hid (show Sl.Sep w _ [L4.boxR w.heap.size 26 #[.string name, .slice a N c, .int .i64 auto], L4.boxR (w.heap.size + 1) 26 #[.string ⟨#[]⟩, .slice none 0 0, .int .i64 0], Sv.ownV 40 4 (some ⟨g1, 0, none⟩) N N (cellsI [] ++ Z), Bag.bag (rowsI [])] from Bag.push_bag S2.out (Below.refl _ _) (Bag.BagOwn.nil _ _))
  clear S2
  have f0 : World.cell? _ ⟨w.heap.size, 0, none⟩ = some (.string name) := Bag.cell_at S3.out 0 rfl 0 rfl
  have f1 : World.cell? _ ⟨w.heap.size, 1, none⟩ = some (.slice a N c) := Bag.cell_at S3.out 0 rfl 1 rfl
  have f2 : World.cell? _ ⟨w.heap.size, 2, none⟩ = some (.int .i64 auto) := Bag.cell_at S3.out 0 rfl 2 rfl
  have f3 : World.cell? _ ⟨w.heap.size + 1, 0, none⟩ = some (.string ⟨#[]⟩) := Bag.cell_at S3.out 1 rfl 0 rfl
  have f4 : World.cell? _ ⟨w.heap.size + 1, 1, none⟩ = some (.slice none 0 0) := Bag.cell_at S3.out 1 rfl 1 rfl
  have f5 : World.cell? _ ⟨w.heap.size + 1, 2, none⟩ = some (.int .i64 0) := Bag.cell_at S3.out 1 rfl 2 rfl
  go_wp2_with fail
  clear f0 f1 f2 f3 f4 f5
  go_loopw [13] (fun i wr => ∃ (k : Nat) (ys : List LI) (Zs : List Value), k ≤ N ∧ i = .int .i64 k ∧ Hid ((conI ys = (conI xs).take k ∧ ys.length = k ∧ Zs.length = (N - k) * 4) ∧ Sl.Sep w wr [L4.boxR w.heap.size 26 #[.string name, .slice a N c, .int .i64 auto], L4.boxR (w.heap.size + 1) 26 #[.string ⟨#[]⟩, .slice none 0 0, .int .i64 0], Sv.ownV 40 4 (some ⟨g1, 0, none⟩) N N (cellsI ys ++ Zs), Bag.bag (rowsI ys)])) (fun i _ => N - (intOf i).toNat)
  case atStart => exact ⟨0, [], Z, Nat.zero_le _, rfl, And.intro ⟨rfl, rfl, HZ.out⟩ S3.out⟩
  case round =>
    obtain ⟨k, ys, Zs, hk, rfl, hrel⟩ := hrel
    have HC := Lib.hid hrel.out.1
    have S4 := Lib.hid hrel.out.2
    clear hrel S3
    by_cases hlt : (k : Int) < (N : Int)
    · skip
      have hkl : k < xs.length := by have := HN.out; omega
      obtain ⟨ad, x, rfl, hx⟩ := readsI_some (HR.out _ S4.out.old) k hkl
      obtain ⟨⟨kd, n, t⟩, ia, ic, l⟩ := x
      have HK := Lib.hid (fun w' (h : Below w.heap.size w w') => readsI_at (HR.out _ h) k _ hx)
      try dsimp only at HK
      have HFI := Lib.hid (fit_at HF.out hx)
      try dsimp only [LI.con] at HFI
      have HCI := Lib.hid (fun w' (h : Below w.heap.size w w') => copyItem_any kd n t ia ic l (fit_at HF.out hx).len w' (((HX.out _ h).at_ (rowsI_mem hx)).reads))
      try dsimp only at HCI
      have HT := Lib.hid (conI_take hx)
      clear hx
      have HL := Lib.hid (show (cellsI ys).length = k * 4 ∧ k * 4 + 4 ≤ (cellsI ys ++ Zs).length ∧ 4 ≤ Zs.length from by have h1 := HC.out.2.1; have h2 := HC.out.2.2; rw [List.length_append, cellsI_length, h1, h2]; omega)
      have f0 : World.cell? _ ⟨w.heap.size, 0, none⟩ = some (.string name) := Bag.cell_at S4.out 0 rfl 0 rfl
      have f1 : World.cell? _ ⟨w.heap.size, 1, none⟩ = some (.slice (some ad) N c) := Bag.cell_at S4.out 0 rfl 1 rfl
      have f2 : World.cell? _ ⟨w.heap.size, 2, none⟩ = some (.int .i64 auto) := Bag.cell_at S4.out 0 rfl 2 rfl
      have f3 : World.cell? _ ⟨w.heap.size + 1, 0, none⟩ = some (.string ⟨#[]⟩) := Bag.cell_at S4.out 1 rfl 0 rfl
      have f4 : World.cell? _ ⟨w.heap.size + 1, 1, none⟩ = some (.slice none 0 0) := Bag.cell_at S4.out 1 rfl 1 rfl
      have f5 : World.cell? _ ⟨w.heap.size + 1, 2, none⟩ = some (.int .i64 0) := Bag.cell_at S4.out 1 rfl 2 rfl
      have f6 : World.cell? _ (ad.add (k * 4)) = some (.int .i64 kd) := (HK.out _ S4.out.old).1
      have f7 : World.cell? _ (⟨(ad.add (k * 4)).block, (ad.add (k * 4)).off + 1, none⟩) = some (.int .i64 n) := (HK.out _ S4.out.old).2.1
      have f8 : World.cell? _ (⟨(ad.add (k * 4)).block, (ad.add (k * 4)).off + 2, none⟩) = some (.string t) := (HK.out _ S4.out.old).2.2.1
      have f9 : World.cell? _ (⟨(ad.add (k * 4)).block, (ad.add (k * 4)).off + 3, none⟩) = some (.slice ia l.length ic) := (HK.out _ S4.out.old).2.2.2
      go_upto_region 5 with fail
      clear f0 f1 f2 f3 f4 f5 f6 f7 f8 f9
      have S5 := Lib.hid (show Sl.Sep w _ [L4.boxR w.heap.size 26 #[.string name, .slice (some ad) N c, .int .i64 auto], L4.boxR (w.heap.size + 1) 26 #[.string ⟨#[]⟩, .slice none 0 0, .int .i64 0], Sv.ownV 40 4 (some ⟨g1, 0, none⟩) N N (cellsI ys ++ Zs), Bag.bag (rowsI ys), L4.boxR wr.heap.size 40 #[.int .i64 kd, .int .i64 n, .string t, .slice ia l.length ic]] from L4.push_box S4.out 40 #[.int .i64 kd, .int .i64 n, .string t, .slice ia l.length ic] wr.heap.size rfl)
      clear S4
      obtain ⟨g2, hg⟩ : ∃ g', g' = wr.heap.size := ⟨_, rfl⟩
      rw [← hg] at S5 ⊢
      clear hg
      generalize wr.alloc (.cells #[.int .i64 kd, .int .i64 n, .string t, .slice ia l.length ic] 40) = w2 at S5 ⊢
      have f0 : World.cell? _ ⟨w.heap.size, 0, none⟩ = some (.string name) := Bag.cell_at S5.out 0 rfl 0 rfl
      have f1 : World.cell? _ ⟨w.heap.size, 1, none⟩ = some (.slice (some ad) N c) := Bag.cell_at S5.out 0 rfl 1 rfl
      have f2 : World.cell? _ ⟨w.heap.size, 2, none⟩ = some (.int .i64 auto) := Bag.cell_at S5.out 0 rfl 2 rfl
      have f3 : World.cell? _ ⟨w.heap.size + 1, 0, none⟩ = some (.string ⟨#[]⟩) := Bag.cell_at S5.out 1 rfl 0 rfl
      have f4 : World.cell? _ ⟨w.heap.size + 1, 1, none⟩ = some (.slice none 0 0) := Bag.cell_at S5.out 1 rfl 1 rfl
      have f5 : World.cell? _ ⟨w.heap.size + 1, 2, none⟩ = some (.int .i64 0) := Bag.cell_at S5.out 1 rfl 2 rfl
      have f6 : World.cell? _ ⟨g2, 0, none⟩ = some (.int .i64 kd) := Bag.cell_at S5.out 4 rfl 0 rfl
      have f7 : World.cell? _ ⟨g2, 1, none⟩ = some (.int .i64 n) := Bag.cell_at S5.out 4 rfl 1 rfl
      have f8 : World.cell? _ ⟨g2, 2, none⟩ = some (.string t) := Bag.cell_at S5.out 4 rfl 2 rfl
      have f9 : World.cell? _ ⟨g2, 3, none⟩ = some (.slice ia l.length ic) := Bag.cell_at S5.out 4 rfl 3 rfl
      have f10 : World.cell? _ (ad.add (k * 4)) = some (.int .i64 kd) := (HK.out _ S5.out.old).1
      have f11 : World.cell? _ (⟨(ad.add (k * 4)).block, (ad.add (k * 4)).off + 1, none⟩) = some (.int .i64 n) := (HK.out _ S5.out.old).2.1
      have f12 : World.cell? _ (⟨(ad.add (k * 4)).block, (ad.add (k * 4)).off + 2, none⟩) = some (.string t) := (HK.out _ S5.out.old).2.2.1
      have f13 : World.cell? _ (⟨(ad.add (k * 4)).block, (ad.add (k * 4)).off + 3, none⟩) = some (.slice ia l.length ic) := (HK.out _ S5.out.old).2.2.2
      go_wp2_with fail
      go_at_call 85
      refine (HCI.out _ S5.out.old).mono ?_
      rintro e w3 ⟨a1, c1, rfl, ho, hb⟩
      clear f0 f1 f2 f3 f4 f5 f6 f7 f8 f9 f10 f11 f12 f13
      have S6 := Lib.hid (show Sl.Sep w _ [L4.boxR w.heap.size 26 #[.string name, .slice (some ad) N c, .int .i64 auto], L4.boxR (w.heap.size + 1) 26 #[.string ⟨#[]⟩, .slice none 0 0, .int .i64 0], Sv.ownV 40 4 (some ⟨g1, 0, none⟩) N N (cellsI ys ++ Zs), Bag.bag (rowsI ys), L4.boxR g2 40 #[.int .i64 kd, .int .i64 n, .string t, .slice ia l.length ic], Bag.bag ([(LI.mk ⟨kd, n, t⟩ a1 c1 l).row])] from Bag.push_bag S5.out hb ho)
      clear S5
      clear hb ho
      have q0 := (Sv.own_at S6.out 2 rfl).cell (k * 4) (by have := HL.out.2.1; omega)
      have z0 := (Sv.own_at S6.out 2 rfl).free (k * 4)
      have q1 := (Sv.own_at S6.out 2 rfl).cell (k * 4 + 1) (by have := HL.out.2.1; omega)
      have z1 := (Sv.own_at S6.out 2 rfl).free (k * 4 + 1)
      have q2 := (Sv.own_at S6.out 2 rfl).cell (k * 4 + 2) (by have := HL.out.2.1; omega)
      have z2 := (Sv.own_at S6.out 2 rfl).free (k * 4 + 2)
      have q3 := (Sv.own_at S6.out 2 rfl).cell (k * 4 + 3) (by have := HL.out.2.1; omega)
      have z3 := (Sv.own_at S6.out 2 rfl).free (k * 4 + 3)
      go_wp2_with fail
      clear q0 z0 q1 z1 q2 z2 q3 z3
      have S7 := Lib.hid (show Sl.Sep w (World.setCells w3 g1 (k * 4) [.int .i64 kd, .int .i64 n, .string t, .slice a1 l.length c1]) [L4.boxR w.heap.size 26 #[.string name, .slice (some ad) N c, .int .i64 auto], L4.boxR (w.heap.size + 1) 26 #[.string ⟨#[]⟩, .slice none 0 0, .int .i64 0], Sv.ownV 40 4 (some ⟨g1, 0, none⟩) N N (cellsI (ys ++ [⟨⟨kd, n, t⟩, a1, c1, l⟩]) ++ Zs.drop 4), Bag.bag (rowsI ys), L4.boxR g2 40 #[.int .i64 kd, .int .i64 n, .string t, .slice ia l.length ic], Bag.bag ([(LI.mk ⟨kd, n, t⟩ a1 c1 l).row])] from (by have h := Run.put_run S6.out 2 rfl (k * 4) [.int .i64 kd, .int .i64 n, .string t, .slice a1 l.length c1] (by have := HL.out.2.1; simpa using this); rw [Run.over_at _ _ _ _ HL.out.1 (by have := HL.out.2.2; simpa using this)] at h; rw [cellsI_append, List.append_assoc]; exact h))
      clear S6
      have S8 := Lib.hid (show Sl.Sep w _ [L4.boxR w.heap.size 26 #[.string name, .slice (some ad) N c, .int .i64 auto], L4.boxR (w.heap.size + 1) 26 #[.string ⟨#[]⟩, .slice none 0 0, .int .i64 0], Sv.ownV 40 4 (some ⟨g1, 0, none⟩) N N (cellsI (ys ++ [⟨⟨kd, n, t⟩, a1, c1, l⟩]) ++ Zs.drop 4), Bag.bag (rowsI ys ++ ([(LI.mk ⟨kd, n, t⟩ a1 c1 l).row])), L4.boxR g2 40 #[.int .i64 kd, .int .i64 n, .string t, .slice ia l.length ic], Bag.bag ([])] from Bag.bag_join S7.out 3 5 (by decide) rfl rfl)
      clear S7
      have S9 := Lib.hid (show Sl.Sep w _ [L4.boxR w.heap.size 26 #[.string name, .slice (some ad) N c, .int .i64 auto], L4.boxR (w.heap.size + 1) 26 #[.string ⟨#[]⟩, .slice none 0 0, .int .i64 0], Sv.ownV 40 4 (some ⟨g1, 0, none⟩) N N (cellsI (ys ++ [⟨⟨kd, n, t⟩, a1, c1, l⟩]) ++ Zs.drop 4), Bag.bag (rowsI ys ++ ([(LI.mk ⟨kd, n, t⟩ a1 c1 l).row]))] from Bag.take S8.out [0, 1, 2, 3] (by rfl) (by decide))
      clear S8
      go_roundw
      case rel =>
        refine ⟨k + 1, ys ++ [⟨⟨kd, n, t⟩, a1, c1, l⟩], Zs.drop 4, by omega, by go_num, And.intro ⟨?_, ?_, ?_⟩ ?_⟩
        · rw [HT.out, ← HC.out.1]; exact List.map_append
        · rw [List.length_append, HC.out.2.1]; rfl
        · rw [List.length_drop, HC.out.2.2]; omega
        · rw [rowsI_append]; exact S9.out
      case measure => simp [intOf]; omega
    · skip
      obtain rfl : k = N := by omega
      have f0 : World.cell? _ ⟨w.heap.size, 0, none⟩ = some (.string name) := Bag.cell_at S4.out 0 rfl 0 rfl
      have f1 : World.cell? _ ⟨w.heap.size, 1, none⟩ = some (.slice a k c) := Bag.cell_at S4.out 0 rfl 1 rfl
      have f2 : World.cell? _ ⟨w.heap.size, 2, none⟩ = some (.int .i64 auto) := Bag.cell_at S4.out 0 rfl 2 rfl
      have f3 : World.cell? _ ⟨w.heap.size + 1, 0, none⟩ = some (.string ⟨#[]⟩) := Bag.cell_at S4.out 1 rfl 0 rfl
      have f4 : World.cell? _ ⟨w.heap.size + 1, 1, none⟩ = some (.slice none 0 0) := Bag.cell_at S4.out 1 rfl 1 rfl
      have f5 : World.cell? _ ⟨w.heap.size + 1, 2, none⟩ = some (.int .i64 0) := Bag.cell_at S4.out 1 rfl 2 rfl
      have z0 := Bag.free_at S4.out 1 rfl 0
      have z1 := Bag.free_at S4.out 1 rfl 1
      have z2 := Bag.free_at S4.out 1 rfl 2
      go_wp2_with fail
      clear f0 f1 f2 f3 f4 f5 z0 z1 z2
      have S5 := Lib.hid (show Sl.Sep w _ [L4.boxR w.heap.size 26 #[.string name, .slice a k c, .int .i64 auto], L4.boxR (w.heap.size + 1) 26 #[.string name, .slice (some ⟨g1, 0, none⟩) k k, .int .i64 auto], Sv.ownV 40 4 (some ⟨g1, 0, none⟩) k k (cellsI ys ++ Zs), Bag.bag (rowsI ys)] from L5.put_box5 (L5.put_box5 (L5.put_box5 (S4.out) 1 rfl 0 (.string name)) 1 rfl 1 (.slice (some ⟨g1, 0, none⟩) k k)) 1 rfl 2 (.int .i64 auto))
      clear S4
      have f0 : World.cell? _ ⟨w.heap.size + 1, 0, none⟩ = some (.string name) := Bag.cell_at S5.out 1 rfl 0 rfl
      have f1 : World.cell? _ ⟨w.heap.size + 1, 1, none⟩ = some (.slice (some ⟨g1, 0, none⟩) k k) := Bag.cell_at S5.out 1 rfl 1 rfl
      have f2 : World.cell? _ ⟨w.heap.size + 1, 2, none⟩ = some (.int .i64 auto) := Bag.cell_at S5.out 1 rfl 2 rfl
      refine bodyPost_ret (v := .agg #[.string name, .slice (some ⟨g1, 0, none⟩) k k, .int .i64 auto]) (by simp [results, Try.results59, go_sem, *]) rfl ?_
      obtain ⟨hc1, hc2, hc3⟩ := HC.out
      have hZs : Zs = [] := List.eq_nil_of_length_eq_zero (by rw [hc3]; omega)
      have hcon : conI ys = conI xs := by rw [hc1, List.take_of_length_le (by have := HN.out; simp; omega)]
      have S90 := Lib.hid (Bag.bag_of_one S5.out 2 (r := rowI (some ⟨g1, 0, none⟩) k ys) (by unfold RowS.res rowI; dsimp only; rw [hZs, List.append_nil, hc2]; rfl))
      have S91 := Lib.hid (Bag.bag_join S90.out 2 3 (by decide) rfl rfl)
      have hb := Bag.bag_from S91.out 2 rfl
      subst hc2
      exact ⟨g1, ys, rfl, hcon, hb, S91.out.old⟩
theorem copyStore_any (y : LS) (hf : FitS y.con) (w : World) (hr : RowsRd w w.heap.size y.rows) : Calls Try.prog 59 #[y.v] w (GaveS w y.con) := by
  refine (copyStore_full y hf w hr).mono ?_
  rintro e w' ⟨g, ys, rfl, hc, hb, ho⟩
  exact ⟨⟨y.name, some ⟨g, 0, none⟩, ys.length, ys, y.auto⟩, rfl, by unfold LS.con; dsimp only; rw [hc]; rfl, hb, ho⟩
end Go.Proofs.Ytkfejjoehgipmaa.L6
