/-
  What the law FnExactDeleteItems needs, laid by my program lawpack.py, part 2: the texts L6La, Rst, L6Lb, L6Sb, L5Dm, L6Sx, L6Sd, L5Cp, Vg, VField, VRecord, VItem, CeItem, L6Ia, L6Ib, L4Im0, L5Ia, L5Ib, L4Im2, L4Im1, L4Im3, L4Arr, one behind the other; each begins with its own words.
-/
import Derived.Test.YtojcdmgcbgpdmaaFnExactDeleteItemsP1
set_option linter.unusedSimpArgs false
set_option linter.unusedVariables false
set_option maxRecDepth 100000
namespace Go.Proofs.Ytojcdmgcbgpdmaa.L6
open L4 (K isK cmpK R inR encU)
open L5 (F isR isN cellsF encR eqR Small Wide)
open Go.ChangeShapes Go.WideShapes Go.ChangeAt Go.RowKit Mem Sl Ex L2 Sv Bag

set_option maxHeartbeats 2000000 in
theorem toItem_any (kd n : Int) (s : ByteArray) (a : Option Addr) (c : Nat) (l : List F) (hl : l.length ≤ 1048576) (w : World) (hr : Reads w w.heap.size a (cellsF l)) :
  Calls Try.prog 181 #[.agg #[.int .i64 kd, .int .i64 n, .string s, .slice a l.length c]] w (GaveI w ⟨⟨kd, n, s⟩, l⟩) := by
 have HC := Lib.hid (fun w' (h : Below w.heap.size w w') => L5.toRecord_any a c l (by have := hl; omega) w' ((hr.below h).more h.size))
 have HTK := Lib.hid (fun w' => L4.toKey_any ⟨kd, n, s⟩ w')
 unfold L4.K.v at HTK
 obtain ⟨N, hN⟩ : ∃ n, n = l.length := ⟨_, rfl⟩
 rw [← hN] at HC ⊢
 have HN := Lib.hid hN
 clear hN hr hl
 have S1 := Lib.hid (show Sl.Sep w _ [_, _] from L4.push_box (L4.push_box (Sl.Sep.start w) 198 #[.int .i64 kd, .int .i64 n, .string s, .slice a N c] (w.heap.size) (by simp)) 40 #[.int .i64 0, .int .i64 0, .string ⟨#[]⟩, .slice none 0 0] (w.heap.size + 1) (by simp))
 obtain ⟨wa, hwa⟩ : ∃ u, u = ((w.alloc (.cells #[.int .i64 kd, .int .i64 n, .string s, .slice a N c] 198)).alloc (.cells #[.int .i64 0, .int .i64 0, .string ⟨#[]⟩, .slice none 0 0] 40)) := ⟨_, rfl⟩
 rw [← hwa] at S1
 go_enter Try.func181, Try.ntmps181
 go_upto_region 1 with fail
 rw [← hwa]
 clear hwa
 obtain ⟨f0, f1, f2, f3⟩ := Bag.cs4 S1.out 0 rfl
 obtain ⟨f4, f5, f6, f7⟩ := Bag.cs4 S1.out 1 rfl
 go_upto_region 2 with fail
 clear f0 f1 f2 f3 f4 f5 f6 f7
 have S2 := Lib.hid (show Sl.Sep w _ [_, _, _] from L4.push_box S1.out 40 #[.int .i64 0, .int .i64 0, .string ⟨#[]⟩, .slice none 0 0] wa.heap.size rfl)
 clear S1
 obtain ⟨g1, hg⟩ : ∃ g', g' = wa.heap.size := ⟨_, rfl⟩
 rw [← hg] at S2 ⊢
 clear hg
 generalize wa.alloc (.cells #[.int .i64 0, .int .i64 0, .string ⟨#[]⟩, .slice none 0 0] 40) = w1 at S2 ⊢
 obtain ⟨f0, f1, f2, f3⟩ := Bag.cs4 S2.out 0 rfl
 obtain ⟨f4, f5, f6, f7⟩ := Bag.cs4 S2.out 1 rfl
 obtain ⟨f8, f9, f10, f11⟩ := Bag.cs4 S2.out 2 rfl
 go_wp2_with fail
 go_at_call 38
 refine (HTK.out _).mono ?_
 rintro e w2 ⟨rfl, hb⟩
 clear f0 f1 f2 f3 f4 f5 f6 f7 f8 f9 f10 f11
 have S3 := Lib.hid (S2.out.keep hb)
 clear S2
 clear hb
 obtain ⟨f0, f1, f2, f3⟩ := Bag.cs4 S3.out 0 rfl
 obtain ⟨f4, f5, f6, f7⟩ := Bag.cs4 S3.out 1 rfl
 obtain ⟨f8, f9, f10, f11⟩ := Bag.cs4 S3.out 2 rfl
 obtain ⟨z0, z1, z2, z3⟩ := Bag.fs4 S3.out 2 rfl
 go_upto_region 3 with fail
 clear f0 f1 f2 f3 f4 f5 f6 f7 f8 f9 f10 f11 z0 z1 z2 z3
 have S4 := Lib.hid (show Sl.Sep w _ [L4.boxR w.heap.size 198 #[.int .i64 kd, .int .i64 n, .string s, .slice a N c], L4.boxR (w.heap.size + 1) 40 #[.int .i64 0, .int .i64 0, .string ⟨#[]⟩, .slice none 0 0], L4.boxR g1 40 #[.int .i64 kd, .int .i64 n, .string s, .slice none 0 0]] from L5.put_box5 (L5.put_box5 (L5.put_box5 (S3.out) 2 rfl 0 (.int .i64 kd)) 2 rfl 1 (.int .i64 n)) 2 rfl 2 (.string s))
 clear S3
 obtain ⟨f0, f1, f2, f3⟩ := Bag.cs4 S4.out 0 rfl
 obtain ⟨f4, f5, f6, f7⟩ := Bag.cs4 S4.out 1 rfl
 obtain ⟨f8, f9, f10, f11⟩ := Bag.cs4 S4.out 2 rfl
 go_wp2_with fail
 go_at_call 39
 refine (HC.out _ S4.out.old).mono ?_
 rintro e w3 ⟨a1, c1, rfl, ho, hb⟩
 clear f0 f1 f2 f3 f4 f5 f6 f7 f8 f9 f10 f11
 have S5 := Lib.hid (show Sl.Sep w _ [_, _, _, Sv.ownV 128 2 a1 c1 N (cellsF l)] from Sv.push_own S4.out hb ho)
 clear S4
 clear hb ho
 obtain ⟨f0, f1, f2, f3⟩ := Bag.cs4 S5.out 0 rfl
 obtain ⟨f4, f5, f6, f7⟩ := Bag.cs4 S5.out 1 rfl
 obtain ⟨f8, f9, f10, f11⟩ := Bag.cs4 S5.out 2 rfl
 obtain ⟨z0, z1, z2, z3⟩ := Bag.fs4 S5.out 2 rfl
 go_upto_region 4 with fail
 clear f0 f1 f2 f3 f4 f5 f6 f7 f8 f9 f10 f11 z0 z1 z2 z3
 have S6 := Lib.hid (show Sl.Sep w _ [_, _, L4.boxR g1 40 #[.int .i64 kd, .int .i64 n, .string s, .slice a1 N c1], _] from L5.put_box5 (S5.out) 2 rfl 3 (.slice a1 N c1))
 clear S5
 obtain ⟨f0, f1, f2, f3⟩ := Bag.cs4 S6.out 0 rfl
 obtain ⟨f4, f5, f6, f7⟩ := Bag.cs4 S6.out 1 rfl
 obtain ⟨f8, f9, f10, f11⟩ := Bag.cs4 S6.out 2 rfl
 obtain ⟨z0, z1, z2, z3⟩ := Bag.fs4 S6.out 1 rfl
 go_wp2_with fail
 clear f0 f1 f2 f3 f4 f5 f6 f7 f8 f9 f10 f11 z0 z1 z2 z3
 have S7 := Lib.hid (show Sl.Sep w _ [_, L4.boxR (w.heap.size + 1) 40 #[.int .i64 kd, .int .i64 n, .string s, .slice a1 N c1], _, _] from L5.put_box5 (L5.put_box5 (L5.put_box5 (L5.put_box5 (S6.out) 1 rfl 0 (.int .i64 kd)) 1 rfl 1 (.int .i64 n)) 1 rfl 2 (.string s)) 1 rfl 3 (.slice a1 N c1))
 clear S6
 obtain ⟨f0, f1, f2, f3⟩ := Bag.cs4 S7.out 1 rfl
 refine bodyPost_ret (v := .agg #[.int .i64 kd, .int .i64 n, .string s, .slice a1 N c1]) (by simp [results, Try.results181, go_sem, *]) rfl ?_
 have hb := Bag.bag_from (Bag.bag_of_one S7.out 3 (r := (LI.mk ⟨kd, n, s⟩ a1 c1 l).row) (by show some _ = some _; rw [HN.out]; rfl)) 3 rfl
 exact ⟨a1, c1, by rw [HN.out], hb, S7.out.old⟩
set_option maxHeartbeats 4000000 in
theorem toItemS_any (a : Option Addr) (c : Nat) (xs : List LI) (hl : xs.length ≤ 1048576) (hf : ∀ x ∈ conI xs, FitI x) (w : World) (hr : Reads w w.heap.size a (cellsI xs)) (hx : RowsRd w w.heap.size (rowsI xs)) :
  Calls Try.prog 116 #[.slice a xs.length c] w (GaveIs w (conI xs)) := by
 obtain ⟨i0, hi1, hi2, hi3, hi4⟩ := itemInfo
 have HI := Lib.hid (And.intro hi1 (And.intro hi2 (And.intro hi3 hi4)))
 clear hi1 hi2 hi3 hi4
 have HR := Lib.hid (fun w' (h : Below w.heap.size w w') => hr.below h)
 have HX := Lib.hid (fun w' (h : Below w.heap.size w w') => (hx.below h).more h.size)
 have HF := Lib.hid hf
 obtain ⟨N, hN⟩ : ∃ n, n = xs.length := ⟨_, rfl⟩
 rw [← hN] at hl ⊢
 have hl' : (N : Int) ≤ 1048576 := by omega
 have HN := Lib.hid hN
 clear hN hr hx hf
 obtain ⟨Z, hZ⟩ : ∃ Z, Z = (madeCells (Value.agg #[.int .i64 0, .int .i64 0, .string ⟨#[]⟩, .slice none 0 0]).cells (N * 4)).toList := ⟨_, rfl⟩
 have HZ := Lib.hid (show Z.length = N * 4 by rw [hZ]; simp [madeCells])
 have HZD := Lib.hid hZ
 clear hZ
 have S1 := Lib.hid (show Sl.Sep w w [] from Sl.Sep.start w)
 go_enter Try.func116, Try.ntmps116
 go_upto_region 2 with (at_make; refine Run.wpList_make_s S1.out rfl _ _ 24 rfl 40 i0 (.agg #[.int .i64 0, .int .i64 0, .string ⟨#[]⟩, .slice none 0 0]) 4 Try.underlying24 HI.out.1 HI.out.2.1 HI.out.2.2.1 _ _ N rfl rfl (by rw [HI.out.2.2.2]; omega) (by unfold maxLen; omega) ?_; intro w1 S')
 obtain ⟨g1, hg⟩ : ∃ g', g' = w.heap.size := ⟨_, rfl⟩
 rw [← hg] at S' ⊢
 clear hg
 have S2 := Lib.hid (show Sl.Sep w _ [Sv.ownV 40 4 (some ⟨g1, 0, none⟩) N N (cellsI [] ++ Z)] from (by have h := S'; rw [← HZD.out] at h; exact h))
 clear S1
 clear S'
 have S3 := Lib.hid (show Sl.Sep w _ [_, Bag.bag (rowsI [])] from Bag.push_bag S2.out (Below.refl _ _) (Bag.BagOwn.nil _ _))
 clear S2
 go_wp2_with fail
 go_loopw [4] (fun i wr => ∃ (k : Nat) (ys : List LI) (Zs : List Value), k ≤ N ∧ i = .int .i64 k ∧ Hid ((conI ys = (conI xs).take k ∧ ys.length = k ∧ Zs.length = (N - k) * 4) ∧ Sl.Sep w wr [Sv.ownV 40 4 (some ⟨g1, 0, none⟩) N N (cellsI ys ++ Zs), Bag.bag (rowsI ys)])) (fun i _ => N - (intOf i).toNat)
 case atStart => exact ⟨0, [], Z, Nat.zero_le _, rfl, And.intro ⟨rfl, rfl, HZ.out⟩ S3.out⟩
 case round =>
  obtain ⟨k, ys, Zs, hk, rfl, hrel⟩ := hrel
  have HC := Lib.hid hrel.out.1
  have S4 := Lib.hid hrel.out.2
  clear hrel S3
  by_cases hlt : (k : Int) < (N : Int)
  ·
   skip
   have hkl : k < xs.length := by have := HN.out; omega
   obtain ⟨ad, x, rfl, hx⟩ := readsI_some (HR.out _ S4.out.old) k hkl
   obtain ⟨⟨kd, n, t⟩, ia, ic, l⟩ := x
   have HK := Lib.hid (fun w' (h : Below w.heap.size w w') => readsI_at (HR.out _ h) k _ hx)
   try dsimp only at HK
   have HFI := Lib.hid (fit_at HF.out hx)
   try dsimp only [LI.con] at HFI
   have HCI := Lib.hid (fun w' (h : Below w.heap.size w w') => toItem_any kd n t ia ic l (fit_at HF.out hx).len w' (((HX.out _ h).at_ (rowsI_mem hx)).reads))
   try dsimp only at HCI
   have HT := Lib.hid (conI_take hx)
   clear hx
   have HL := Lib.hid (show (cellsI ys).length = k * 4 ∧ k * 4 + 4 ≤ (cellsI ys ++ Zs).length ∧ 4 ≤ Zs.length from by have h1 := HC.out.2.1; have h2 := HC.out.2.2; rw [List.length_append, cellsI_length, h1, h2]; omega)
   obtain ⟨f0, f1, f2, f3⟩ := HK.out _ S4.out.old
   go_wp2_with fail
   go_at_call 181
   refine (HCI.out _ S4.out.old).mono ?_
   rintro e w2 ⟨a1, c1, rfl, ho, hb⟩
   clear f0 f1 f2 f3
   have S5 := Lib.hid (show Sl.Sep w _ [Sv.ownV 40 4 (some ⟨g1, 0, none⟩) N N (cellsI ys ++ Zs), Bag.bag (rowsI ys), Bag.bag ([(LI.mk ⟨kd, n, t⟩ a1 c1 l).row])] from Bag.push_bag S4.out hb ho)
   clear S4
   clear hb ho
   have q0 := (Sv.own_at S5.out 0 rfl).cell (k * 4) (by have := HL.out.2.1; omega)
   have z0 := (Sv.own_at S5.out 0 rfl).free (k * 4)
   have q1 := (Sv.own_at S5.out 0 rfl).cell (k * 4 + 1) (by have := HL.out.2.1; omega)
   have z1 := (Sv.own_at S5.out 0 rfl).free (k * 4 + 1)
   have q2 := (Sv.own_at S5.out 0 rfl).cell (k * 4 + 2) (by have := HL.out.2.1; omega)
   have z2 := (Sv.own_at S5.out 0 rfl).free (k * 4 + 2)
   have q3 := (Sv.own_at S5.out 0 rfl).cell (k * 4 + 3) (by have := HL.out.2.1; omega)
   have z3 := (Sv.own_at S5.out 0 rfl).free (k * 4 + 3)
   go_wp2_with fail
   clear q0 z0 q1 z1 q2 z2 q3 z3
   have S6 := Lib.hid (show Sl.Sep w (World.setCells w2 g1 (k * 4) [.int .i64 kd, .int .i64 n, .string t, .slice a1 l.length c1]) [Sv.ownV 40 4 (some ⟨g1, 0, none⟩) N N (cellsI (ys ++ [⟨⟨kd, n, t⟩, a1, c1, l⟩]) ++ Zs.drop 4), Bag.bag (rowsI ys), Bag.bag ([(LI.mk ⟨kd, n, t⟩ a1 c1 l).row])] from (by have h := Run.put_run S5.out 0 rfl (k * 4) [.int .i64 kd, .int .i64 n, .string t, .slice a1 l.length c1] (by have := HL.out.2.1; simpa using this); rw [Run.over_at _ _ _ _ HL.out.1 (by have := HL.out.2.2; simpa using this)] at h; rw [cellsI_append, List.append_assoc]; exact h))
   clear S5
   have S7 := Lib.hid (show Sl.Sep w _ [Sv.ownV 40 4 (some ⟨g1, 0, none⟩) N N (cellsI (ys ++ [⟨⟨kd, n, t⟩, a1, c1, l⟩]) ++ Zs.drop 4), Bag.bag (rowsI ys ++ ([(LI.mk ⟨kd, n, t⟩ a1 c1 l).row])), Bag.bag ([])] from Bag.bag_join S6.out 1 2 (by decide) rfl rfl)
   clear S6
   have S8 := Lib.hid (show Sl.Sep w _ [_, _] from Bag.take S7.out [0, 1] (by rfl) (by decide))
   clear S7
   go_roundw
   case rel =>
    refine ⟨k + 1, ys ++ [⟨⟨kd, n, t⟩, a1, c1, l⟩], Zs.drop 4, by omega, by go_num, And.intro ⟨?_, ?_, ?_⟩ ?_⟩
    ·
     rw [HT.out, ← HC.out.1]; exact List.map_append
    ·
     rw [List.length_append, HC.out.2.1]; rfl
    ·
     rw [List.length_drop, HC.out.2.2]; omega
    ·
     rw [rowsI_append]; exact S8.out
   case measure => simp [intOf]; omega
  ·
   skip
   obtain rfl : k = N := by omega
   go_wp2_with fail
   go_ret
   obtain ⟨hc1, hc2, hc3⟩ := HC.out
   have hZs : Zs = [] := List.eq_nil_of_length_eq_zero (by rw [hc3]; omega)
   have hcon : conI ys = conI xs := by rw [hc1, List.take_of_length_le (by have := HN.out; simp; omega)]
   have S90 := Lib.hid (Bag.bag_of_one S4.out 0 (r := rowI (some ⟨g1, 0, none⟩) k ys) (by unfold RowS.res rowI; dsimp only; rw [hZs, List.append_nil, hc2]; rfl))
   have S91 := Lib.hid (Bag.bag_join S90.out 0 1 (by decide) rfl rfl)
   have hb := Bag.bag_from S91.out 0 rfl
   subst hc2
   exact ⟨_, _, ys, rfl, hcon, hb, S91.out.old⟩
set_option maxHeartbeats 4000000 in
theorem toStore_any (y : LS) (hf : FitS y.con) (w : World) (hr : RowsRd w w.heap.size y.rows) :
  Calls Try.prog 37 #[y.v] w (GaveS w y.con) := by
 have HTI := Lib.hid (fun w' (h : Below w.heap.size w w') => toItemS_any y.a y.c y.xs (by have h1 := hf.len; simpa [LS.con] using h1) hf.items w' (((LS.outer hr).below h).more h.size) (((LS.inner hr).below h).more h.size))
 obtain ⟨name, a, c, xs, auto⟩ := y
 have HR := Lib.hid (fun w' (h : Below w.heap.size w w') => LS.outer (hr.below h))
 have HX := Lib.hid (fun w' (h : Below w.heap.size w w') => (LS.inner (hr.below h)).more h.size)
 have HF := Lib.hid hf.items
 have HNM := Lib.hid hf.name
 have hl := hf.len
 simp only [LS.con, conI_length] at hl
 dsimp only [LS.con] at HR HX HF HNM
 try unfold LS.v LS.cells LS.con
 try dsimp only
 obtain ⟨N, hN⟩ : ∃ n, n = xs.length := ⟨_, rfl⟩
 rw [← hN] at hl ⊢
 have hl' : (N : Int) ≤ 1048576 := by omega
 have HN := Lib.hid hN
 clear hN hr hf
 dsimp only at HTI
 rw [← HN.out] at HTI
 have S1 := Lib.hid (show Sl.Sep w _ [_, _] from L4.push_box (L4.push_box (Sl.Sep.start w) 57 #[.string name, .slice a N c, .int .i64 auto] (w.heap.size) (by simp)) 26 #[.string ⟨#[]⟩, .slice none 0 0, .int .i64 0] (w.heap.size + 1) (by simp))
 obtain ⟨wa, hwa⟩ : ∃ u, u = ((w.alloc (.cells #[.string name, .slice a N c, .int .i64 auto] 57)).alloc (.cells #[.string ⟨#[]⟩, .slice none 0 0, .int .i64 0] 26)) := ⟨_, rfl⟩
 rw [← hwa] at S1
 go_enter Try.func37, Try.ntmps37
 go_upto_region 1 with fail
 rw [← hwa]
 clear hwa
 obtain ⟨f0, f1, f2⟩ := Bag.cs3 S1.out 0 rfl
 obtain ⟨f3, f4, f5⟩ := Bag.cs3 S1.out 1 rfl
 go_upto_region 2 with fail
 clear f0 f1 f2 f3 f4 f5
 have S2 := Lib.hid (show Sl.Sep w _ [_, _, _] from L4.push_box S1.out 26 #[.string ⟨#[]⟩, .slice none 0 0, .int .i64 0] wa.heap.size rfl)
 clear S1
 obtain ⟨g1, hg⟩ : ∃ g', g' = wa.heap.size := ⟨_, rfl⟩
 rw [← hg] at S2 ⊢
 clear hg
 generalize wa.alloc (.cells #[.string ⟨#[]⟩, .slice none 0 0, .int .i64 0] 26) = w1 at S2 ⊢
 obtain ⟨f0, f1, f2⟩ := Bag.cs3 S2.out 0 rfl
 obtain ⟨f3, f4, f5⟩ := Bag.cs3 S2.out 1 rfl
 obtain ⟨f6, f7, f8⟩ := Bag.cs3 S2.out 2 rfl
 obtain ⟨z0, z1, z2⟩ := Bag.fs3 S2.out 2 rfl
 go_upto_region 3 with fail
 clear f0 f1 f2 f3 f4 f5 f6 f7 f8 z0 z1 z2
 have S3 := Lib.hid (show Sl.Sep w _ [_, _, L4.boxR g1 26 #[.string name, .slice none 0 0, .int .i64 0]] from L5.put_box5 (S2.out) 2 rfl 0 (.string name))
 clear S2
 obtain ⟨f0, f1, f2⟩ := Bag.cs3 S3.out 0 rfl
 obtain ⟨f3, f4, f5⟩ := Bag.cs3 S3.out 1 rfl
 obtain ⟨f6, f7, f8⟩ := Bag.cs3 S3.out 2 rfl
 go_wp2_with fail
 go_at_call 116
 refine (HTI.out _ S3.out.old).mono ?_
 rintro e w2 ⟨a1, c1, ys, rfl, hcon, ho, hb⟩
 clear f0 f1 f2 f3 f4 f5 f6 f7 f8
 have S4 := Lib.hid (show Sl.Sep w _ [_, _, _, Bag.bag (rowI a1 c1 ys :: rowsI ys)] from Bag.push_bag S3.out hb ho)
 clear S3
 clear hb ho
 have HCON := Lib.hid hcon
 clear hcon
 obtain ⟨f0, f1, f2⟩ := Bag.cs3 S4.out 0 rfl
 obtain ⟨f3, f4, f5⟩ := Bag.cs3 S4.out 1 rfl
 obtain ⟨f6, f7, f8⟩ := Bag.cs3 S4.out 2 rfl
 obtain ⟨z0, z1, z2⟩ := Bag.fs3 S4.out 2 rfl
 go_upto_region 4 with fail
 clear f0 f1 f2 f3 f4 f5 f6 f7 f8 z0 z1 z2
 have S5 := Lib.hid (show Sl.Sep w _ [_, _, L4.boxR g1 26 #[.string name, .slice a1 ys.length c1, .int .i64 0], _] from L5.put_box5 (S4.out) 2 rfl 1 (.slice a1 ys.length c1))
 clear S4
 obtain ⟨f0, f1, f2⟩ := Bag.cs3 S5.out 0 rfl
 obtain ⟨f3, f4, f5⟩ := Bag.cs3 S5.out 1 rfl
 obtain ⟨f6, f7, f8⟩ := Bag.cs3 S5.out 2 rfl
 obtain ⟨z0, z1, z2⟩ := Bag.fs3 S5.out 2 rfl
 go_upto_region 5 with fail
 clear f0 f1 f2 f3 f4 f5 f6 f7 f8 z0 z1 z2
 have S6 := Lib.hid (show Sl.Sep w _ [_, _, L4.boxR g1 26 #[.string name, .slice a1 ys.length c1, .int .i64 auto], _] from L5.put_box5 (S5.out) 2 rfl 2 (.int .i64 auto))
 clear S5
 obtain ⟨f0, f1, f2⟩ := Bag.cs3 S6.out 0 rfl
 obtain ⟨f3, f4, f5⟩ := Bag.cs3 S6.out 1 rfl
 obtain ⟨f6, f7, f8⟩ := Bag.cs3 S6.out 2 rfl
 obtain ⟨z0, z1, z2⟩ := Bag.fs3 S6.out 1 rfl
 go_wp2_with fail
 clear f0 f1 f2 f3 f4 f5 f6 f7 f8 z0 z1 z2
 have S7 := Lib.hid (show Sl.Sep w _ [_, L4.boxR (w.heap.size + 1) 26 #[.string name, .slice a1 ys.length c1, .int .i64 auto], _, _] from L5.put_box5 (L5.put_box5 (L5.put_box5 (S6.out) 1 rfl 0 (.string name)) 1 rfl 1 (.slice a1 ys.length c1)) 1 rfl 2 (.int .i64 auto))
 clear S6
 obtain ⟨f0, f1, f2⟩ := Bag.cs3 S7.out 1 rfl
 refine bodyPost_ret (v := .agg #[.string name, .slice a1 ys.length c1, .int .i64 auto]) (by simp [results, Try.results37, go_sem, *]) rfl ?_
 exact ⟨⟨name, a1, c1, ys, auto⟩, rfl, by unfold LS.con; dsimp only; rw [HCON.out], Bag.bag_from S7.out 3 rfl, S7.out.old⟩
def RoomI (x : It) (u : Int) : Prop := -1 ≤ u ∧ u ≤ 1048576 ∧ (0 ≤ u → FitI x)
def RoomX (xs : List It) (u : Int) : Prop := -1 ≤ u ∧ u ≤ 1048576 ∧ (0 ≤ u → xs.length ≤ 1048576 ∧ ∀ x ∈ xs, FitI x)
def RoomS (s : S6) (u : Int) : Prop := -1 ≤ u ∧ u ≤ 1048576 ∧ (0 ≤ u → FitS s)
set_option maxHeartbeats 2000000 in
theorem szItem_any (kd n : Int) (s : ByteArray) (a : Option Addr) (c : Nat) (l : List F) (q : Int) (hw : WideI ⟨⟨kd, n, s⟩, l⟩) (hq0 : -1 ≤ q) (hq1 : q ≤ 1048576) (w : World) (hr : Reads w w.heap.size a (cellsF l)) :
  Calls Try.prog 179 #[.agg #[.int .i64 kd, .int .i64 n, .string s, .slice a l.length c], .int .i64 q] w fun e w' => ∃ u, e = .returned (.int .i64 u) ∧ RoomI ⟨⟨kd, n, s⟩, l⟩ u ∧ Below w.heap.size w w' := by
 have HSK := Lib.hid (fun w' => L4.szKey_any ⟨kd, n, s⟩ q (show s.size ≤ _ from hw.text) hq0 hq1 w')
 have HSR := Lib.hid (fun (m : Int) (h0 : -1 ≤ m) (h1 : m ≤ 1048576) w' (h : Below w.heap.size w w') => L5.szRecord_any a c l m hw.fields hw.len h0 h1 w' ((hr.below h).more h.size))
 unfold L4.K.v at HSK
 obtain ⟨m, hm⟩ : ∃ m, L4.left q s = m := ⟨_, rfl⟩
 have hmr := L4.left_range q s hq1
 have HMS := Lib.hid (fun h : ¬ m < 0 => L4.left_small (n := q) (s := s) (by rw [hm]; exact h))
 rw [hm] at hmr
 dsimp only at HSK
 rw [hm] at HSK
 obtain ⟨hm0, hm1⟩ := hmr
 obtain ⟨N, hN⟩ : ∃ n, n = l.length := ⟨_, rfl⟩
 rw [← hN] at HSR ⊢
 clear hN hr hm hw
 have S1 := Lib.hid (show Sl.Sep w _ [_] from L4.push_box (Sl.Sep.start w) 198 #[.int .i64 kd, .int .i64 n, .string s, .slice a N c] (w.heap.size) (by simp))
 obtain ⟨wa, hwa⟩ : ∃ u, u = (w.alloc (.cells #[.int .i64 kd, .int .i64 n, .string s, .slice a N c] 198)) := ⟨_, rfl⟩
 rw [← hwa] at S1
 go_enter Try.func179, Try.ntmps179
 go_upto_region 1 with fail
 rw [← hwa]
 clear hwa
 obtain ⟨f0, f1, f2, f3⟩ := Bag.cs4 S1.out 0 rfl
 go_wp2_with fail
 go_at_call 35
 refine (HSK.out _).mono ?_
 rintro e w1 ⟨rfl, hb⟩
 clear f0 f1 f2 f3
 have S2 := Lib.hid (S1.out.keep hb)
 clear S1
 clear hb
 obtain ⟨f0, f1, f2, f3⟩ := Bag.cs4 S2.out 0 rfl
 by_cases hneg : m < 0
 ·
  skip
  go_wp2_with fail
  go_ret
  exact ⟨-1, rfl, ⟨by omega, by omega, fun h => absurd h (by omega)⟩, S2.out.old⟩
 ·
  skip
  go_wp2_with fail
  go_at_call 36
  refine (HSR.out m (by omega) hm1 _ S2.out.old).mono ?_
  rintro e w2 ⟨u, rfl, ro, hb⟩
  clear f0 f1 f2 f3
  have S3 := Lib.hid (S2.out.keep hb)
  clear S2
  clear hb
  obtain ⟨f0, f1, f2, f3⟩ := Bag.cs4 S3.out 0 rfl
  have HRO := Lib.hid ro
  obtain ⟨hu0, hu1, -⟩ := ro
  by_cases hneg2 : u < 0
  ·
   skip
   go_wp2_with fail
   go_ret
   exact ⟨-1, rfl, ⟨by omega, by omega, fun h => absurd h (by omega)⟩, S3.out.old⟩
  ·
   skip
   go_wp2_with fail
   go_ret
   obtain ⟨h1, h2⟩ := HRO.out.out (by omega) hm1
   have h3 := HMS.out (by omega)
   exact ⟨u, rfl, ⟨hu0, hu1, fun _ => ⟨by show s.size ≤ _; omega, h1, h2⟩⟩, S3.out.old⟩
set_option maxHeartbeats 4000000 in
theorem szItemS_any (a : Option Addr) (c : Nat) (xs : List LI) (q : Int) (hw : ∀ x ∈ conI xs, WideI x) (hm : xs.length ≤ maxLen) (hq0 : -1 ≤ q) (hq1 : q ≤ 1048576) (w : World) (hr : Reads w w.heap.size a (cellsI xs)) (hx : RowsRd w w.heap.size (rowsI xs)) :
  Calls Try.prog 114 #[.slice a xs.length c, .int .i64 q] w fun e w' => ∃ u, e = .returned (.int .i64 u) ∧ RoomX (conI xs) u ∧ Below w.heap.size w w' := by
 have HR := Lib.hid (fun w' (h : Below w.heap.size w w') => hr.below h)
 have HX := Lib.hid (fun w' (h : Below w.heap.size w w') => (hx.below h).more h.size)
 have HW := Lib.hid hw
 obtain ⟨N, hN⟩ : ∃ n, n = xs.length := ⟨_, rfl⟩
 rw [← hN] at hm ⊢
 have HN := Lib.hid hN
 have hm' : (N : Int) ≤ 9223372036854775807 := by unfold maxLen at hm; omega
 clear hN hr hx hw hm
 have S1 := Lib.hid (show Sl.Sep w w [] from Sl.Sep.start w)
 by_cases hneg : q - (N : Int) < 0
 ·
  skip
  go_enter Try.func114, Try.ntmps114
  go_wp2_with fail
  go_ret
  exact ⟨-1, rfl, ⟨by omega, by omega, fun h => absurd h (by omega)⟩, Below.refl _ _⟩
 ·
  skip
  go_enter Try.func114, Try.ntmps114
  go_wp2_with fail
  go_loopw [1, 5] (fun lv i wr => ∃ (k : Nat) (m : Int), k ≤ N ∧ i = .int .i64 k ∧ lv = .int .i64 m ∧ 0 ≤ m ∧ m ≤ 1048576 ∧ Hid ((∀ j (hj : j < (conI xs).length), j < k → FitI (conI xs)[j]) ∧ Sl.Sep w wr [])) (fun _ i _ => N - (intOf i).toNat)
  case atStart => exact ⟨0, q - N, Nat.zero_le _, rfl, rfl, by omega, by omega, And.intro (fun j hj h => absurd h (by omega)) S1.out⟩
  case round =>
   obtain ⟨k, m, hk, rfl, rfl, hm0, hm1, hrel⟩ := hrel
   have HA := Lib.hid hrel.out.1
   have S2 := Lib.hid hrel.out.2
   clear hrel S1
   by_cases hlt : (k : Int) < (N : Int)
   ·
    skip
    have hkl : k < xs.length := by have := HN.out; omega
    obtain ⟨ad, x, rfl, hx⟩ := readsI_some (HR.out _ S2.out.old) k hkl
    have HC := Lib.hid (show (conI xs)[k]? = some x.con from by unfold conI; rw [List.getElem?_map, hx]; rfl)
    obtain ⟨⟨kd, n, t⟩, ia, ic, l⟩ := x
    have HK := Lib.hid (fun w' (h : Below w.heap.size w w') => readsI_at (HR.out _ h) k _ hx)
    try dsimp only at HK
    have HSI := Lib.hid (fun w' (h : Below w.heap.size w w') => szItem_any kd n t ia ic l m (HW.out _ (List.mem_of_getElem? HC.out)) (by omega) hm1 w' (((HX.out _ h).at_ (rowsI_mem hx)).reads))
    try dsimp only at HSI
    clear hx
    obtain ⟨f0, f1, f2, f3⟩ := HK.out _ S2.out.old
    go_wp2_with fail
    go_at_call 179
    refine (HSI.out _ S2.out.old).mono ?_
    rintro e w1 ⟨u, rfl, ro, hb⟩
    clear f0 f1 f2 f3
    have S3 := Lib.hid (S2.out.keep hb)
    clear S2
    clear hb
    have HRO := Lib.hid ro
    obtain ⟨hu0, hu1, -⟩ := ro
    by_cases h0 : u < 0
    ·
     skip
     go_wp2_with fail
     go_ret
     exact ⟨-1, rfl, ⟨by omega, by omega, fun h => absurd h (by omega)⟩, S3.out.old⟩
    ·
     skip
     go_wp2_with fail
     go_roundw
     case rel => exact ⟨k + 1, u, by omega, by go_num, rfl, by omega, hu1, And.intro (fun j hj h => by
      by_cases e : j < k
      ·
       exact HA.out j hj e
      ·
       obtain rfl : j = k := by omega
       rw [(List.getElem?_eq_some_iff.1 HC.out).2]; exact HRO.out.2.2 (by omega)) S3.out⟩
     case measure => simp [intOf]; omega
   ·
    skip
    go_wp2_with fail
    go_ret
    exact ⟨m, rfl, ⟨by omega, hm1, fun _ => ⟨by rw [conI_length, ← HN.out]; omega, fun x hx => by obtain ⟨j, hj, rfl⟩ := List.getElem_of_mem hx; exact HA.out j hj (by rw [conI_length] at hj; have := HN.out; omega)⟩⟩, S2.out.old⟩
set_option maxHeartbeats 4000000 in
theorem szStore_any (y : LS) (q : Int) (hw : WideS y.con) (hq0 : -1 ≤ q) (hq1 : q ≤ 1048576) (w : World) (hr : RowsRd w w.heap.size y.rows) :
  Calls Try.prog 34 #[y.v, .int .i64 q] w fun e w' => ∃ u, e = .returned (.int .i64 u) ∧ RoomS y.con u ∧ Below w.heap.size w w' := by
 have HSI := Lib.hid (fun (m : Int) (h0 : -1 ≤ m) (h1 : m ≤ 1048576) w' (h : Below w.heap.size w w') => szItemS_any y.a y.c y.xs m hw.items (by have h1 := hw.len; simpa [LS.con] using h1) h0 h1 w' (((LS.outer hr).below h).more h.size) (((LS.inner hr).below h).more h.size))
 obtain ⟨name, a, c, xs, auto⟩ := y
 unfold LS.v LS.cells LS.con
 have hs : (name.size : Int) ≤ 9223372036854775807 := by have h : name.size ≤ maxLen := hw.name; unfold maxLen at h; omega
 dsimp only at HSI ⊢
 obtain ⟨N, hN⟩ : ∃ n, n = xs.length := ⟨_, rfl⟩
 rw [← hN] at HSI ⊢
 clear hN hr hw
 have S1 := Lib.hid (show Sl.Sep w _ [_] from L4.push_box (Sl.Sep.start w) 57 #[.string name, .slice a N c, .int .i64 auto] (w.heap.size) (by simp))
 obtain ⟨wa, hwa⟩ : ∃ u, u = (w.alloc (.cells #[.string name, .slice a N c, .int .i64 auto] 57)) := ⟨_, rfl⟩
 rw [← hwa] at S1
 go_enter Try.func34, Try.ntmps34
 go_upto_region 1 with fail
 rw [← hwa]
 clear hwa
 obtain ⟨f0, f1, f2⟩ := Bag.cs3 S1.out 0 rfl
 by_cases hneg : q - (name.size : Int) < 0
 ·
  skip
  go_wp2_with fail
  go_ret
  exact ⟨-1, rfl, ⟨by omega, by omega, fun h => absurd h (by omega)⟩, S1.out.old⟩
 ·
  skip
  go_wp2_with fail
  go_at_call 114
  refine (HSI.out (q - name.size) (by omega) (by omega) _ S1.out.old).mono ?_
  rintro e w1 ⟨u, rfl, ro, hb⟩
  clear f0 f1 f2
  have S2 := Lib.hid (S1.out.keep hb)
  clear S1
  clear hb
  obtain ⟨f0, f1, f2⟩ := Bag.cs3 S2.out 0 rfl
  have HRO := Lib.hid ro
  obtain ⟨hu0, hu1, -⟩ := ro
  by_cases hneg2 : u < 0
  ·
   skip
   go_wp2_with fail
   go_ret
   exact ⟨-1, rfl, ⟨by omega, by omega, fun h => absurd h (by omega)⟩, S2.out.old⟩
  ·
   skip
   go_wp2_with fail
   go_ret
   obtain ⟨h1, h2⟩ := HRO.out.2.2 (by omega)
   exact ⟨u, rfl, ⟨hu0, hu1, fun _ => ⟨by show name.size ≤ _; omega, h1, h2⟩⟩, S2.out.old⟩
end Go.Proofs.Ytojcdmgcbgpdmaa.L6

namespace Go.Proofs.Ytojcdmgcbgpdmaa.Run
open Go.ChangeShapes Go.WideShapes Go.ChangeAt Go.RowKit Mem Sl Sv Bag

def restR (W w0 : World) (g : Nat) : Res where
 fp := (List.range w0.heap.size).filter fun b => decide (W.heap.size ≤ b) && decide (b ≠ g)
 is w := ∀ b, b < w0.heap.size → W.heap.size ≤ b → b ≠ g → w.heap[b]? = w0.heap[b]?
 loc := fun hs h b h1 h2 h3 => (hs b (List.mem_filter.2 ⟨List.mem_range.2 h1, by simp [h2, h3]⟩)).trans (h b h1 h2 h3)
theorem over_mid (A C vs old : List Value) (o : Nat) (h : A.length = o) (hv : vs.length = old.length) : over (A ++ (old ++ C)) o vs = A ++ (vs ++ C) := by
 rw [over_at _ _ _ _ h (by rw [List.length_append]; omega), hv, List.drop_left]
section
variable {W w w0 w' : World} {rs : List Res} {e : TypeId} {k c n g : Nat} {xs : List Value}
theorem rest_start (h : Sep W w rs) (i : Nat) (hi : rs[i]? = some (ownV e k (some ⟨g, 0, none⟩) c n xs)) : Sep W w [ownV e k (some ⟨g, 0, none⟩) c n xs, restR W w g] := by
 refine ⟨h.old, fun j r hj => ?_, fun j r hj b hb => ?_, fun j q r s hj hq hne b hb hb2 => ?_⟩
 ·
  rcases j with _ | _ | j
  ·
   simp at hj; subst hj; exact h.is i _ hi
  ·
   simp at hj; subst hj; exact fun b _ _ _ => rfl
  ·
   simp at hj
 ·
  rcases j with _ | _ | j
  ·
   simp at hj; subst hj; exact h.lies i _ hi b hb
  ·
   simp at hj; subst hj
   obtain ⟨h1, h2⟩ := List.mem_filter.1 hb
   simp only [Bool.and_eq_true, decide_eq_true_eq] at h2
   exact ⟨h2.1, List.mem_range.1 h1⟩
  ·
   simp at hj
 ·
  have own : ∀ b, b ∈ (ownV e k (some ⟨g, 0, none⟩) c n xs).fp → b = g := fun b hb => by simpa [ownV, Value.ownBlock] using hb
  have rst : ∀ b, b ∈ (restR W w g).fp → b ≠ g := fun b hb => by
   obtain ⟨_, h2⟩ := List.mem_filter.1 hb
   simp only [Bool.and_eq_true, decide_eq_true_eq] at h2
   exact h2.2
  rcases j with _ | _ | j <;> rcases q with _ | _ | q
  ·
   exact hne rfl
  ·
   simp at hj hq; subst hj; subst hq; exact rst b hb2 (own b hb)
  ·
   simp at hq
  ·
   simp at hj hq; subst hj; subst hq; exact rst b hb (own b hb2)
  ·
   exact hne rfl
  ·
   simp at hq
  ·
   simp at hj
  ·
   simp at hj
  ·
   simp at hj
theorem rest_block (h0 : Below W.heap.size W w0) (h : Sep W w' (ownV e k (some ⟨g, 0, none⟩) c n xs :: restR W w0 g :: rs)) (b : Nat) (hb : b < w0.heap.size) (hg : b ≠ g) : w'.heap[b]? = w0.heap[b]? := by
 rcases Nat.lt_or_ge b W.heap.size with h1 | h1
 ·
  exact (h.old.block b h1).trans (h0.block b h1).symm
 ·
  exact (h.is 1 (restR W w0 g) rfl) b hb h1 hg
theorem rest_turned (h0 : Below W.heap.size W w0) (h : Sep W w' (ownV e k (some ⟨g, 0, none⟩) c n xs :: restR W w0 g :: rs)) : Turned [g] w0 w' := by
 have key := rest_block h0 h
 refine ⟨h.old.os.trans h0.os.symm, h.old.tape.trans h0.tape.symm, h.old.output.trans h0.output.symm, ?_, fun b hb hn => key b hb (by simpa using hn)⟩
 rcases Nat.eq_zero_or_pos w0.heap.size with h1 | h1
 ·
  omega
 ·
  by_cases e1 : w0.heap.size - 1 = g
  ·
   have h2 := (h.lies 0 _ rfl g (by simp [ownV, Value.ownBlock])).2
   omega
  ·
   have h2 := key (w0.heap.size - 1) (by omega) e1
   have h3 := (Array.getElem?_eq_some_iff.1 (h2.trans (Array.getElem?_eq_getElem (show w0.heap.size - 1 < w0.heap.size by omega)))).1
   omega
theorem rest_back {c' n' : Nat} {xs' : List Value} (h : Sep W w rs) (i : Nat) (hi : rs[i]? = some (ownV e k (some ⟨g, 0, none⟩) c n xs)) (h' : Sep W w' [ownV e k (some ⟨g, 0, none⟩) c' n' xs', restR W w g]) : Sep W w' (rs.set i (ownV e k (some ⟨g, 0, none⟩) c' n' xs')) :=
 h.put i hi (by have := rest_turned h.old h'; simpa [ownV, Value.ownBlock] using this) (h'.is 0 _ rfl) (fun b hb => by simpa [ownV, Value.ownBlock] using hb)
theorem reads_app {B o : Nat} {A Bs : List Value} (h : Reads w B (some ⟨g, o, none⟩) (A ++ Bs)) : Reads w B (some ⟨g, o + A.length, none⟩) Bs := fun j hj => by
 obtain ⟨ad, e, hb, hc⟩ := h (A.length + j) (by rw [List.length_append]; omega)
 injection e with e
 subst e
 refine ⟨_, rfl, hb, ?_⟩
 rw [Addr.add_lit] at hc ⊢
 rw [Nat.add_assoc, hc, List.getElem_append_right (by omega)]
 congr 2
 omega
theorem reads_four {B o : Nat} {v0 v1 v2 v3 : Value} {r : List Value} (h : Reads w B (some ⟨g, o, none⟩) (v0 :: v1 :: v2 :: v3 :: r)) : w.cell? ⟨g, o, none⟩ = some v0 ∧ w.cell? ⟨g, o + 1, none⟩ = some v1 ∧ w.cell? ⟨g, o + 2, none⟩ = some v2 ∧ w.cell? ⟨g, o + 3, none⟩ = some v3 := by
 have key : ∀ j (hj : j < (v0 :: v1 :: v2 :: v3 :: r).length), w.cell? ⟨g, o + j, none⟩ = some (v0 :: v1 :: v2 :: v3 :: r)[j] := fun j hj => by
  obtain ⟨ad, e, _, hc⟩ := h j hj
  injection e with e
  subst e
  rwa [Addr.add_lit] at hc
 exact ⟨key 0 (by simp), key 1 (by simp), key 2 (by simp), key 3 (by simp)⟩
def restL (W w0 : World) (fps : List Nat) : Res where
 fp := (List.range w0.heap.size).filter fun b => decide (W.heap.size ≤ b) && decide (b ∉ fps)
 is w := ∀ b, b < w0.heap.size → W.heap.size ≤ b → b ∉ fps → w.heap[b]? = w0.heap[b]?
 loc := fun hs h b h1 h2 h3 => (hs b (List.mem_filter.2 ⟨List.mem_range.2 h1, by simp [h2, h3]⟩)).trans (h b h1 h2 h3)
theorem restL_start {r : Res} (h : Sep W w rs) (i : Nat) (hi : rs[i]? = some r) : Sep W w [r, restL W w r.fp] := by
 have rst : ∀ b, b ∈ (restL W w r.fp).fp → b ∉ r.fp := fun b hb => by
  obtain ⟨_, h2⟩ := List.mem_filter.1 hb
  simp only [Bool.and_eq_true, decide_eq_true_eq] at h2
  exact h2.2
 refine ⟨h.old, fun j s hj => ?_, fun j s hj b hb => ?_, fun j q s t hj hq hne b hb hb2 => ?_⟩
 ·
  rcases j with _ | _ | j
  ·
   simp at hj; subst hj; exact h.is i _ hi
  ·
   simp at hj; subst hj; exact fun b _ _ _ => rfl
  ·
   simp at hj
 ·
  rcases j with _ | _ | j
  ·
   simp at hj; subst hj; exact h.lies i _ hi b hb
  ·
   simp at hj; subst hj
   obtain ⟨h1, h2⟩ := List.mem_filter.1 hb
   simp only [Bool.and_eq_true, decide_eq_true_eq] at h2
   exact ⟨h2.1, List.mem_range.1 h1⟩
  ·
   simp at hj
 ·
  rcases j with _ | _ | j <;> rcases q with _ | _ | q
  ·
   exact hne rfl
  ·
   simp at hj hq; subst hj; subst hq; exact rst b hb2 hb
  ·
   simp at hq
  ·
   simp at hj hq; subst hj; subst hq; exact rst b hb hb2
  ·
   exact hne rfl
  ·
   simp at hq
  ·
   simp at hj
  ·
   simp at hj
  ·
   simp at hj
theorem restL_turned {r : Res} {fps : List Nat} (h0 : Below W.heap.size W w0) (h : Sep W w' [r, restL W w0 fps]) (hfp : ∀ b ∈ fps, b ∈ r.fp) : Turned fps w0 w' := by
 have key : ∀ b, b < w0.heap.size → b ∉ fps → w'.heap[b]? = w0.heap[b]? := fun b hb hn => by
  rcases Nat.lt_or_ge b W.heap.size with h1 | h1
  ·
   exact (h.old.block b h1).trans (h0.block b h1).symm
  ·
   exact (h.is 1 (restL W w0 fps) rfl) b hb h1 hn
 refine ⟨h.old.os.trans h0.os.symm, h.old.tape.trans h0.tape.symm, h.old.output.trans h0.output.symm, ?_, key⟩
 rcases Nat.eq_zero_or_pos w0.heap.size with h1 | h1
 ·
  omega
 ·
  by_cases e1 : w0.heap.size - 1 ∈ fps
  ·
   have h2 := (h.lies 0 _ rfl _ (hfp _ e1)).2
   omega
  ·
   have h2 := key (w0.heap.size - 1) (by omega) e1
   have h3 := (Array.getElem?_eq_some_iff.1 (h2.trans (Array.getElem?_eq_getElem (show w0.heap.size - 1 < w0.heap.size by omega)))).1
   omega
theorem restL_back {r r' : Res} (h : Sep W w rs) (i : Nat) (hi : rs[i]? = some r) (h' : Sep W w' [r', restL W w r.fp]) (hfp : r'.fp = r.fp) : Sep W w' (rs.set i r') :=
 h.put i hi (restL_turned h.old h' (fun b hb => by rw [hfp]; exact hb)) (h'.is 0 _ rfl) (fun b hb => by rw [← hfp]; exact hb)
def allR (rs : List Res) : Res where
 fp := rs.flatMap Res.fp
 is w := (∀ (i : Nat) (r : Res), rs[i]? = some r → r.is w) ∧ ∀ (i j : Nat) (r s : Res), rs[i]? = some r → rs[j]? = some s → i ≠ j → ∀ b ∈ r.fp, b ∉ s.fp
 loc := fun hs h => ⟨fun i r hi => r.loc (fun b hb => hs b (List.mem_flatMap.2 ⟨r, List.mem_of_getElem? hi, hb⟩)) (h.1 i r hi), h.2⟩
theorem packR {us vs : List Res} (h : Sep W w (us ++ vs)) : Sep W w (us ++ [allR vs]) := by
 have at1 : ∀ (i : Nat) (r : Res), vs[i]? = some r → (us ++ vs)[us.length + i]? = some r := fun i r hi => by
  rw [List.getElem?_append_right (by omega), Nat.add_sub_cancel_left]; exact hi
 have key : ∀ (i : Nat) (r : Res), (us ++ [allR vs])[i]? = some r → (i < us.length ∧ (us ++ vs)[i]? = some r) ∨ (i = us.length ∧ r = allR vs) := fun i r hi => by
  rcases Nat.lt_trichotomy i us.length with h1 | h1 | h1
  ·
   rw [List.getElem?_append_left h1] at hi
   exact .inl ⟨h1, by rw [List.getElem?_append_left h1]; exact hi⟩
  ·
   rw [List.getElem?_append_right (by omega), h1, Nat.sub_self] at hi
   simp at hi
   exact .inr ⟨h1, hi.symm⟩
  ·
   rw [List.getElem?_eq_none (by simp; omega)] at hi
   cases hi
 refine ⟨h.old, fun i r hi => ?_, fun i r hi b hb => ?_, fun i j r s hi hj hne b hb hb2 => ?_⟩
 ·
  rcases key i r hi with ⟨_, h1⟩ | ⟨_, rfl⟩
  ·
   exact h.is i r h1
  ·
   exact ⟨fun j s hj => h.is _ s (at1 j s hj), fun j q s t hj hq hne => h.apart _ _ s t (at1 j s hj) (at1 q t hq) (by omega)⟩
 ·
  rcases key i r hi with ⟨_, h1⟩ | ⟨_, rfl⟩
  ·
   exact h.lies i r h1 b hb
  ·
   obtain ⟨s, hs, hb⟩ := List.mem_flatMap.1 hb
   obtain ⟨j, hj⟩ := List.getElem?_of_mem hs
   exact h.lies _ s (at1 j s hj) b hb
 ·
  rcases key i r hi with ⟨l1, h1⟩ | ⟨l1, rfl⟩ <;> rcases key j s hj with ⟨l2, h2⟩ | ⟨l2, rfl⟩
  ·
   exact h.apart i j r s h1 h2 hne b hb hb2
  ·
   obtain ⟨t, ht, hb2⟩ := List.mem_flatMap.1 hb2
   obtain ⟨q, hq⟩ := List.getElem?_of_mem ht
   exact h.apart i _ r t h1 (at1 q t hq) (by omega) b hb hb2
  ·
   obtain ⟨t, ht, hb⟩ := List.mem_flatMap.1 hb
   obtain ⟨q, hq⟩ := List.getElem?_of_mem ht
   exact h.apart _ j t s (at1 q t hq) h2 (by omega) b hb hb2
  ·
   omega
theorem unpackR {us vs : List Res} (h : Sep W w (us ++ [allR vs])) : Sep W w (us ++ vs) := by
 have hl : (us ++ [allR vs])[us.length]? = some (allR vs) := by simp
 have hall : (allR vs).is w := h.is us.length _ hl
 have key : ∀ (i : Nat) (r : Res), (us ++ vs)[i]? = some r → (i < us.length ∧ (us ++ [allR vs])[i]? = some r) ∨ (us.length ≤ i ∧ vs[i - us.length]? = some r) := fun i r hi => by
  rcases Nat.lt_or_ge i us.length with h1 | h1
  ·
   rw [List.getElem?_append_left h1] at hi
   exact .inl ⟨h1, by rw [List.getElem?_append_left h1]; exact hi⟩
  ·
   rw [List.getElem?_append_right h1] at hi
   exact .inr ⟨h1, hi⟩
 have inb : ∀ (i : Nat) (r : Res), vs[i]? = some r → ∀ b ∈ r.fp, b ∈ (allR vs).fp := fun i r hi b hb => List.mem_flatMap.2 ⟨r, List.mem_of_getElem? hi, hb⟩
 refine ⟨h.old, fun i r hi => ?_, fun i r hi b hb => ?_, fun i j r s hi hj hne b hb hb2 => ?_⟩
 ·
  rcases key i r hi with ⟨_, h1⟩ | ⟨_, h1⟩
  ·
   exact h.is i r h1
  ·
   exact hall.1 _ r h1
 ·
  rcases key i r hi with ⟨_, h1⟩ | ⟨_, h1⟩
  ·
   exact h.lies i r h1 b hb
  ·
   exact h.lies _ _ hl b (inb _ r h1 b hb)
 ·
  rcases key i r hi with ⟨l1, h1⟩ | ⟨l1, h1⟩ <;> rcases key j s hj with ⟨l2, h2⟩ | ⟨l2, h2⟩
  ·
   exact h.apart i j r s h1 h2 hne b hb hb2
  ·
   exact h.apart i _ r _ h1 hl (by omega) b hb (inb _ s h2 b hb2)
  ·
   exact h.apart _ j _ s hl h2 (by omega) b (inb _ r h1 b hb) hb2
  ·
   exact hall.2 _ _ r s h1 h2 (by omega) b hb hb2
end
end Go.Proofs.Ytojcdmgcbgpdmaa.Run

set_option linter.unusedSimpArgs false
namespace Go.Proofs.Ytojcdmgcbgpdmaa.L6
open L4 (K isK cmpK R inR encU)
open L5 (F isR isN cellsF encR eqR Small Wide markT marksF marksF_length)
open Go.ChangeShapes Go.WideShapes Go.ChangeAt Go.RowKit Mem Sl Ex L2 Sv Bag

theorem con_at {xs : List LI} {k : Nat} {x : LI} (hx : xs[k]? = some x) : (conI xs)[k]? = some x.con := by unfold conI; rw [List.getElem?_map, hx]; rfl
theorem con_same {xs ys : List LI} (h : conI xs = conI ys) {k : Nat} {x : LI} (hx : xs[k]? = some x) : ∃ a c, ys[k]? = some ⟨x.k, a, c, x.l⟩ := by
 have h1 := con_at hx
 rw [h] at h1
 unfold conI at h1
 rw [List.getElem?_map, Option.map_eq_some_iff] at h1
 obtain ⟨y, hy, he⟩ := h1
 obtain ⟨k2, a, c, l2⟩ := y
 unfold LI.con at he
 simp only [It.mk.injEq] at he
 obtain ⟨rfl, rfl⟩ := he
 exact ⟨a, c, hy⟩

set_option maxHeartbeats 4000000 in
theorem eqItem_any (kd n : Int) (t : ByteArray) (ia ia2 : Option Addr) (ic ic2 : Nat) (l : List F) (hl : l.length ≤ 1048576) (w : World) (hr : Reads w w.heap.size ia (cellsF l)) (hr2 : Reads w w.heap.size ia2 (cellsF l)) :
  Calls Try.prog 183 #[.agg #[.int .i64 kd, .int .i64 n, .string t, .slice ia l.length ic], .agg #[.int .i64 kd, .int .i64 n, .string t, .slice ia2 l.length ic2]] w fun e w' => e = .returned (.bool true) ∧ Below w.heap.size w w' := by
 have HER := Lib.hid (fun w' (h : Below w.heap.size w w') => L5.eqRecord_any ia ia2 ic ic2 l (by omega) w' ((hr.below h).more h.size) ((hr2.below h).more h.size))
 have HEK := Lib.hid (fun w' => L4.eqKey_any ⟨kd, n, t⟩ w')
 unfold L4.K.v at HEK
 obtain ⟨N, hN⟩ : ∃ n, n = l.length := ⟨_, rfl⟩
 rw [← hN] at HER ⊢
 clear hN hr hr2 hl
 have S1 := Lib.hid (show Sl.Sep w _ [_, _] from L4.push_box (L4.push_box (Sl.Sep.start w) 40 #[.int .i64 kd, .int .i64 n, .string t, .slice ia N ic] (w.heap.size) (by simp)) 40 #[.int .i64 kd, .int .i64 n, .string t, .slice ia2 N ic2] (w.heap.size + 1) (by simp))
 obtain ⟨wa, hwa⟩ : ∃ u, u = ((w.alloc (.cells #[.int .i64 kd, .int .i64 n, .string t, .slice ia N ic] 40)).alloc (.cells #[.int .i64 kd, .int .i64 n, .string t, .slice ia2 N ic2] 40)) := ⟨_, rfl⟩
 rw [← hwa] at S1
 go_enter Try.func183, Try.ntmps183
 go_upto_region 1 with fail
 rw [← hwa]
 clear hwa
 obtain ⟨f0, f1, f2, f3⟩ := Bag.cs4 S1.out 0 rfl
 obtain ⟨f4, f5, f6, f7⟩ := Bag.cs4 S1.out 1 rfl
 go_wp2_with fail
 go_at_call 46
 refine (HEK.out _).mono ?_
 rintro e w1 ⟨rfl, hb⟩
 clear f0 f1 f2 f3 f4 f5 f6 f7
 have S2 := Lib.hid (S1.out.keep hb)
 clear S1
 clear hb
 obtain ⟨f0, f1, f2, f3⟩ := Bag.cs4 S2.out 0 rfl
 obtain ⟨f4, f5, f6, f7⟩ := Bag.cs4 S2.out 1 rfl
 go_wp2_with fail
 go_at_call 41
 refine (HER.out _ S2.out.old).mono ?_
 rintro e w2 ⟨rfl, hb⟩
 clear f0 f1 f2 f3 f4 f5 f6 f7
 have S3 := Lib.hid (S2.out.keep hb)
 clear S2
 clear hb
 obtain ⟨f0, f1, f2, f3⟩ := Bag.cs4 S3.out 0 rfl
 obtain ⟨f4, f5, f6, f7⟩ := Bag.cs4 S3.out 1 rfl
 go_wp2_with fail
 go_ret
 exact ⟨rfl, S3.out.old⟩
set_option maxHeartbeats 4000000 in
theorem eqItemS_any (a a2 : Option Addr) (c c2 : Nat) (xs xs2 : List LI) (hc : conI xs = conI xs2) (hl : xs.length ≤ 1048576) (hf : ∀ x ∈ conI xs, FitI x) (w : World) (hr : Reads w w.heap.size a (cellsI xs)) (hx : RowsRd w w.heap.size (rowsI xs)) (hr2 : Reads w w.heap.size a2 (cellsI xs2)) (hx2 : RowsRd w w.heap.size (rowsI xs2)) :
  Calls Try.prog 118 #[.slice a xs.length c, .slice a2 xs2.length c2] w fun e w' => e = .returned (.bool true) ∧ Below w.heap.size w w' := by
 have HR := Lib.hid (fun w' (h : Below w.heap.size w w') => hr.below h)
 have HR2 := Lib.hid (fun w' (h : Below w.heap.size w w') => hr2.below h)
 have HX := Lib.hid (fun w' (h : Below w.heap.size w w') => (hx.below h).more h.size)
 have HX2 := Lib.hid (fun w' (h : Below w.heap.size w w') => (hx2.below h).more h.size)
 have HF := Lib.hid hf
 have HS := Lib.hid hc
 have hlen : xs2.length = xs.length := by have h := congrArg List.length hc; simp only [conI_length] at h; exact h.symm
 obtain ⟨N, hN⟩ : ∃ n, n = xs.length := ⟨_, rfl⟩
 rw [hlen, ← hN]
 rw [← hN] at hl
 have hl' : (N : Int) ≤ 1048576 := by omega
 have HN := Lib.hid hN
 clear hN hr hr2 hx hx2 hf hc hlen
 have S1 := Lib.hid (show Sl.Sep w w [] from Sl.Sep.start w)
 go_enter Try.func118, Try.ntmps118
 go_wp2_with fail
 go_loopw [5] (fun i wr => ∃ k : Nat, k ≤ N ∧ i = .int .i64 k ∧ Hid (Sl.Sep w wr [])) (fun i _ => N - (intOf i).toNat)
 case atStart => exact ⟨0, Nat.zero_le _, rfl, S1.out⟩
 case round =>
  obtain ⟨k, hk, rfl, hrel⟩ := hrel
  have S2 := Lib.hid hrel.out
  clear hrel S1
  by_cases hlt : (k : Int) < (N : Int)
  ·
   skip
   have hkl : k < xs.length := by have := HN.out; omega
   obtain ⟨ad, x, rfl, hx⟩ := readsI_some (HR.out _ S2.out.old) k hkl
   obtain ⟨⟨kd, n, t⟩, ia, ic, l⟩ := x
   obtain ⟨ia2, ic2, hx2⟩ := con_same HS.out hx
   try dsimp only at hx2
   obtain ⟨ad2, x_, rfl, hx_⟩ := readsI_some (HR2.out _ S2.out.old) k (List.getElem?_eq_some_iff.1 hx2).1
   clear hx_ x_
   have HK := Lib.hid (fun w' (h : Below w.heap.size w w') => readsI_at (HR.out _ h) k _ hx)
   have HK2 := Lib.hid (fun w' (h : Below w.heap.size w w') => readsI_at (HR2.out _ h) k _ hx2)
   try dsimp only at HK HK2
   have HEQ := Lib.hid (fun w' (h : Below w.heap.size w w') => eqItem_any kd n t ia ia2 ic ic2 l (fit_at HF.out hx).len w' (((HX.out _ h).at_ (rowsI_mem hx)).reads) (((HX2.out _ h).at_ (rowsI_mem hx2)).reads))
   clear hx hx2
   go_upto_region 6 with fail
   refine wp_region_held_drew (S := (fun w' => (w'.cell? (ad.add (k * 4)) = some (.int .i64 kd) ∧ w'.cell? (⟨(ad.add (k * 4)).block, (ad.add (k * 4)).off + 1, none⟩) = some (.int .i64 n) ∧ w'.cell? (⟨(ad.add (k * 4)).block, (ad.add (k * 4)).off + 2, none⟩) = some (.string t) ∧ w'.cell? (⟨(ad.add (k * 4)).block, (ad.add (k * 4)).off + 3, none⟩) = some (.slice ia l.length ic)) ∧ (w'.cell? (ad2.add (k * 4)) = some (.int .i64 kd) ∧ w'.cell? (⟨(ad2.add (k * 4)).block, (ad2.add (k * 4)).off + 1, none⟩) = some (.int .i64 n) ∧ w'.cell? (⟨(ad2.add (k * 4)).block, (ad2.add (k * 4)).off + 2, none⟩) = some (.string t) ∧ w'.cell? (⟨(ad2.add (k * 4)).block, (ad2.add (k * 4)).off + 3, none⟩) = some (.slice ia2 l.length ic2)))) (by kernel_rfl) ⟨HK.out _ (Bag.drew1 S2.out).old, HK2.out _ (Bag.drew1 S2.out).old⟩ (fun hS => ?_)
   have S3 := Lib.hid (Bag.drew1 S2.out)
   clear S2
   generalize World.drew _ = w1 at hS S3 ⊢
   refine tk 0 rfl ?_
   try simp only [zp0, zp1, zp2, zp3, zp4]
   refine tk 1 rfl ?_
   try simp only [zp0, zp1, zp2, zp3, zp4]
   refine tk 2 rfl ?_
   try simp only [zp0, zp1, zp2, zp3, zp4]
   refine tk 3 rfl ?_
   try simp only [zp0, zp1, zp2, zp3, zp4]
   refine tk 4 rfl ?_
   try simp only [zp0, zp1, zp2, zp3, zp4]
   refine tk 5 rfl ?_
   try simp only [zp0, zp1, zp2, zp3, zp4]
   refine tk 6 rfl ?_
   try simp only [zp0, zp1, zp2, zp3, zp4]
   refine tk 7 rfl ?_
   try simp only [zp0, zp1, zp2, zp3, zp4]
   refine Reg.one_op (i := 8) rfl (by kernel_rfl) (fun K hK => ?_)
   go_simp
   go_at_call 183
   refine (HEQ.out _ S3.out.old).mono ?_
   rintro e w2 ⟨rfl, hb⟩
   have S4 := Lib.hid (S3.out.keep hb)
   clear S3
   clear hb
   go_wp2_with fail
   refine hK.out _ _ ⟨HK.out _ S4.out.old, HK2.out _ S4.out.old⟩ (fun hS => ?_)
   clear hK K
   try simp only [zp0, zp1, zp2, zp3, zp4]
   refine tk 9 rfl ?_
   try simp only [zp0, zp1, zp2, zp3, zp4]
   refine wpAnyH_done (by kernel_rfl) ?_ _
   obtain ⟨f0, f1, f2, f3⟩ := HK.out _ S4.out.old
   obtain ⟨f4, f5, f6, f7⟩ := HK2.out _ S4.out.old
   go_wp2_with fail
   go_roundw
   case rel => exact ⟨k + 1, by omega, by go_num, S4.out⟩
   case measure => simp [intOf]; omega
  ·
   skip
   go_wp2_with fail
   go_ret
   exact ⟨rfl, S2.out.old⟩
set_option maxHeartbeats 4000000 in
theorem eqStore_any (y y2 : LS) (hc : y.con = y2.con) (hf : FitS y.con) (w : World) (hr : RowsRd w w.heap.size y.rows) (hr2 : RowsRd w w.heap.size y2.rows) :
  Calls Try.prog 40 #[y.v, y2.v] w fun e w' => e = .returned (.bool true) ∧ Below w.heap.size w w' := by
 have HEI := Lib.hid (fun w' (h : Below w.heap.size w w') => eqItemS_any y.a y2.a y.c y2.c y.xs y2.xs (by have h1 := congrArg S6.items hc; exact h1) (by have h1 := hf.len; simpa [LS.con] using h1) hf.items w' (((LS.outer hr).below h).more h.size) (((LS.inner hr).below h).more h.size) (((LS.outer hr2).below h).more h.size) (((LS.inner hr2).below h).more h.size))
 obtain ⟨name, a, c, xs, auto⟩ := y
 obtain ⟨name2, a2, c2, xs2, auto2⟩ := y2
 unfold LS.con at hc
 simp only [S6.mk.injEq] at hc
 obtain ⟨rfl, hi, rfl⟩ := hc
 have hlen : xs2.length = xs.length := by have h := congrArg List.length hi; simp only [conI_length] at h; exact h.symm
 unfold LS.v LS.cells
 dsimp only at HEI ⊢
 rw [hlen] at HEI ⊢
 obtain ⟨N, hN⟩ : ∃ n, n = xs.length := ⟨_, rfl⟩
 rw [← hN] at HEI ⊢
 clear hN hlen hi hr hr2 hf
 have S1 := Lib.hid (show Sl.Sep w _ [_, _] from L4.push_box (L4.push_box (Sl.Sep.start w) 26 #[.string name, .slice a N c, .int .i64 auto] (w.heap.size) (by simp)) 26 #[.string name, .slice a2 N c2, .int .i64 auto] (w.heap.size + 1) (by simp))
 obtain ⟨wa, hwa⟩ : ∃ u, u = ((w.alloc (.cells #[.string name, .slice a N c, .int .i64 auto] 26)).alloc (.cells #[.string name, .slice a2 N c2, .int .i64 auto] 26)) := ⟨_, rfl⟩
 rw [← hwa] at S1
 go_enter Try.func40, Try.ntmps40
 go_upto_region 1 with fail
 rw [← hwa]
 clear hwa
 obtain ⟨f0, f1, f2⟩ := Bag.cs3 S1.out 0 rfl
 obtain ⟨f3, f4, f5⟩ := Bag.cs3 S1.out 1 rfl
 go_wp2_with fail
 go_at_call 118
 refine (HEI.out _ S1.out.old).mono ?_
 rintro e w1 ⟨rfl, hb⟩
 clear f0 f1 f2 f3 f4 f5
 have S2 := Lib.hid (S1.out.keep hb)
 clear S1
 clear hb
 obtain ⟨f0, f1, f2⟩ := Bag.cs3 S2.out 0 rfl
 obtain ⟨f3, f4, f5⟩ := Bag.cs3 S2.out 1 rfl
 go_wp2_with fail
 go_ret
 exact ⟨rfl, S2.out.old⟩
def mark1 (k : Int) (x : LI) : LI := ⟨⟨k, k + 1, markT (k + 2)⟩, x.a, x.c, marksF (k + 3) x.l.length⟩
def markI : Int → List LI → List LI
 | _, [] => []
 | k, x :: xs => mark1 k x :: markI (k + 3 + 2 * (x.l.length : Int)) xs
def endI : Int → List LI → Int
 | k, [] => k
 | k, x :: xs => endI (k + 3 + 2 * (x.l.length : Int)) xs
theorem markI_length : ∀ (k : Int) (xs : List LI), (markI k xs).length = xs.length
 | _, [] => rfl
 | k, x :: xs => by unfold markI; rw [List.length_cons, List.length_cons, markI_length]
theorem endI_snoc : ∀ (k : Int) (xs : List LI) (x : LI), endI k (xs ++ [x]) = endI k xs + 3 + 2 * (x.l.length : Int)
 | _, [], _ => rfl
 | k, y :: xs, x => endI_snoc _ xs x
theorem markI_snoc : ∀ (k : Int) (xs : List LI) (x : LI), markI k (xs ++ [x]) = markI k xs ++ [mark1 (endI k xs) x]
 | _, [], _ => rfl
 | k, y :: xs, x => by
  show mark1 k y :: markI _ (xs ++ [x]) = _
  rw [markI_snoc _ xs x]
  rfl
theorem mark1_fp (k : Int) (x : LI) : (mark1 k x).row.fp = x.row.fp := by
 unfold mark1 LI.row RowS.fp
 cases x.a <;> rfl
theorem markI_fp : ∀ (k : Int) (xs : List LI), (rowsI (markI k xs)).flatMap RowS.fp = (rowsI xs).flatMap RowS.fp
 | _, [] => rfl
 | k, x :: xs => by
  show ((mark1 k x).row :: rowsI (markI _ xs)).flatMap RowS.fp = (x.row :: rowsI xs).flatMap RowS.fp
  rw [List.flatMap_cons, List.flatMap_cons, mark1_fp, markI_fp _ xs]
theorem markB_fp (a : Option Addr) (c : Nat) (k : Int) (xs : List LI) : (bag (rowI a c (markI k xs) :: rowsI (markI k xs))).fp = (bag (rowI a c xs :: rowsI xs)).fp := by
 show (rowI a c (markI k xs) :: rowsI (markI k xs)).flatMap RowS.fp = (rowI a c xs :: rowsI xs).flatMap RowS.fp
 rw [List.flatMap_cons, List.flatMap_cons, markI_fp]
 congr 1
 unfold rowI RowS.fp
 cases a <;> rfl
theorem endI_range : ∀ (xs : List LI) (k : Int), (∀ x ∈ xs, x.l.length ≤ 1048576) → k ≤ endI k xs ∧ endI k xs ≤ k + (xs.length : Int) * 2097155
 | [], k, _ => by simp [endI]
 | x :: xs, k, h => by
  have h1 := endI_range xs (k + 3 + 2 * (x.l.length : Int)) (fun y hy => h y (List.mem_cons_of_mem _ hy))
  have h2 := h x (List.mem_cons_self ..)
  unfold endI
  rw [List.length_cons]
  omega
theorem markI_at {xs : List LI} {j : Nat} {x : LI} (k : Int) (hx : xs[j]? = some x) : (markI k xs)[j]? = some (mark1 (endI k (xs.take j)) x) := by
 obtain ⟨hj, rfl⟩ := List.getElem?_eq_some_iff.1 hx
 have e : ∀ (ys zs : List LI) (k : Int), markI k (ys ++ zs) = markI k ys ++ markI (endI k ys) zs := by
  intro ys
  induction ys with
  | nil => intro zs k; rfl
  | cons y ys ih => intro zs k; show mark1 k y :: markI _ (ys ++ zs) = _; rw [ih]; rfl
 have h2 : xs = xs.take j ++ (xs[j] :: xs.drop (j + 1)) := by rw [List.getElem_cons_drop, List.take_append_drop]
 have h3 : (xs.take j).length = j := by rw [List.length_take]; omega
 have h4 : ∀ zs, zs = xs.take j ++ (xs[j] :: xs.drop (j + 1)) → (markI k zs)[j]? = some (mark1 (endI k (xs.take j)) xs[j]) := fun zs hz => by
  rw [hz, e, List.getElem?_append_right (by rw [markI_length, h3]; exact Nat.le_refl _), markI_length, h3, Nat.sub_self]
  rfl
 exact h4 xs h2
theorem end_next {xs : List LI} {j : Nat} {x : LI} (k : Int) (hx : xs[j]? = some x) : endI k (xs.take (j + 1)) = endI k (xs.take j) + 3 + 2 * (x.l.length : Int) := by
 obtain ⟨hj, rfl⟩ := List.getElem?_eq_some_iff.1 hx
 rw [List.take_succ_eq_append_getElem hj, endI_snoc]
theorem mark_next {xs : List LI} {j : Nat} {x : LI} (k : Int) (hx : xs[j]? = some x) : markI k (xs.take (j + 1)) = markI k (xs.take j) ++ [mark1 (endI k (xs.take j)) x] := by
 obtain ⟨hj, rfl⟩ := List.getElem?_eq_some_iff.1 hx
 rw [List.take_succ_eq_append_getElem hj, markI_snoc]
theorem row_last (ds es : List LI) (x : LI) : (rowsI ds ++ rowsI (x :: es)).Perm ((rowsI ds ++ rowsI es) ++ [x.row]) := by
 show (rowsI ds ++ (x.row :: rowsI es)).Perm _
 rw [List.append_assoc]
 exact List.Perm.append_left _ (List.perm_append_comm (l₁ := [x.row]))
theorem row_back (ds es : List LI) (z : LI) : ((rowsI ds ++ rowsI es) ++ [z.row]).Perm (rowsI (ds ++ [z]) ++ rowsI es) := by
 rw [rowsI_append, List.append_assoc, List.append_assoc]
 exact List.Perm.append_left _ List.perm_append_comm
set_option maxHeartbeats 8000000 in
theorem markItemS_sep (a : Option Addr) (c : Nat) (xs : List LI) (k : Int) (W w : World) (S : Sl.Sep W w [bag (rowI a c xs :: rowsI xs), Run.restL W w (bag (rowI a c xs :: rowsI xs)).fp]) (hl : xs.length ≤ 1048576) (hlen : ∀ x ∈ xs, x.l.length ≤ 1048576) (hk0 : 0 < k) (hk1 : k ≤ 1099511627776) :
  Calls Try.prog 120 #[.slice a xs.length c, .int .i64 k] w fun e w' => e = .returned (.int .i64 (endI k xs)) ∧ Sl.Sep W w' [bag (rowI a c (markI k xs) :: rowsI (markI k xs)), Run.restL W w (bag (rowI a c xs :: rowsI xs)).fp] := by
 have HLEN := Lib.hid hlen
 obtain ⟨fps, hfps⟩ : ∃ f, f = (bag (rowI a c xs :: rowsI xs)).fp := ⟨_, rfl⟩
 rw [← hfps] at S ⊢
 clear hfps
 rcases (S.is 0 _ rfl).own (rowI a c xs) (List.mem_cons_self ..) |>.form with ⟨ha, hn0, -, hc0⟩ | ⟨g, hg, -, -, hnc, -⟩
 ·
  have ha' : a = none := ha
  have hc' : c = 0 := hc0
  have hx : xs = [] := List.eq_nil_of_length_eq_zero hn0
  subst hx
  have H := Lib.hid S
  clear S
  go_enter Try.func120, Try.ntmps120
  go_wp2_with fail
  refine wp_loop_rounds 1 ?_
  rw [rounds_succ]
  go_wp2_with fail
  go_ret
  exact ⟨rfl, H.out⟩
 have hg' : a = some ⟨g, 0, none⟩ := hg
 subst hg'
 obtain ⟨N, hN⟩ : ∃ n, n = xs.length := ⟨_, rfl⟩
 rw [← hN] at hl ⊢
 have hl' : (N : Int) ≤ 1048576 := by omega
 have HN := Lib.hid hN
 have HK1 := Lib.hid hk1
 have S1 := Lib.hid S
 clear hg hN S hnc hlen
 have S2 := Lib.hid (show Sl.Sep W _ [Bag.bag ([rowI (some ⟨g, 0, none⟩) c xs] ++ rowsI xs), Run.restL W w fps] from S1.out)
 clear S1
 have S3 := Lib.hid (show Sl.Sep W _ [Bag.bag ([rowI (some ⟨g, 0, none⟩) c xs]), _, Bag.bag (rowsI xs)] from Bag.bag_split S2.out 0 rfl)
 clear S2
 have S4 := Lib.hid (show Sl.Sep W _ [Sv.ownV 40 4 (some ⟨g, 0, none⟩) c N (cellsI (markI k [] ++ xs.drop 0)), _, _] from (by have h := Bag.one_of_bag S3.out 0 (r := rowI (some ⟨g, 0, none⟩) c xs) rfl; unfold RowS.res rowI at h; dsimp only at h; rw [← HN.out] at h; exact h))
 clear S3
 have S5 := Lib.hid (show Sl.Sep W _ [_, Bag.bag (rowsI (markI k []) ++ rowsI (xs.drop 0)), _] from Bag.take S4.out [0, 2, 1] (by rfl) (by decide))
 clear S4
 go_enter Try.func120, Try.ntmps120
 go_wp2_with fail
 go_loopw [1, 5] (fun v i wr => ∃ (j : Nat) (m : Int), j ≤ N ∧ i = .int .i64 j ∧ v = .int .i64 m ∧ k ≤ m ∧ m ≤ k + (j : Int) * 2097155 ∧ Hid (m = endI k (xs.take j) ∧ Sl.Sep W wr [Sv.ownV 40 4 (some ⟨g, 0, none⟩) c N (cellsI (markI k (xs.take j) ++ xs.drop j)), Bag.bag (rowsI (markI k (xs.take j)) ++ rowsI (xs.drop j)), Run.restL W w fps])) (fun _ i _ => N - (intOf i).toNat)
 case atStart => exact ⟨0, k, Nat.zero_le _, rfl, rfl, by omega, by omega, And.intro rfl S5.out⟩
 case round =>
  obtain ⟨j, m, hj, rfl, rfl, hm0, hm1, hrel⟩ := hrel
  have HM := Lib.hid hrel.out.1
  have S6 := Lib.hid hrel.out.2
  clear hrel S5
  by_cases hlt : (j : Int) < (N : Int)
  ·
   skip
   have hjl : j < xs.length := by have := HN.out; omega
   obtain ⟨x, hx⟩ : ∃ x, xs[j]? = some x := ⟨_, List.getElem?_eq_getElem hjl⟩
   have HXL := Lib.hid (HLEN.out x (List.mem_of_getElem? hx))
   have HEN := Lib.hid (end_next k hx)
   have HMN := Lib.hid (mark_next k hx)
   have HDR := Lib.hid (show xs.drop j = x :: xs.drop (j + 1) from by obtain ⟨h1, rfl⟩ := List.getElem?_eq_some_iff.1 hx; exact (List.getElem_cons_drop ..).symm)
   clear hx
   obtain ⟨⟨kd, n, t⟩, ia, ic, l⟩ := x
   dsimp only at HXL HEN
   rw [← HM.out] at HEN HMN
   have hxl : (l.length : Int) ≤ 1048576 := by have := HXL.out; omega
   have hmb : m ≤ 4611686018427387904 - 2097155 := by have := HK1.out; omega
   have HDL := Lib.hid (show (cellsI (markI k (xs.take j))).length = j * 4 by rw [cellsI_length, markI_length, List.length_take]; omega)
   have HDE := Lib.hid (show (rowsI (markI k (xs.take j)) ++ rowsI (xs.drop j)).Perm ((rowsI (markI k (xs.take j)) ++ rowsI (xs.drop (j + 1))) ++ [(LI.mk ⟨kd, n, t⟩ ia ic l).row]) from by rw [HDR.out]; exact row_last _ _ _)
   obtain ⟨R0, hR0⟩ : ∃ R0, R0 = cellsI (xs.drop (j + 1)) := ⟨_, rfl⟩
   obtain ⟨D0, hD0⟩ : ∃ D0, D0 = cellsI (markI k (xs.take j)) := ⟨_, rfl⟩
   have HR0 := Lib.hid hR0
   have HD0 := Lib.hid hD0
   rw [← hD0] at HDL
   clear hR0 hD0
   have S7 := Lib.hid (show Sl.Sep W _ [Sv.ownV 40 4 (some ⟨g, 0, none⟩) c N (D0 ++ (.int .i64 kd :: .int .i64 n :: .string t :: .slice ia l.length ic :: R0)), Bag.bag (rowsI (markI k (xs.take j)) ++ rowsI (xs.drop j)), Run.restL W w fps] from (by have h := S6.out; rw [show cellsI (markI k (xs.take j) ++ xs.drop j) = D0 ++ (.int .i64 kd :: .int .i64 n :: .string t :: .slice ia l.length ic :: R0) from by rw [cellsI_append, HDR.out, cellsI_cons, ← HR0.out, ← HD0.out]] at h; exact h))
   clear S6
   have q0 := (Sv.own_at S7.out 0 rfl).cell (j * 4) (by rw [List.length_append, HDL.out]; simp <;> omega)
   have z0 := (Sv.own_at S7.out 0 rfl).free (j * 4)
   have q1 := (Sv.own_at S7.out 0 rfl).cell (j * 4 + 1) (by rw [List.length_append, HDL.out]; simp <;> omega)
   have z1 := (Sv.own_at S7.out 0 rfl).free (j * 4 + 1)
   go_wp2_with fail
   clear q0 z0 q1 z1
   have HOV := Lib.hid (show Run.over (D0 ++ (.int .i64 kd :: .int .i64 n :: .string t :: .slice ia l.length ic :: R0)) (j * 4) [.int .i64 m, .int .i64 (m + 1)] = D0 ++ (.int .i64 m :: .int .i64 (m + 1) :: .string t :: .slice ia l.length ic :: R0) from by rw [show D0 ++ (.int .i64 kd :: .int .i64 n :: .string t :: .slice ia l.length ic :: R0) = D0 ++ ([.int .i64 kd, .int .i64 n] ++ (.string t :: .slice ia l.length ic :: R0)) from by simp, Run.over_mid D0 (.string t :: .slice ia l.length ic :: R0) [.int .i64 m, .int .i64 (m + 1)] [.int .i64 kd, .int .i64 n] (j * 4) (by simp [HDL.out]) rfl]; simp)
   have S8 := Lib.hid (show Sl.Sep W ((wr.setCell ⟨g, j * 4, none⟩ (.int .i64 m)).setCell ⟨g, j * 4 + 1, none⟩ (.int .i64 (m + 1))) [Sv.ownV 40 4 (some ⟨g, 0, none⟩) c N (D0 ++ (.int .i64 m :: .int .i64 (m + 1) :: .string t :: .slice ia l.length ic :: R0)), _, _] from (by have h := Run.put_run S7.out 0 rfl (j * 4) [.int .i64 m, .int .i64 (m + 1)] (by rw [List.length_append, HDL.out]; simp <;> omega); rw [HOV.out] at h; exact h))
   clear S7
   clear HOV
   have HMT := Lib.hid (fun w' => L5.markText_any (m + 2) (by omega) (by omega) w')
   have e2 : m + 1 + 1 = m + 2 := by omega
   try simp only [e2]
   go_at_call 129
   refine (HMT.out _).mono ?_
   rintro e w1 ⟨rfl, hb⟩
   have S9 := Lib.hid (S8.out.keep hb)
   clear S8
   clear hb
   have q2 := (Sv.own_at S9.out 0 rfl).cell (j * 4 + 2) (by rw [List.length_append, HDL.out]; simp <;> omega)
   have z2 := (Sv.own_at S9.out 0 rfl).free (j * 4 + 2)
   go_upto_region 9 with fail
   clear q2 z2
   have HOV := Lib.hid (show Run.over (D0 ++ (.int .i64 m :: .int .i64 (m + 1) :: .string t :: .slice ia l.length ic :: R0)) (j * 4 + 2) [.string (markT (m + 2))] = D0 ++ (.int .i64 m :: .int .i64 (m + 1) :: .string (markT (m + 2)) :: .slice ia l.length ic :: R0) from by rw [show D0 ++ (.int .i64 m :: .int .i64 (m + 1) :: .string t :: .slice ia l.length ic :: R0) = (D0 ++ ([.int .i64 m, .int .i64 (m + 1)] : List Value)) ++ ([.string t] ++ (.slice ia l.length ic :: R0)) from by simp, Run.over_mid (D0 ++ ([.int .i64 m, .int .i64 (m + 1)] : List Value)) (.slice ia l.length ic :: R0) [.string (markT (m + 2))] [.string t] (j * 4 + 2) (by simp [HDL.out]) rfl]; simp)
   have S10 := Lib.hid (show Sl.Sep W (w1.setCell ⟨g, j * 4 + 2, none⟩ (.string (markT (m + 2)))) [Sv.ownV 40 4 (some ⟨g, 0, none⟩) c N (D0 ++ (.int .i64 m :: .int .i64 (m + 1) :: .string (markT (m + 2)) :: .slice ia l.length ic :: R0)), Bag.bag (rowsI (markI k (xs.take j)) ++ rowsI (xs.drop j)), Run.restL W w fps] from (by have h := Run.put_run S9.out 0 rfl (j * 4 + 2) [.string (markT (m + 2))] (by rw [List.length_append, HDL.out]; simp <;> omega); rw [HOV.out] at h; exact h))
   clear S9
   clear HOV
   have e3 : m + 2 + 1 = m + 3 := by omega
   have q3 : World.cell? (w1.setCell ⟨g, j * 4 + 2, none⟩ (.string (markT (m + 2)))) ⟨g, j * 4 + 3, none⟩ = some (.slice ia l.length ic) := by rw [(Sv.own_at S10.out 0 rfl).cell (j * 4 + 3) (by rw [List.length_append, HDL.out]; simp <;> omega)]; simp [List.getElem_append, HDL.out]
   have S11 := Lib.hid (show Sl.Sep W _ [Sv.ownV 40 4 (some ⟨g, 0, none⟩) c N (D0 ++ (.int .i64 m :: .int .i64 (m + 1) :: .string (markT (m + 2)) :: .slice ia l.length ic :: R0)), Bag.bag ((rowsI (markI k (xs.take j)) ++ rowsI (xs.drop (j + 1))) ++ [(LI.mk ⟨kd, n, t⟩ ia ic l).row]), Run.restL W w fps] from Bag.bag_perm S10.out 1 rfl HDE.out)
   clear S10
   have S12 := Lib.hid (show Sl.Sep W _ [_, Bag.bag (rowsI (markI k (xs.take j)) ++ rowsI (xs.drop (j + 1))), _, Bag.bag ([(LI.mk ⟨kd, n, t⟩ ia ic l).row])] from Bag.bag_split S11.out 1 rfl)
   clear S11
   have S13 := Lib.hid (show Sl.Sep W _ [_, _, _, Sv.ownV 128 2 ia ic l.length (cellsF l)] from Bag.one_of_bag S12.out 3 (r := (LI.mk ⟨kd, n, t⟩ ia ic l).row) rfl)
   clear S12
   go_wp2_with fail
   try simp only [e2, e3]
   go_at_call 121
   refine (L5.markFieldS_any ia ic l (m + 3) _ (Sv.own_at S13.out 3 rfl) (by omega) (by omega) (by omega)).mono ?_
   rintro e w7 ⟨rfl, ho, ht⟩
   clear q3
   have S14 := Lib.hid (show Sl.Sep W _ [_, _, _, Sv.ownV 128 2 ia ic l.length (cellsF (marksF (m + 3) l.length))] from S13.out.put 3 rfl ht ho (fun b hb => hb))
   clear S13
   clear ho ht
   have S15 := Lib.hid (show Sl.Sep W _ [_, _, _, Bag.bag ([(mark1 m (LI.mk ⟨kd, n, t⟩ ia ic l)).row])] from Bag.bag_of_one S14.out 3 (r := (mark1 m (LI.mk ⟨kd, n, t⟩ ia ic l)).row) (by unfold RowS.res LI.row mark1; dsimp only; rw [marksF_length]; rfl))
   clear S14
   have S16 := Lib.hid (show Sl.Sep W _ [_, Bag.bag ((rowsI (markI k (xs.take j)) ++ rowsI (xs.drop (j + 1))) ++ ([(mark1 m (LI.mk ⟨kd, n, t⟩ ia ic l)).row])), _, Bag.bag ([])] from Bag.bag_join S15.out 1 3 (by decide) rfl rfl)
   clear S15
   have S17 := Lib.hid (show Sl.Sep W _ [Sv.ownV 40 4 (some ⟨g, 0, none⟩) c N (D0 ++ (.int .i64 m :: .int .i64 (m + 1) :: .string (markT (m + 2)) :: .slice ia l.length ic :: R0)), Bag.bag (rowsI (markI k (xs.take (j + 1))) ++ rowsI (xs.drop (j + 1))), Run.restL W w fps, Bag.bag ([])] from (by rw [HMN.out]; exact Bag.bag_perm S16.out 1 rfl (row_back _ _ _)))
   clear S16
   have S18 := Lib.hid (show Sl.Sep W _ [_, _, _] from Bag.take S17.out [0, 1, 2] (by rfl) (by decide))
   clear S17
   have HROW := Lib.hid (show cellsI (markI k (xs.take (j + 1)) ++ xs.drop (j + 1)) = D0 ++ (.int .i64 m :: .int .i64 (m + 1) :: .string (markT (m + 2)) :: .slice ia l.length ic :: R0) from by rw [HMN.out, cellsI_append, cellsI_append, ← HR0.out, ← HD0.out, List.append_assoc]; show D0 ++ (.int .i64 m :: .int .i64 (m + 1) :: .string (markT (m + 2)) :: .slice ia (marksF (m + 3) l.length).length ic :: R0) = _; rw [marksF_length])
   have S19 := Lib.hid (show Sl.Sep W _ [Sv.ownV 40 4 (some ⟨g, 0, none⟩) c N (cellsI (markI k (xs.take (j + 1)) ++ xs.drop (j + 1))), _, _] from (by rw [HROW.out]; exact S18.out))
   clear S18
   go_wp2_with fail
   go_roundw
   case rel => exact ⟨j + 1, m + 3 + 2 * (l.length : Int), by omega, by go_num, by first | rfl | go_num, by omega, by omega, And.intro HEN.out.symm S19.out⟩
   case measure => simp [intOf]; omega
  ·
   skip
   obtain rfl : j = N := by omega
   have hT : xs.take j = xs := List.take_of_length_le (by have := HN.out; omega)
   have hD : xs.drop j = [] := List.drop_of_length_le (by have := HN.out; omega)
   have HT := Lib.hid hT
   have HD := Lib.hid hD
   clear hT hD
   have S7 := Lib.hid (show Sl.Sep W _ [Sv.ownV 40 4 (some ⟨g, 0, none⟩) c j (cellsI (markI k xs)), Bag.bag (rowsI (markI k xs)), Run.restL W w fps] from (by have h := S6.out; rw [HT.out, HD.out, List.append_nil, show rowsI (markI k xs) ++ rowsI [] = rowsI (markI k xs) from List.append_nil _] at h; exact h))
   clear S6
   have S8 := Lib.hid (show Sl.Sep W _ [Bag.bag ([rowI (some ⟨g, 0, none⟩) c (markI k xs)]), _, _] from Bag.bag_of_one S7.out 0 (r := rowI (some ⟨g, 0, none⟩) c (markI k xs)) (by unfold RowS.res rowI; dsimp only; rw [markI_length, ← HN.out]; rfl))
   clear S7
   have S9 := Lib.hid (show Sl.Sep W _ [Bag.bag ([rowI (some ⟨g, 0, none⟩) c (markI k xs)] ++ (rowsI (markI k xs))), Bag.bag ([]), _] from Bag.bag_join S8.out 0 1 (by decide) rfl rfl)
   clear S8
   have S10 := Lib.hid (show Sl.Sep W _ [_, _] from Bag.take S9.out [0, 2] (by rfl) (by decide))
   clear S9
   go_wp2_with fail
   go_ret
   exact ⟨by rw [← HT.out, ← HM.out]; rfl, S10.out⟩
theorem markItemS_any {W w : World} {rs : List Res} (h : Sl.Sep W w rs) (i : Nat) {a : Option Addr} {c : Nat} {xs : List LI} (hi : rs[i]? = some (bag (rowI a c xs :: rowsI xs))) (k : Int) (hl : xs.length ≤ 1048576) (hlen : ∀ x ∈ xs, x.l.length ≤ 1048576) (hk0 : 0 < k) (hk1 : k ≤ 1099511627776) :
  Calls Try.prog 120 #[.slice a xs.length c, .int .i64 k] w fun e w' => e = .returned (.int .i64 (endI k xs)) ∧ Sl.Sep W w' (rs.set i (bag (rowI a c (markI k xs) :: rowsI (markI k xs)))) :=
 (markItemS_sep a c xs k W w (Run.restL_start h i hi) hl hlen hk0 hk1).mono fun _ _ ⟨he, hs⟩ => ⟨he, Run.restL_back h i hi hs (markB_fp a c k xs)⟩
def LS.marked (k : Int) (y : LS) : LS := ⟨y.name, y.a, y.c, markI k y.xs, y.auto⟩
set_option maxHeartbeats 1000000 in
theorem markStore_any {W w : World} {rs : List Res} (h : Sl.Sep W w rs) (i : Nat) {y : LS} (hi : rs[i]? = some (bag y.rows)) (k : Int) (hf : FitS y.con) (hk0 : 0 < k) (hk1 : k ≤ 1099511627776) :
  Calls Try.prog 42 #[y.v, .int .i64 k] w fun e w' => e = .returned (.int .i64 (endI k y.xs)) ∧ Sl.Sep W w' (rs.set i (bag (LS.marked k y).rows)) := by
 have HC := Lib.hid (fun o => markItemS_any (h.alloc o) i hi k (by have h1 := hf.len; simpa [LS.con] using h1) (fun x hx => (hf.items x.con (List.mem_map.2 ⟨x, hx, rfl⟩)).len) hk0 hk1)
 obtain ⟨name, a, c, xs, auto⟩ := y
 unfold LS.v LS.cells
 dsimp only at HC ⊢
 obtain ⟨N, hN⟩ : ∃ n, n = xs.length := ⟨_, rfl⟩
 rw [← hN] at HC ⊢
 clear hN hf
 go_enter Try.func42, Try.ntmps42
 go_wp2_with (go_at_call 120; refine (HC.out _).mono ?_; rintro e w2 ⟨rfl, ho⟩; have HO := Lib.hid ho; clear ho)
 go_ret
 exact ⟨rfl, HO.out⟩
set_option maxHeartbeats 4000000 in
theorem heldItemS_any (a : Option Addr) (c : Nat) (xs : List LI) (k : Int) (hl : xs.length ≤ 1048576) (hlen : ∀ x ∈ xs, x.l.length ≤ 1048576) (hk0 : 0 < k) (hk1 : k ≤ 1099511627776) (w : World) (hr : Reads w w.heap.size a (cellsI (markI k xs))) (hx : RowsRd w w.heap.size (rowsI (markI k xs))) :
  Calls Try.prog 122 #[.slice a xs.length c, .int .i64 k] w fun e w' => e = .returned (.int .i64 (endI k xs)) ∧ Below w.heap.size w w' := by
 have HR := Lib.hid (fun w' (h : Below w.heap.size w w') => hr.below h)
 have HX := Lib.hid (fun w' (h : Below w.heap.size w w') => (hx.below h).more h.size)
 have HLEN := Lib.hid hlen
 obtain ⟨N, hN⟩ : ∃ n, n = xs.length := ⟨_, rfl⟩
 rw [← hN] at hl ⊢
 have hl' : (N : Int) ≤ 1048576 := by omega
 have HN := Lib.hid hN
 have HK1 := Lib.hid hk1
 clear hN hr hx hlen
 have S1 := Lib.hid (show Sl.Sep w w [] from Sl.Sep.start w)
 go_enter Try.func122, Try.ntmps122
 go_wp2_with fail
 go_loopw [1, 5] (fun v i wr => ∃ (j : Nat) (m : Int), j ≤ N ∧ i = .int .i64 j ∧ v = .int .i64 m ∧ k ≤ m ∧ m ≤ k + (j : Int) * 2097155 ∧ Hid (m = endI k (xs.take j) ∧ Sl.Sep w wr [])) (fun _ i _ => N - (intOf i).toNat)
 case atStart => exact ⟨0, k, Nat.zero_le _, rfl, rfl, by omega, by omega, And.intro rfl S1.out⟩
 case round =>
  obtain ⟨j, m, hj, rfl, rfl, hm0, hm1, hrel⟩ := hrel
  have HM := Lib.hid hrel.out.1
  have S2 := Lib.hid hrel.out.2
  clear hrel S1
  by_cases hlt : (j : Int) < (N : Int)
  ·
   skip
   have hjl : j < xs.length := by have := HN.out; omega
   obtain ⟨x, hx⟩ : ∃ x, xs[j]? = some x := ⟨_, List.getElem?_eq_getElem hjl⟩
   have HXL := Lib.hid (HLEN.out x (List.mem_of_getElem? hx))
   have HEN := Lib.hid (end_next k hx)
   have hmx := markI_at k hx
   rw [← HM.out] at hmx HEN
   clear hx
   obtain ⟨⟨kd, n, t⟩, ia, ic, l⟩ := x
   dsimp only at HXL HEN
   obtain ⟨ad, x_, rfl, hx_⟩ := readsI_some (HR.out _ S2.out.old) j (List.getElem?_eq_some_iff.1 hmx).1
   clear hx_ x_
   have HK := Lib.hid (fun w' (h : Below w.heap.size w w') => readsI_at (HR.out _ h) j _ hmx)
   unfold mark1 at HK
   dsimp only at HK
   have HHF := Lib.hid (fun w' (h : Below w.heap.size w w') => L5.heldFieldS_any ia ic l.length (m + 3) w' (((HX.out _ h).at_ (rowsI_mem hmx)).reads) (by have := HXL.out; omega) (by omega) (by have := HK1.out; omega))
   have hxl : (l.length : Int) ≤ 1048576 := by have := HXL.out; omega
   have hmb : m ≤ 4611686018427387904 - 2097155 := by have := HK1.out; omega
   obtain ⟨tt, htt⟩ : ∃ t, markT (m + 2) = t := ⟨_, rfl⟩
   have HMT := Lib.hid (fun w' => L5.markText_any (m + 2) (by omega) (by omega) w')
   rw [htt] at HMT HK
   clear htt hmx
   have hML : (marksF (m + 3) l.length).length = l.length := marksF_length _ _
   rw [hML] at HK
   clear hML
   have e2 : m + 1 + 1 = m + 2 := by omega
   have e3 : m + 2 + 1 = m + 3 := by omega
   obtain ⟨f0, f1, f2, f3⟩ := HK.out _ S2.out.old
   go_upto_region 10 with fail
   clear f0 f1 f2 f3
   refine wp_region_held_drew (S := (fun w' => (w'.cell? (ad.add (j * 4)) = some (.int .i64 m) ∧ w'.cell? (⟨(ad.add (j * 4)).block, (ad.add (j * 4)).off + 1, none⟩) = some (.int .i64 (m + 1)) ∧ w'.cell? (⟨(ad.add (j * 4)).block, (ad.add (j * 4)).off + 2, none⟩) = some (.string tt) ∧ w'.cell? (⟨(ad.add (j * 4)).block, (ad.add (j * 4)).off + 3, none⟩) = some (.slice ia l.length ic)))) (by kernel_rfl) (HK.out _ (Bag.drew1 S2.out).old) (fun hS => ?_)
   have S3 := Lib.hid (Bag.drew1 S2.out)
   clear S2
   generalize World.drew _ = w1 at hS S3 ⊢
   refine tk 0 rfl ?_
   try simp only [zp0, zp1, zp2, zp3, zp4]
   refine tk 1 rfl ?_
   try simp only [zp0, zp1, zp2, zp3, zp4]
   refine tk 2 rfl ?_
   try simp only [zp0, zp1, zp2, zp3, zp4]
   refine tk 3 rfl ?_
   try simp only [zp0, zp1, zp2, zp3, zp4]
   refine tk 4 rfl ?_
   try simp only [zp0, zp1, zp2, zp3, zp4]
   refine tk 5 rfl ?_
   try simp only [zp0, zp1, zp2, zp3, zp4]
   refine tk 6 rfl ?_
   try simp only [zp0, zp1, zp2, zp3, zp4]
   refine Reg.one_op (i := 7) rfl (by kernel_rfl) (fun K hK => ?_)
   go_simp
   try simp only [e2]
   go_at_call 129
   refine (HMT.out _).mono ?_
   rintro e w2 ⟨rfl, hb⟩
   have S4 := Lib.hid (S3.out.keep hb)
   clear S3
   clear hb
   go_wp2_with fail
   refine hK.out _ _ (HK.out _ S4.out.old) (fun hS => ?_)
   clear hK K
   try simp only [zp0, zp1, zp2, zp3, zp4]
   refine tk 8 rfl ?_
   try simp only [zp0, zp1, zp2, zp3, zp4]
   refine wpAnyH_done (by kernel_rfl) ?_ _
   obtain ⟨f0, f1, f2, f3⟩ := HK.out _ S4.out.old
   go_wp2_with fail
   try simp only [e2, e3]
   go_at_call 185
   refine (HHF.out _ S4.out.old).mono ?_
   rintro e w3 ⟨rfl, hb⟩
   clear f0 f1 f2 f3
   have S5 := Lib.hid (S4.out.keep hb)
   clear S4
   clear hb
   obtain ⟨f0, f1, f2, f3⟩ := HK.out _ S5.out.old
   have hneg : ¬ (m + 3 + 2 * (l.length : Int) < 0) := by omega
   go_wp2_with fail
   go_roundw
   case rel => exact ⟨j + 1, m + 3 + 2 * (l.length : Int), by omega, by go_num, by first | rfl | go_num, by omega, by omega, And.intro HEN.out.symm S5.out⟩
   case measure => simp [intOf]; omega
  ·
   skip
   obtain rfl : j = N := by omega
   have hT : xs.take j = xs := List.take_of_length_le (by have := HN.out; omega)
   have HT := Lib.hid hT
   clear hT
   go_wp2_with fail
   go_ret
   exact ⟨by have h := HM.out; rw [HT.out] at h; rw [← h]; rfl, S2.out.old⟩
set_option maxHeartbeats 1000000 in
theorem heldStore_any (y : LS) (k : Int) (hf : FitS y.con) (hk0 : 0 < k) (hk1 : k ≤ 1099511627776) (w : World) (hr : RowsRd w w.heap.size (LS.marked k y).rows) :
  Calls Try.prog 44 #[y.v, .int .i64 k] w fun e w' => e = .returned (.int .i64 (endI k y.xs)) ∧ Below w.heap.size w w' := by
 have hn := (endI_range y.xs k (fun x hx => (hf.items x.con (List.mem_map.2 ⟨x, hx, rfl⟩)).len)).1
 have HC := Lib.hid (fun w' (h : Below w.heap.size w w') => heldItemS_any y.a y.c y.xs k (by have h1 := hf.len; simpa [LS.con] using h1) (fun x hx => (hf.items x.con (List.mem_map.2 ⟨x, hx, rfl⟩)).len) hk0 hk1 w' (((LS.outer hr).below h).more h.size) (((LS.inner hr).below h).more h.size))
 have HB := Lib.hid (fun o => below_alloc (Below.refl w.heap.size w) o (Nat.le_refl _))
 obtain ⟨name, a, c, xs, auto⟩ := y
 unfold LS.v LS.cells
 dsimp only at HC hn ⊢
 obtain ⟨N, hN⟩ : ∃ n, n = xs.length := ⟨_, rfl⟩
 obtain ⟨E, hE⟩ : ∃ E, E = endI k xs := ⟨_, rfl⟩
 rw [← hE] at hn
 rw [← hN, ← hE] at HC ⊢
 clear hN hf hr hE
 have hneg : ¬ (E < 0) := by omega
 go_enter Try.func44, Try.ntmps44
 go_wp2_with (go_at_call 122; refine (HC.out _ (HB.out _)).mono ?_; rintro e w2 ⟨rfl, ho⟩; have HO := Lib.hid ho; clear ho)
 go_ret
 exact ⟨rfl, (HB.out _).trans (HO.out.mono (HB.out _).size)⟩
end Go.Proofs.Ytojcdmgcbgpdmaa.L6

set_option linter.unusedSimpArgs false
namespace Go.Proofs.Ytojcdmgcbgpdmaa.L6
open L4 (K isK cmpK R inR encU)
open L5 (F isR isN cellsF encR eqR Small)
open Go.ChangeShapes Go.WideShapes Go.ChangeAt Go.RowKit Mem Sl Ex L2 Sv Bag

theorem con_of {xs : List LI} {k : Nat} {x : LI} (hx : xs[k]? = some x) : (conI xs)[k]? = some x.con := by unfold conI; rw [List.getElem?_map, hx]; rfl
set_option maxHeartbeats 8000000 in
theorem specIsStore_any (y : LS) (hf : FitS y.con) (w : World) (hr : RowsRd w w.heap.size y.rows) :
  Calls Try.prog 29 #[y.v] w fun e w' => e = .returned (.bool (isS y.con)) ∧ Below w.heap.size w w' := by
 obtain ⟨name, a, c, xs, auto⟩ := y
 have HR := Lib.hid (fun w' (h : Below w.heap.size w w') => LS.outer (hr.below h))
 have HX := Lib.hid (fun w' (h : Below w.heap.size w w') => (LS.inner (hr.below h)).more h.size)
 have HF := Lib.hid hf.items
 have HNM := Lib.hid hf.name
 have hl := hf.len
 simp only [LS.con, conI_length] at hl
 dsimp only [LS.con] at HR HX HF HNM
 try unfold LS.v LS.cells LS.con
 try dsimp only
 obtain ⟨N, hN⟩ : ∃ n, n = xs.length := ⟨_, rfl⟩
 rw [← hN] at hl ⊢
 have hl' : (N : Int) ≤ 1048576 := by omega
 have HN := Lib.hid hN
 clear hN hr hf
 have S1 := Lib.hid (show Sl.Sep w _ [_] from L4.push_box (Sl.Sep.start w) 26 #[.string name, .slice a N c, .int .i64 auto] (w.heap.size) (by simp))
 obtain ⟨wa, hwa⟩ : ∃ u, u = (w.alloc (.cells #[.string name, .slice a N c, .int .i64 auto] 26)) := ⟨_, rfl⟩
 rw [← hwa] at S1
 go_enter Try.func29, Try.ntmps29
 go_upto_region 1 with fail
 rw [← hwa]
 clear hwa
 go_wp2_with fail
 go_loopw [3] (fun i wr => ∃ k : Nat, k ≤ N ∧ i = .int .i64 k ∧ Hid ((∀ j, j < k → okIx (conI xs) j = true) ∧ Sl.Sep w wr [L4.boxR w.heap.size 26 #[.string name, .slice a N c, .int .i64 auto]])) (fun i _ => N - (intOf i).toNat)
 case atStart => exact ⟨0, Nat.zero_le _, rfl, And.intro (fun j h => absurd h (by omega)) S1.out⟩
 case round =>
  obtain ⟨k, hk, rfl, hrel⟩ := hrel
  have HA := Lib.hid hrel.out.1
  have S2 := Lib.hid hrel.out.2
  clear hrel S1
  by_cases hlt : (k : Int) < (N : Int)
  ·
   skip
   have hkl : k < xs.length := by have := HN.out; omega
   obtain ⟨ad, x, rfl, hx⟩ := readsI_some (HR.out _ S2.out.old) k hkl
   obtain ⟨⟨kd, n, t⟩, ia, ic, l⟩ := x
   have HK := Lib.hid (fun w' (h : Below w.heap.size w w') => readsI_at (HR.out _ h) k _ hx)
   try dsimp only at HK
   have HFI := Lib.hid (fit_at HF.out hx)
   try dsimp only [LI.con] at HFI
   have hci : k < (conI xs).length := by rw [conI_length]; exact hkl
   have HC := Lib.hid (show (conI xs)[k]? = some (⟨⟨kd, n, t⟩, l⟩ : It) from con_of hx)
   obtain ⟨bk, hbk⟩ : ∃ b, isK ⟨kd, n, t⟩ = b := ⟨_, rfl⟩
   have HIK := fun w => L4.specIsKey_any ⟨kd, n, t⟩ (by have : t.size ≤ 1099511627776 := HFI.out.text; show t.size ≤ _; omega) w
   rw [hbk] at HIK
   replace HIK := Lib.hid HIK
   have HBK := Lib.hid hbk
   obtain ⟨br, hbr⟩ : ∃ b, isR l = b := ⟨_, rfl⟩
   have HIR := fun w' (h : Below w.heap.size w w') => L5.specIsRecord_any ia ic l (by have : l.length ≤ 1048576 := HFI.out.len; omega) HFI.out.small w' (((HX.out _ h).at_ (rowsI_mem hx)).reads)
   rw [hbr] at HIR
   replace HIR := Lib.hid HIR
   have HBR := Lib.hid hbr
   clear hbk hbr
   obtain ⟨f0, f1, f2⟩ := Bag.cs3 S2.out 0 rfl
   obtain ⟨f3, f4, f5, f6⟩ := HK.out _ S2.out.old
   cases bk with
   | false =>
    go_upto_region 4 with fail
    clear f0 f1 f2 f3 f4 f5 f6
    refine wp_region_held_drew (S := (fun w' => (w'.cell? ⟨w.heap.size, 0, none⟩ = some (.string name) ∧ w'.cell? ⟨w.heap.size, 1, none⟩ = some (.slice (some ad) N c) ∧ w'.cell? ⟨w.heap.size, 2, none⟩ = some (.int .i64 auto)) ∧ (w'.cell? (ad.add (k * 4)) = some (.int .i64 kd) ∧ w'.cell? (⟨(ad.add (k * 4)).block, (ad.add (k * 4)).off + 1, none⟩) = some (.int .i64 n) ∧ w'.cell? (⟨(ad.add (k * 4)).block, (ad.add (k * 4)).off + 2, none⟩) = some (.string t) ∧ w'.cell? (⟨(ad.add (k * 4)).block, (ad.add (k * 4)).off + 3, none⟩) = some (.slice ia l.length ic)))) (by kernel_rfl) ⟨Bag.cs3 (Bag.drew1 S2.out) 0 rfl, HK.out _ (Bag.drew1 S2.out).old⟩ (fun hS => ?_)
    have S3 := Lib.hid (Bag.drew1 S2.out)
    clear S2
    generalize World.drew _ = w1 at hS S3 ⊢
    refine tk 0 rfl ?_
    try simp only [zp0, zp1, zp2, zp3, zp4]
    refine tk 1 rfl ?_
    try simp only [zp0, zp1, zp2, zp3, zp4]
    refine tk 2 rfl ?_
    try simp only [zp0, zp1, zp2, zp3, zp4]
    refine tk 3 rfl ?_
    try simp only [zp0, zp1, zp2, zp3, zp4]
    refine tk 4 rfl ?_
    try simp only [zp0, zp1, zp2, zp3, zp4]
    refine tk 5 rfl ?_
    try simp only [zp0, zp1, zp2, zp3, zp4]
    refine Reg.one_op (i := 6) rfl (by kernel_rfl) (fun K hK => ?_)
    go_simp
    go_at_call 85
    refine (HIK.out _).mono ?_
    rintro e w2 ⟨rfl, hb⟩
    have S4 := Lib.hid (S3.out.keep hb)
    clear S3
    clear hb
    go_wp2_with fail
    refine hK.out _ _ ⟨Bag.cs3 S4.out 0 rfl, HK.out _ S4.out.old⟩ (fun hS => ?_)
    clear hK K
    try simp only [zp0, zp1, zp2, zp3, zp4]
    refine tk 7 rfl ?_
    try simp only [zp0, zp1, zp2, zp3, zp4]
    refine tk 8 rfl ?_
    try simp only [zp0, zp1, zp2, zp3, zp4]
    refine sk 9 rfl ?_
    try simp only [zp0, zp1, zp2, zp3, zp4]
    refine sk 10 rfl ?_
    try simp only [zp0, zp1, zp2, zp3, zp4]
    refine sk 11 rfl ?_
    try simp only [zp0, zp1, zp2, zp3, zp4]
    refine sk 12 rfl ?_
    try simp only [zp0, zp1, zp2, zp3, zp4]
    refine sk 13 rfl ?_
    try simp only [zp0, zp1, zp2, zp3, zp4]
    refine sk 14 rfl ?_
    try simp only [zp0, zp1, zp2, zp3, zp4]
    refine Reg.skip_one (i := 15) rfl (by kernel_rfl) (by rfl) (by assumption) ?_
    try simp only [zp0, zp1, zp2, zp3, zp4]
    refine sk 16 rfl ?_
    try simp only [zp0, zp1, zp2, zp3, zp4]
    refine tk 17 rfl ?_
    try simp only [zp0, zp1, zp2, zp3, zp4]
    refine tk 18 rfl ?_
    try simp only [zp0, zp1, zp2, zp3, zp4]
    refine sk 19 rfl ?_
    try simp only [zp0, zp1, zp2, zp3, zp4]
    refine sk 20 rfl ?_
    try simp only [zp0, zp1, zp2, zp3, zp4]
    refine sk 21 rfl ?_
    try simp only [zp0, zp1, zp2, zp3, zp4]
    refine sk 22 rfl ?_
    try simp only [zp0, zp1, zp2, zp3, zp4]
    refine sk 23 rfl ?_
    try simp only [zp0, zp1, zp2, zp3, zp4]
    refine sk 24 rfl ?_
    try simp only [zp0, zp1, zp2, zp3, zp4]
    refine sk 25 rfl ?_
    try simp only [zp0, zp1, zp2, zp3, zp4]
    refine sk 26 rfl ?_
    try simp only [zp0, zp1, zp2, zp3, zp4]
    refine sk 27 rfl ?_
    try simp only [zp0, zp1, zp2, zp3, zp4]
    refine sk 28 rfl ?_
    try simp only [zp0, zp1, zp2, zp3, zp4]
    refine sk 29 rfl ?_
    try simp only [zp0, zp1, zp2, zp3, zp4]
    refine sk 30 rfl ?_
    try simp only [zp0, zp1, zp2, zp3, zp4]
    refine sk 31 rfl ?_
    try simp only [zp0, zp1, zp2, zp3, zp4]
    refine sk 32 rfl ?_
    try simp only [zp0, zp1, zp2, zp3, zp4]
    refine sk 33 rfl ?_
    try simp only [zp0, zp1, zp2, zp3, zp4]
    refine sk 34 rfl ?_
    try simp only [zp0, zp1, zp2, zp3, zp4]
    refine Reg.skip_one (i := 35) rfl (by kernel_rfl) (by rfl) (by assumption) ?_
    try simp only [zp0, zp1, zp2, zp3, zp4]
    refine sk 36 rfl ?_
    try simp only [zp0, zp1, zp2, zp3, zp4]
    refine sk 37 rfl ?_
    try simp only [zp0, zp1, zp2, zp3, zp4]
    refine tk 38 rfl ?_
    try simp only [zp0, zp1, zp2, zp3, zp4]
    refine wpAnyH_done (by kernel_rfl) ?_ _
    obtain ⟨f0, f1, f2⟩ := Bag.cs3 S4.out 0 rfl
    obtain ⟨f3, f4, f5, f6⟩ := HK.out _ S4.out.old
    have HNO := Lib.hid (show isI (conI xs) = false from isI_no k hci (by rw [okIx_at HC.out]; dsimp only; rw [HBK.out]; rfl))
    go_wp2_with fail
    go_ret
    exact ⟨by unfold isS; rw [HNO.out]; rfl, S4.out.old⟩
   | true =>
    cases br with
    | false =>
     go_upto_region 4 with fail
     clear f0 f1 f2 f3 f4 f5 f6
     refine wp_region_held_drew (S := (fun w' => (w'.cell? ⟨w.heap.size, 0, none⟩ = some (.string name) ∧ w'.cell? ⟨w.heap.size, 1, none⟩ = some (.slice (some ad) N c) ∧ w'.cell? ⟨w.heap.size, 2, none⟩ = some (.int .i64 auto)) ∧ (w'.cell? (ad.add (k * 4)) = some (.int .i64 kd) ∧ w'.cell? (⟨(ad.add (k * 4)).block, (ad.add (k * 4)).off + 1, none⟩) = some (.int .i64 n) ∧ w'.cell? (⟨(ad.add (k * 4)).block, (ad.add (k * 4)).off + 2, none⟩) = some (.string t) ∧ w'.cell? (⟨(ad.add (k * 4)).block, (ad.add (k * 4)).off + 3, none⟩) = some (.slice ia l.length ic)))) (by kernel_rfl) ⟨Bag.cs3 (Bag.drew1 S2.out) 0 rfl, HK.out _ (Bag.drew1 S2.out).old⟩ (fun hS => ?_)
     have S3 := Lib.hid (Bag.drew1 S2.out)
     clear S2
     generalize World.drew _ = w1 at hS S3 ⊢
     refine tk 0 rfl ?_
     try simp only [zp0, zp1, zp2, zp3, zp4]
     refine tk 1 rfl ?_
     try simp only [zp0, zp1, zp2, zp3, zp4]
     refine tk 2 rfl ?_
     try simp only [zp0, zp1, zp2, zp3, zp4]
     refine tk 3 rfl ?_
     try simp only [zp0, zp1, zp2, zp3, zp4]
     refine tk 4 rfl ?_
     try simp only [zp0, zp1, zp2, zp3, zp4]
     refine tk 5 rfl ?_
     try simp only [zp0, zp1, zp2, zp3, zp4]
     refine Reg.one_op (i := 6) rfl (by kernel_rfl) (fun K hK => ?_)
     go_simp
     go_at_call 85
     refine (HIK.out _).mono ?_
     rintro e w2 ⟨rfl, hb⟩
     have S4 := Lib.hid (S3.out.keep hb)
     clear S3
     clear hb
     go_wp2_with fail
     refine hK.out _ _ ⟨Bag.cs3 S4.out 0 rfl, HK.out _ S4.out.old⟩ (fun hS => ?_)
     clear hK K
     try simp only [zp0, zp1, zp2, zp3, zp4]
     refine tk 7 rfl ?_
     try simp only [zp0, zp1, zp2, zp3, zp4]
     refine tk 8 rfl ?_
     try simp only [zp0, zp1, zp2, zp3, zp4]
     refine tk 9 rfl ?_
     try simp only [zp0, zp1, zp2, zp3, zp4]
     refine tk 10 rfl ?_
     try simp only [zp0, zp1, zp2, zp3, zp4]
     refine tk 11 rfl ?_
     try simp only [zp0, zp1, zp2, zp3, zp4]
     refine tk 12 rfl ?_
     try simp only [zp0, zp1, zp2, zp3, zp4]
     refine tk 13 rfl ?_
     try simp only [zp0, zp1, zp2, zp3, zp4]
     refine tk 14 rfl ?_
     try simp only [zp0, zp1, zp2, zp3, zp4]
     refine Reg.one_op (i := 15) rfl (by kernel_rfl) (fun K hK => ?_)
     go_simp
     go_at_call 86
     refine (HIR.out _ S4.out.old).mono ?_
     rintro e w3 ⟨rfl, hb⟩
     have S5 := Lib.hid (S4.out.keep hb)
     clear S4
     clear hb
     go_wp2_with fail
     refine hK.out _ _ ⟨Bag.cs3 S5.out 0 rfl, HK.out _ S5.out.old⟩ (fun hS => ?_)
     clear hK K
     try simp only [zp0, zp1, zp2, zp3, zp4]
     refine tk 16 rfl ?_
     try simp only [zp0, zp1, zp2, zp3, zp4]
     refine tk 17 rfl ?_
     try simp only [zp0, zp1, zp2, zp3, zp4]
     refine tk 18 rfl ?_
     try simp only [zp0, zp1, zp2, zp3, zp4]
     refine sk 19 rfl ?_
     try simp only [zp0, zp1, zp2, zp3, zp4]
     refine sk 20 rfl ?_
     try simp only [zp0, zp1, zp2, zp3, zp4]
     refine sk 21 rfl ?_
     try simp only [zp0, zp1, zp2, zp3, zp4]
     refine sk 22 rfl ?_
     try simp only [zp0, zp1, zp2, zp3, zp4]
     refine sk 23 rfl ?_
     try simp only [zp0, zp1, zp2, zp3, zp4]
     refine sk 24 rfl ?_
     try simp only [zp0, zp1, zp2, zp3, zp4]
     refine sk 25 rfl ?_
     try simp only [zp0, zp1, zp2, zp3, zp4]
     refine sk 26 rfl ?_
     try simp only [zp0, zp1, zp2, zp3, zp4]
     refine sk 27 rfl ?_
     try simp only [zp0, zp1, zp2, zp3, zp4]
     refine sk 28 rfl ?_
     try simp only [zp0, zp1, zp2, zp3, zp4]
     refine sk 29 rfl ?_
     try simp only [zp0, zp1, zp2, zp3, zp4]
     refine sk 30 rfl ?_
     try simp only [zp0, zp1, zp2, zp3, zp4]
     refine sk 31 rfl ?_
     try simp only [zp0, zp1, zp2, zp3, zp4]
     refine sk 32 rfl ?_
     try simp only [zp0, zp1, zp2, zp3, zp4]
     refine sk 33 rfl ?_
     try simp only [zp0, zp1, zp2, zp3, zp4]
     refine sk 34 rfl ?_
     try simp only [zp0, zp1, zp2, zp3, zp4]
     refine Reg.skip_one (i := 35) rfl (by kernel_rfl) (by rfl) (by assumption) ?_
     try simp only [zp0, zp1, zp2, zp3, zp4]
     refine sk 36 rfl ?_
     try simp only [zp0, zp1, zp2, zp3, zp4]
     refine sk 37 rfl ?_
     try simp only [zp0, zp1, zp2, zp3, zp4]
     refine tk 38 rfl ?_
     try simp only [zp0, zp1, zp2, zp3, zp4]
     refine wpAnyH_done (by kernel_rfl) ?_ _
     obtain ⟨f0, f1, f2⟩ := Bag.cs3 S5.out 0 rfl
     obtain ⟨f3, f4, f5, f6⟩ := HK.out _ S5.out.old
     have HNO := Lib.hid (show isI (conI xs) = false from isI_no k hci (by rw [okIx_at HC.out]; dsimp only; rw [HBK.out, HBR.out]; rfl))
     go_wp2_with fail
     go_ret
     exact ⟨by unfold isS; rw [HNO.out]; rfl, S5.out.old⟩
    | true =>
     rcases Nat.eq_zero_or_pos k with hk0 | hk0
     ·
      have hk1 : (0 < k) = False := by simp; omega
      have HZ := Lib.hid hk0
      clear hk0
      go_upto_region 4 with fail
      clear f0 f1 f2 f3 f4 f5 f6
      refine wp_region_held_drew (S := (fun w' => (w'.cell? ⟨w.heap.size, 0, none⟩ = some (.string name) ∧ w'.cell? ⟨w.heap.size, 1, none⟩ = some (.slice (some ad) N c) ∧ w'.cell? ⟨w.heap.size, 2, none⟩ = some (.int .i64 auto)) ∧ (w'.cell? (ad.add (k * 4)) = some (.int .i64 kd) ∧ w'.cell? (⟨(ad.add (k * 4)).block, (ad.add (k * 4)).off + 1, none⟩) = some (.int .i64 n) ∧ w'.cell? (⟨(ad.add (k * 4)).block, (ad.add (k * 4)).off + 2, none⟩) = some (.string t) ∧ w'.cell? (⟨(ad.add (k * 4)).block, (ad.add (k * 4)).off + 3, none⟩) = some (.slice ia l.length ic)))) (by kernel_rfl) ⟨Bag.cs3 (Bag.drew1 S2.out) 0 rfl, HK.out _ (Bag.drew1 S2.out).old⟩ (fun hS => ?_)
      have S3 := Lib.hid (Bag.drew1 S2.out)
      clear S2
      generalize World.drew _ = w1 at hS S3 ⊢
      refine tk 0 rfl ?_
      try simp only [zp0, zp1, zp2, zp3, zp4]
      refine tk 1 rfl ?_
      try simp only [zp0, zp1, zp2, zp3, zp4]
      refine tk 2 rfl ?_
      try simp only [zp0, zp1, zp2, zp3, zp4]
      refine tk 3 rfl ?_
      try simp only [zp0, zp1, zp2, zp3, zp4]
      refine tk 4 rfl ?_
      try simp only [zp0, zp1, zp2, zp3, zp4]
      refine tk 5 rfl ?_
      try simp only [zp0, zp1, zp2, zp3, zp4]
      refine Reg.one_op (i := 6) rfl (by kernel_rfl) (fun K hK => ?_)
      go_simp
      go_at_call 85
      refine (HIK.out _).mono ?_
      rintro e w2 ⟨rfl, hb⟩
      have S4 := Lib.hid (S3.out.keep hb)
      clear S3
      clear hb
      go_wp2_with fail
      refine hK.out _ _ ⟨Bag.cs3 S4.out 0 rfl, HK.out _ S4.out.old⟩ (fun hS => ?_)
      clear hK K
      try simp only [zp0, zp1, zp2, zp3, zp4]
      refine tk 7 rfl ?_
      try simp only [zp0, zp1, zp2, zp3, zp4]
      refine tk 8 rfl ?_
      try simp only [zp0, zp1, zp2, zp3, zp4]
      refine tk 9 rfl ?_
      try simp only [zp0, zp1, zp2, zp3, zp4]
      refine tk 10 rfl ?_
      try simp only [zp0, zp1, zp2, zp3, zp4]
      refine tk 11 rfl ?_
      try simp only [zp0, zp1, zp2, zp3, zp4]
      refine tk 12 rfl ?_
      try simp only [zp0, zp1, zp2, zp3, zp4]
      refine tk 13 rfl ?_
      try simp only [zp0, zp1, zp2, zp3, zp4]
      refine tk 14 rfl ?_
      try simp only [zp0, zp1, zp2, zp3, zp4]
      refine Reg.one_op (i := 15) rfl (by kernel_rfl) (fun K hK => ?_)
      go_simp
      go_at_call 86
      refine (HIR.out _ S4.out.old).mono ?_
      rintro e w3 ⟨rfl, hb⟩
      have S5 := Lib.hid (S4.out.keep hb)
      clear S4
      clear hb
      go_wp2_with fail
      refine hK.out _ _ ⟨Bag.cs3 S5.out 0 rfl, HK.out _ S5.out.old⟩ (fun hS => ?_)
      clear hK K
      try simp only [zp0, zp1, zp2, zp3, zp4]
      refine tk 16 rfl ?_
      try simp only [zp0, zp1, zp2, zp3, zp4]
      refine tk 17 rfl ?_
      try simp only [zp0, zp1, zp2, zp3, zp4]
      refine tk 18 rfl ?_
      try simp only [zp0, zp1, zp2, zp3, zp4]
      refine tk 19 rfl ?_
      try simp only [zp0, zp1, zp2, zp3, zp4]
      refine tk 20 rfl ?_
      try simp only [zp0, zp1, zp2, zp3, zp4]
      refine tk 21 rfl ?_
      try simp only [zp0, zp1, zp2, zp3, zp4]
      refine sk 22 rfl ?_
      try simp only [zp0, zp1, zp2, zp3, zp4]
      refine sk 23 rfl ?_
      try simp only [zp0, zp1, zp2, zp3, zp4]
      refine sk 24 rfl ?_
      try simp only [zp0, zp1, zp2, zp3, zp4]
      refine sk 25 rfl ?_
      try simp only [zp0, zp1, zp2, zp3, zp4]
      refine sk 26 rfl ?_
      try simp only [zp0, zp1, zp2, zp3, zp4]
      refine sk 27 rfl ?_
      try simp only [zp0, zp1, zp2, zp3, zp4]
      refine sk 28 rfl ?_
      try simp only [zp0, zp1, zp2, zp3, zp4]
      refine sk 29 rfl ?_
      try simp only [zp0, zp1, zp2, zp3, zp4]
      refine sk 30 rfl ?_
      try simp only [zp0, zp1, zp2, zp3, zp4]
      refine sk 31 rfl ?_
      try simp only [zp0, zp1, zp2, zp3, zp4]
      refine sk 32 rfl ?_
      try simp only [zp0, zp1, zp2, zp3, zp4]
      refine sk 33 rfl ?_
      try simp only [zp0, zp1, zp2, zp3, zp4]
      refine sk 34 rfl ?_
      try simp only [zp0, zp1, zp2, zp3, zp4]
      refine Reg.skip_one (i := 35) rfl (by kernel_rfl) (by rfl) (by assumption) ?_
      try simp only [zp0, zp1, zp2, zp3, zp4]
      refine sk 36 rfl ?_
      try simp only [zp0, zp1, zp2, zp3, zp4]
      refine tk 37 rfl ?_
      try simp only [zp0, zp1, zp2, zp3, zp4]
      refine tk 38 rfl ?_
      try simp only [zp0, zp1, zp2, zp3, zp4]
      refine wpAnyH_done (by kernel_rfl) ?_ _
      obtain ⟨f0, f1, f2⟩ := Bag.cs3 S5.out 0 rfl
      obtain ⟨f3, f4, f5, f6⟩ := HK.out _ S5.out.old
      go_wp2_with fail
      go_roundw
      case rel => exact ⟨k + 1, by omega, by go_num, And.intro (fun j h => by
       by_cases e : j < k
       ·
        exact HA.out j e
       ·
        obtain rfl : j = k := by omega
        exact by rw [okIx_at HC.out]; dsimp only; rw [HBK.out, HBR.out, HZ.out]; rfl) S5.out⟩
      case measure => simp [intOf]; omega
     ·
      obtain ⟨m, hkm⟩ : ∃ m, k = m + 1 := ⟨k - 1, by omega⟩
      have hki : (k : Int) - 1 = (m : Int) := by omega
      have HKM := Lib.hid hkm
      have hm0 : m < xs.length := by omega
      have hmi : (m : Int) < (N : Int) := by omega
      have hmw : IntKind.i64.wrap (m : Int) = (m : Int) := IntWalk.i64_in _ ⟨by omega, by omega⟩
      clear hkm
      clear f0 f1 f2 f3 f4 f5 f6
      obtain ⟨ad_, x2, e_, hx2⟩ := readsI_some (HR.out _ S2.out.old) m hm0
      clear e_ ad_
      obtain ⟨⟨kd2, n2, t2⟩, ia2, ic2, l2⟩ := x2
      have HK2 := Lib.hid (fun w' (h : Below w.heap.size w w') => readsI_at (HR.out _ h) m _ hx2)
      try dsimp only at HK2
      have HC2 := Lib.hid (show (conI xs)[m]? = some (⟨⟨kd2, n2, t2⟩, l2⟩ : It) from con_of hx2)
      have HFI2 := Lib.hid (fit_at HF.out hx2)
      clear hx2
      obtain ⟨cv, hcv⟩ : ∃ b, cmpK ⟨kd2, n2, t2⟩ ⟨kd, n, t⟩ = b := ⟨_, rfl⟩
      have HCMP := fun w => L4.specCompareKeys_any ⟨kd2, n2, t2⟩ ⟨kd, n, t⟩ (by have : t2.size ≤ 1099511627776 := HFI2.out.text; show t2.size ≤ _; omega) (by have : t.size ≤ 1099511627776 := HFI.out.text; show t.size ≤ _; omega) w
      rw [hcv] at HCMP
      replace HCMP := Lib.hid HCMP
      have HCV := Lib.hid hcv
      clear hcv
      obtain ⟨f0, f1, f2⟩ := Bag.cs3 S2.out 0 rfl
      obtain ⟨f3, f4, f5, f6⟩ := HK.out _ S2.out.old
      obtain ⟨f7, f8, f9, f10⟩ := HK2.out _ S2.out.old
      by_cases hc : cv < 0
      ·
       have hc2 : ¬ 0 ≤ cv := by omega
       go_upto_region 4 with fail
       clear f0 f1 f2 f3 f4 f5 f6 f7 f8 f9 f10
       refine wp_region_held_drew (S := (fun w' => (w'.cell? ⟨w.heap.size, 0, none⟩ = some (.string name) ∧ w'.cell? ⟨w.heap.size, 1, none⟩ = some (.slice (some ad) N c) ∧ w'.cell? ⟨w.heap.size, 2, none⟩ = some (.int .i64 auto)) ∧ (w'.cell? (ad.add (k * 4)) = some (.int .i64 kd) ∧ w'.cell? (⟨(ad.add (k * 4)).block, (ad.add (k * 4)).off + 1, none⟩) = some (.int .i64 n) ∧ w'.cell? (⟨(ad.add (k * 4)).block, (ad.add (k * 4)).off + 2, none⟩) = some (.string t) ∧ w'.cell? (⟨(ad.add (k * 4)).block, (ad.add (k * 4)).off + 3, none⟩) = some (.slice ia l.length ic)) ∧ (w'.cell? (ad.add (m * 4)) = some (.int .i64 kd2) ∧ w'.cell? (⟨(ad.add (m * 4)).block, (ad.add (m * 4)).off + 1, none⟩) = some (.int .i64 n2) ∧ w'.cell? (⟨(ad.add (m * 4)).block, (ad.add (m * 4)).off + 2, none⟩) = some (.string t2) ∧ w'.cell? (⟨(ad.add (m * 4)).block, (ad.add (m * 4)).off + 3, none⟩) = some (.slice ia2 l2.length ic2)))) (by kernel_rfl) ⟨Bag.cs3 (Bag.drew1 S2.out) 0 rfl, HK.out _ (Bag.drew1 S2.out).old, HK2.out _ (Bag.drew1 S2.out).old⟩ (fun hS => ?_)
       have S3 := Lib.hid (Bag.drew1 S2.out)
       clear S2
       generalize World.drew _ = w1 at hS S3 ⊢
       refine tk 0 rfl ?_
       try simp only [zp0, zp1, zp2, zp3, zp4]
       refine tk 1 rfl ?_
       try simp only [zp0, zp1, zp2, zp3, zp4]
       refine tk 2 rfl ?_
       try simp only [zp0, zp1, zp2, zp3, zp4]
       refine tk 3 rfl ?_
       try simp only [zp0, zp1, zp2, zp3, zp4]
       refine tk 4 rfl ?_
       try simp only [zp0, zp1, zp2, zp3, zp4]
       refine tk 5 rfl ?_
       try simp only [zp0, zp1, zp2, zp3, zp4]
       refine Reg.one_op (i := 6) rfl (by kernel_rfl) (fun K hK => ?_)
       go_simp
       go_at_call 85
       refine (HIK.out _).mono ?_
       rintro e w2 ⟨rfl, hb⟩
       have S4 := Lib.hid (S3.out.keep hb)
       clear S3
       clear hb
       go_wp2_with fail
       refine hK.out _ _ ⟨Bag.cs3 S4.out 0 rfl, HK.out _ S4.out.old, HK2.out _ S4.out.old⟩ (fun hS => ?_)
       clear hK K
       try simp only [zp0, zp1, zp2, zp3, zp4]
       refine tk 7 rfl ?_
       try simp only [zp0, zp1, zp2, zp3, zp4]
       refine tk 8 rfl ?_
       try simp only [zp0, zp1, zp2, zp3, zp4]
       refine tk 9 rfl ?_
       try simp only [zp0, zp1, zp2, zp3, zp4]
       refine tk 10 rfl ?_
       try simp only [zp0, zp1, zp2, zp3, zp4]
       refine tk 11 rfl ?_
       try simp only [zp0, zp1, zp2, zp3, zp4]
       refine tk 12 rfl ?_
       try simp only [zp0, zp1, zp2, zp3, zp4]
       refine tk 13 rfl ?_
       try simp only [zp0, zp1, zp2, zp3, zp4]
       refine tk 14 rfl ?_
       try simp only [zp0, zp1, zp2, zp3, zp4]
       refine Reg.one_op (i := 15) rfl (by kernel_rfl) (fun K hK => ?_)
       go_simp
       go_at_call 86
       refine (HIR.out _ S4.out.old).mono ?_
       rintro e w3 ⟨rfl, hb⟩
       have S5 := Lib.hid (S4.out.keep hb)
       clear S4
       clear hb
       go_wp2_with fail
       refine hK.out _ _ ⟨Bag.cs3 S5.out 0 rfl, HK.out _ S5.out.old, HK2.out _ S5.out.old⟩ (fun hS => ?_)
       clear hK K
       try simp only [zp0, zp1, zp2, zp3, zp4]
       refine tk 16 rfl ?_
       try simp only [zp0, zp1, zp2, zp3, zp4]
       refine tk 17 rfl ?_
       try simp only [zp0, zp1, zp2, zp3, zp4]
       refine tk 18 rfl ?_
       try simp only [zp0, zp1, zp2, zp3, zp4]
       refine tk 19 rfl ?_
       try simp only [zp0, zp1, zp2, zp3, zp4]
       refine tk 20 rfl ?_
       try simp only [zp0, zp1, zp2, zp3, zp4]
       refine tk 21 rfl ?_
       try simp only [zp0, zp1, zp2, zp3, zp4]
       refine tk 22 rfl ?_
       try simp only [zp0, zp1, zp2, zp3, zp4]
       refine tk 23 rfl ?_
       try simp only [zp0, zp1, zp2, zp3, zp4]
       refine tk 24 rfl ?_
       try simp only [zp0, zp1, zp2, zp3, zp4]
       refine tk 25 rfl ?_
       try simp only [zp0, zp1, zp2, zp3, zp4]
       refine tk 26 rfl ?_
       try simp only [zp0, zp1, zp2, zp3, zp4]
       refine tk 27 rfl ?_
       try simp only [zp0, zp1, zp2, zp3, zp4]
       refine tk 28 rfl ?_
       try simp only [zp0, zp1, zp2, zp3, zp4]
       refine tk 29 rfl ?_
       try simp only [zp0, zp1, zp2, zp3, zp4]
       refine tk 30 rfl ?_
       try simp only [zp0, zp1, zp2, zp3, zp4]
       refine tk 31 rfl ?_
       try simp only [zp0, zp1, zp2, zp3, zp4]
       refine tk 32 rfl ?_
       try simp only [zp0, zp1, zp2, zp3, zp4]
       refine tk 33 rfl ?_
       try simp only [zp0, zp1, zp2, zp3, zp4]
       refine tk 34 rfl ?_
       try simp only [zp0, zp1, zp2, zp3, zp4]
       refine Reg.one_op (i := 35) rfl (by kernel_rfl) (fun K hK => ?_)
       go_simp
       go_at_call 90
       refine (HCMP.out _).mono ?_
       rintro e w4 ⟨rfl, hb⟩
       have S6 := Lib.hid (S5.out.keep hb)
       clear S5
       clear hb
       go_wp2_with fail
       refine hK.out _ _ ⟨Bag.cs3 S6.out 0 rfl, HK.out _ S6.out.old, HK2.out _ S6.out.old⟩ (fun hS => ?_)
       clear hK K
       try simp only [zp0, zp1, zp2, zp3, zp4]
       refine tk 36 rfl ?_
       try simp only [zp0, zp1, zp2, zp3, zp4]
       refine tk 37 rfl ?_
       try simp only [zp0, zp1, zp2, zp3, zp4]
       refine tk 38 rfl ?_
       try simp only [zp0, zp1, zp2, zp3, zp4]
       refine wpAnyH_done (by kernel_rfl) ?_ _
       obtain ⟨f0, f1, f2⟩ := Bag.cs3 S6.out 0 rfl
       obtain ⟨f3, f4, f5, f6⟩ := HK.out _ S6.out.old
       obtain ⟨f7, f8, f9, f10⟩ := HK2.out _ S6.out.old
       go_wp2_with fail
       go_roundw
       case rel => exact ⟨k + 1, by omega, by go_num, And.intro (fun j h => by
        by_cases e : j < k
        ·
         exact HA.out j e
        ·
         obtain rfl : j = k := by omega
         rw [okIx_at HC.out, HKM.out, behind_at HC2.out]; dsimp only; rw [HBK.out, HBR.out, HCV.out]; simpa using hc) S6.out⟩
       case measure => simp [intOf]; omega
      ·
       have hc2 : 0 ≤ cv := by omega
       go_upto_region 4 with fail
       clear f0 f1 f2 f3 f4 f5 f6 f7 f8 f9 f10
       refine wp_region_held_drew (S := (fun w' => (w'.cell? ⟨w.heap.size, 0, none⟩ = some (.string name) ∧ w'.cell? ⟨w.heap.size, 1, none⟩ = some (.slice (some ad) N c) ∧ w'.cell? ⟨w.heap.size, 2, none⟩ = some (.int .i64 auto)) ∧ (w'.cell? (ad.add (k * 4)) = some (.int .i64 kd) ∧ w'.cell? (⟨(ad.add (k * 4)).block, (ad.add (k * 4)).off + 1, none⟩) = some (.int .i64 n) ∧ w'.cell? (⟨(ad.add (k * 4)).block, (ad.add (k * 4)).off + 2, none⟩) = some (.string t) ∧ w'.cell? (⟨(ad.add (k * 4)).block, (ad.add (k * 4)).off + 3, none⟩) = some (.slice ia l.length ic)) ∧ (w'.cell? (ad.add (m * 4)) = some (.int .i64 kd2) ∧ w'.cell? (⟨(ad.add (m * 4)).block, (ad.add (m * 4)).off + 1, none⟩) = some (.int .i64 n2) ∧ w'.cell? (⟨(ad.add (m * 4)).block, (ad.add (m * 4)).off + 2, none⟩) = some (.string t2) ∧ w'.cell? (⟨(ad.add (m * 4)).block, (ad.add (m * 4)).off + 3, none⟩) = some (.slice ia2 l2.length ic2)))) (by kernel_rfl) ⟨Bag.cs3 (Bag.drew1 S2.out) 0 rfl, HK.out _ (Bag.drew1 S2.out).old, HK2.out _ (Bag.drew1 S2.out).old⟩ (fun hS => ?_)
       have S3 := Lib.hid (Bag.drew1 S2.out)
       clear S2
       generalize World.drew _ = w1 at hS S3 ⊢
       refine tk 0 rfl ?_
       try simp only [zp0, zp1, zp2, zp3, zp4]
       refine tk 1 rfl ?_
       try simp only [zp0, zp1, zp2, zp3, zp4]
       refine tk 2 rfl ?_
       try simp only [zp0, zp1, zp2, zp3, zp4]
       refine tk 3 rfl ?_
       try simp only [zp0, zp1, zp2, zp3, zp4]
       refine tk 4 rfl ?_
       try simp only [zp0, zp1, zp2, zp3, zp4]
       refine tk 5 rfl ?_
       try simp only [zp0, zp1, zp2, zp3, zp4]
       refine Reg.one_op (i := 6) rfl (by kernel_rfl) (fun K hK => ?_)
       go_simp
       go_at_call 85
       refine (HIK.out _).mono ?_
       rintro e w2 ⟨rfl, hb⟩
       have S4 := Lib.hid (S3.out.keep hb)
       clear S3
       clear hb
       go_wp2_with fail
       refine hK.out _ _ ⟨Bag.cs3 S4.out 0 rfl, HK.out _ S4.out.old, HK2.out _ S4.out.old⟩ (fun hS => ?_)
       clear hK K
       try simp only [zp0, zp1, zp2, zp3, zp4]
       refine tk 7 rfl ?_
       try simp only [zp0, zp1, zp2, zp3, zp4]
       refine tk 8 rfl ?_
       try simp only [zp0, zp1, zp2, zp3, zp4]
       refine tk 9 rfl ?_
       try simp only [zp0, zp1, zp2, zp3, zp4]
       refine tk 10 rfl ?_
       try simp only [zp0, zp1, zp2, zp3, zp4]
       refine tk 11 rfl ?_
       try simp only [zp0, zp1, zp2, zp3, zp4]
       refine tk 12 rfl ?_
       try simp only [zp0, zp1, zp2, zp3, zp4]
       refine tk 13 rfl ?_
       try simp only [zp0, zp1, zp2, zp3, zp4]
       refine tk 14 rfl ?_
       try simp only [zp0, zp1, zp2, zp3, zp4]
       refine Reg.one_op (i := 15) rfl (by kernel_rfl) (fun K hK => ?_)
       go_simp
       go_at_call 86
       refine (HIR.out _ S4.out.old).mono ?_
       rintro e w3 ⟨rfl, hb⟩
       have S5 := Lib.hid (S4.out.keep hb)
       clear S4
       clear hb
       go_wp2_with fail
       refine hK.out _ _ ⟨Bag.cs3 S5.out 0 rfl, HK.out _ S5.out.old, HK2.out _ S5.out.old⟩ (fun hS => ?_)
       clear hK K
       try simp only [zp0, zp1, zp2, zp3, zp4]
       refine tk 16 rfl ?_
       try simp only [zp0, zp1, zp2, zp3, zp4]
       refine tk 17 rfl ?_
       try simp only [zp0, zp1, zp2, zp3, zp4]
       refine tk 18 rfl ?_
       try simp only [zp0, zp1, zp2, zp3, zp4]
       refine tk 19 rfl ?_
       try simp only [zp0, zp1, zp2, zp3, zp4]
       refine tk 20 rfl ?_
       try simp only [zp0, zp1, zp2, zp3, zp4]
       refine tk 21 rfl ?_
       try simp only [zp0, zp1, zp2, zp3, zp4]
       refine tk 22 rfl ?_
       try simp only [zp0, zp1, zp2, zp3, zp4]
       refine tk 23 rfl ?_
       try simp only [zp0, zp1, zp2, zp3, zp4]
       refine tk 24 rfl ?_
       try simp only [zp0, zp1, zp2, zp3, zp4]
       refine tk 25 rfl ?_
       try simp only [zp0, zp1, zp2, zp3, zp4]
       refine tk 26 rfl ?_
       try simp only [zp0, zp1, zp2, zp3, zp4]
       refine tk 27 rfl ?_
       try simp only [zp0, zp1, zp2, zp3, zp4]
       refine tk 28 rfl ?_
       try simp only [zp0, zp1, zp2, zp3, zp4]
       refine tk 29 rfl ?_
       try simp only [zp0, zp1, zp2, zp3, zp4]
       refine tk 30 rfl ?_
       try simp only [zp0, zp1, zp2, zp3, zp4]
       refine tk 31 rfl ?_
       try simp only [zp0, zp1, zp2, zp3, zp4]
       refine tk 32 rfl ?_
       try simp only [zp0, zp1, zp2, zp3, zp4]
       refine tk 33 rfl ?_
       try simp only [zp0, zp1, zp2, zp3, zp4]
       refine tk 34 rfl ?_
       try simp only [zp0, zp1, zp2, zp3, zp4]
       refine Reg.one_op (i := 35) rfl (by kernel_rfl) (fun K hK => ?_)
       go_simp
       go_at_call 90
       refine (HCMP.out _).mono ?_
       rintro e w4 ⟨rfl, hb⟩
       have S6 := Lib.hid (S5.out.keep hb)
       clear S5
       clear hb
       go_wp2_with fail
       refine hK.out _ _ ⟨Bag.cs3 S6.out 0 rfl, HK.out _ S6.out.old, HK2.out _ S6.out.old⟩ (fun hS => ?_)
       clear hK K
       try simp only [zp0, zp1, zp2, zp3, zp4]
       refine tk 36 rfl ?_
       try simp only [zp0, zp1, zp2, zp3, zp4]
       refine tk 37 rfl ?_
       try simp only [zp0, zp1, zp2, zp3, zp4]
       refine tk 38 rfl ?_
       try simp only [zp0, zp1, zp2, zp3, zp4]
       refine wpAnyH_done (by kernel_rfl) ?_ _
       obtain ⟨f0, f1, f2⟩ := Bag.cs3 S6.out 0 rfl
       obtain ⟨f3, f4, f5, f6⟩ := HK.out _ S6.out.old
       obtain ⟨f7, f8, f9, f10⟩ := HK2.out _ S6.out.old
       have HNO := Lib.hid (show isI (conI xs) = false from isI_no k hci (by rw [okIx_at HC.out, HKM.out, behind_at HC2.out]; dsimp only; rw [HBK.out, HBR.out, HCV.out]; simpa using hc2))
       go_wp2_with fail
       go_ret
       exact ⟨by unfold isS; rw [HNO.out]; rfl, S6.out.old⟩
  ·
   skip
   obtain rfl : k = N := by omega
   have HI := Lib.hid (isI_all (xs := conI xs) (fun i hi => HA.out i (by rw [conI_length] at hi; have := HN.out; omega)))
   obtain ⟨bn, hbn⟩ : ∃ b, isN name.data.toList = b := ⟨_, rfl⟩
   have HIN := fun w => L5.specIsName_any name HNM.out w
   rw [hbn] at HIN
   replace HIN := Lib.hid HIN
   obtain ⟨ba, hba⟩ : ∃ b, L1.inB auto 0 1000000 = b := ⟨_, rfl⟩
   have HIA := fun w => L1.l1In_any auto 0 1000000 w
   rw [hba] at HIA
   replace HIA := Lib.hid HIA
   have HE := Lib.hid (show isS ⟨name, conI xs, auto⟩ = (bn && (decide (k ≤ 16) && ba)) from by unfold isS; rw [HI.out, hbn, hba, conI_length, ← HN.out]; rfl)
   clear hbn hba
   obtain ⟨f0, f1, f2⟩ := Bag.cs3 S2.out 0 rfl
   cases bn with
   | false =>
    go_wp2_with fail
    go_at_call 109
    refine (HIN.out _).mono ?_
    rintro e w1 ⟨rfl, rfl⟩
    go_wp2_with fail
    go_ret
    exact ⟨by rw [HE.out]; rfl, S2.out.old⟩
   | true =>
    go_wp2_with fail
    go_at_call 109
    refine (HIN.out _).mono ?_
    rintro e w1 ⟨rfl, rfl⟩
    by_cases h16 : (k : Int) ≤ 16
    ·
     have h16' : k ≤ 16 := by omega
     go_wp2_with fail
     go_at_call 91
     refine (HIA.out _).mono ?_
     rintro e w2 ⟨rfl, rfl⟩
     go_wp2_with fail
     go_ret
     exact ⟨by rw [HE.out, decide_eq_true h16']; rfl, S2.out.old⟩
    ·
     have h16' : ¬ k ≤ 16 := by omega
     go_wp2_with fail
     go_ret
     exact ⟨by rw [HE.out, decide_eq_false h16']; rfl, S2.out.old⟩
end Go.Proofs.Ytojcdmgcbgpdmaa.L6

namespace Go.Proofs.Ytojcdmgcbgpdmaa.L5
open L2
open L4 (toU toI toI_toU)

def rdF (l : List Int) (off : Int) : Option (F × Int) :=
 if rbB l off 8 && rdB l (rbE l off 8) then some (⟨⟨(toU (rbL l off 8)).toArray⟩, rdN l (rbE l off 8)⟩, rdE l (rbE l off 8)) else none
def rdFs (l : List Int) : Int → Nat → Option (List F × Int)
 | off, 0 => some ([], off)
 | off, k + 1 => match rdF l off with
  | none => none
  | some (f, e) => match rdFs l e k with
   | none => none
   | some (fs, e2) => some (f :: fs, e2)
def RfMid (l : List Int) (off : Int) (n k : Nat) (acc : List F) (o : Int) : Prop := acc.length = k ∧ rdFs l off n = (rdFs l o (n - k)).map fun p => (acc ++ p.1, p.2)
theorem RfMid.start (l : List Int) (off : Int) (n : Nat) : RfMid l off n 0 [] off := ⟨rfl, by simp⟩
theorem RfMid.none {l : List Int} {off : Int} {n k : Nat} {acc : List F} {o : Int} (h : RfMid l off n k acc o) (hk : k < n) (hr : rdF l o = Option.none) : rdFs l off n = Option.none := by
 rw [h.2, show n - k = (n - (k + 1)) + 1 by omega, rdFs, hr]
 rfl
theorem RfMid.next {l : List Int} {off : Int} {n k : Nat} {acc : List F} {o e : Int} {f : F} (h : RfMid l off n k acc o) (hk : k < n) (hr : rdF l o = some (f, e)) : RfMid l off n (k + 1) (acc ++ [f]) e := by
 refine ⟨by simp [h.1], ?_⟩
 rw [h.2, show n - k = (n - (k + 1)) + 1 by omega, rdFs, hr]
 simp only
 cases rdFs l e (n - (k + 1)) with
 | none => rfl
 | some p => simp
end Go.Proofs.Ytojcdmgcbgpdmaa.L5

namespace Go.Proofs.Ytojcdmgcbgpdmaa.L6
open L4 (K isK cmpK R inR encU)
open L5 (F isR isN cellsF encR eqR Small)
open Go.ChangeShapes Go.WideShapes Go.ChangeAt Go.RowKit Mem Sl Ex L2 Sv Bag

theorem outI_take {xs : List It} {k : Nat} {x : It} {r : R} (h : xs[k]? = some x) : outI (xs.take (k + 1)) r = outI (xs.take k) r ++ (if inR x.k r then [] else [x]) := by
 obtain ⟨hk, rfl⟩ := List.getElem?_eq_some_iff.1 h
 unfold outI
 rw [List.take_succ_eq_append_getElem hk, List.filter_append]
 congr 1
 by_cases h1 : inR xs[k].k r = true
 ·
  simp [h1]
 ·
  simp [h1]
theorem conI_snoc (ys : List LI) (x : LI) : conI (ys ++ [x]) = conI ys ++ [x.con] := List.map_append
end Go.Proofs.Ytojcdmgcbgpdmaa.L6

set_option linter.unusedSimpArgs false
namespace Go.Proofs.Ytojcdmgcbgpdmaa.L6
open L4 (K isK cmpK R inR encU)
open L5 (F isR isN cellsF encR eqR Small)
open Go.ChangeShapes Go.WideShapes Go.ChangeAt Go.RowKit Mem Sl Ex L2 Sv Bag


set_option maxHeartbeats 8000000 in
theorem specDeleteItems_any (y : LS) (r : R) (hf : FitS y.con) (hr1 : r.lo.text.size ≤ 281474976710656) (hr2 : r.hi.text.size ≤ 281474976710656) (w : World) (hr : RowsRd w w.heap.size y.rows) :
  Calls Try.prog 48 #[y.v, r.v] w (GaveSN w (delS y.con r) (delN y.con r)) := by
 obtain ⟨i0, hi1, hi2, hi3, hi4⟩ := itemInfo
 have HI := Lib.hid (And.intro hi1 (And.intro hi2 (And.intro hi3 hi4)))
 clear hi1 hi2 hi3 hi4
 obtain ⟨rl, rh, ⟨lk, ln, lt⟩, ⟨gk, gn, gt⟩⟩ := r
 unfold L4.R.v
 dsimp only at *
 have HIS := Lib.hid (fun w' (h : Below w.heap.size w w') => specIsStore_any y hf w' ((hr.below h).more h.size))
 have HCP := Lib.hid (fun w' (h : Below w.heap.size w w') => l6Copy_any y hf w' ((hr.below h).more h.size))
 obtain ⟨name, a, c, xs, auto⟩ := y
 have HR := Lib.hid (fun w' (h : Below w.heap.size w w') => LS.outer (hr.below h))
 have HX := Lib.hid (fun w' (h : Below w.heap.size w w') => (LS.inner (hr.below h)).more h.size)
 have HF := Lib.hid hf.items
 have HNM := Lib.hid hf.name
 have hl := hf.len
 simp only [LS.con, conI_length] at hl
 dsimp only [LS.con] at HR HX HF HNM
 try unfold LS.v LS.cells LS.con
 try dsimp only
 obtain ⟨N, hN⟩ : ∃ n, n = xs.length := ⟨_, rfl⟩
 rw [← hN] at hl ⊢
 have hl' : (N : Int) ≤ 1048576 := by omega
 have HN := Lib.hid hN
 clear hN hr hf
 dsimp only [LS.v, LS.cells, LS.con] at HIS HCP
 rw [← HN.out] at HIS HCP
 obtain ⟨bs, hbs⟩ : ∃ b, isS ⟨name, conI xs, auto⟩ = b := ⟨_, rfl⟩
 rw [hbs] at HIS
 have HBS := Lib.hid hbs
 have HD := Lib.hid (show (delS ⟨name, conI xs, auto⟩ ⟨rl, rh, ⟨lk, ln, lt⟩, ⟨gk, gn, gt⟩⟩ = if bs then ⟨name, outI (conI xs) ⟨rl, rh, ⟨lk, ln, lt⟩, ⟨gk, gn, gt⟩⟩, auto⟩ else ⟨name, conI xs, auto⟩) ∧ delN ⟨name, conI xs, auto⟩ ⟨rl, rh, ⟨lk, ln, lt⟩, ⟨gk, gn, gt⟩⟩ = if bs then ((N : Int) - (outI (conI xs) ⟨rl, rh, ⟨lk, ln, lt⟩, ⟨gk, gn, gt⟩⟩).length) else 0 from by unfold delS delN; rw [hbs, HN.out]; simp)
 clear hbs
 have S1 := Lib.hid (show Sl.Sep w _ [_, _, _] from L4.push_box (L4.push_box (L4.push_box (Sl.Sep.start w) 26 #[.string name, .slice a N c, .int .i64 auto] (w.heap.size) (by simp)) 45 #[.bool rl, .bool rh, .int .i64 lk, .int .i64 ln, .string lt, .int .i64 gk, .int .i64 gn, .string gt] (w.heap.size + 1) (by simp)) 26 #[.string ⟨#[]⟩, .slice none 0 0, .int .i64 0] (w.heap.size + 1 + 1) (by simp))
 obtain ⟨wa, hwa⟩ : ∃ u, u = (((w.alloc (.cells #[.string name, .slice a N c, .int .i64 auto] 26)).alloc (.cells #[.bool rl, .bool rh, .int .i64 lk, .int .i64 ln, .string lt, .int .i64 gk, .int .i64 gn, .string gt] 45)).alloc (.cells #[.string ⟨#[]⟩, .slice none 0 0, .int .i64 0] 26)) := ⟨_, rfl⟩
 rw [← hwa] at S1
 go_enter Try.func48, Try.ntmps48
 go_upto_region 1 with fail
 rw [← hwa]
 clear hwa
 have f0 : World.cell? _ ⟨w.heap.size, 0, none⟩ = some (.string name) := Bag.cell_at S1.out 0 rfl 0 rfl
 have f1 : World.cell? _ ⟨w.heap.size, 1, none⟩ = some (.slice a N c) := Bag.cell_at S1.out 0 rfl 1 rfl
 have f2 : World.cell? _ ⟨w.heap.size, 2, none⟩ = some (.int .i64 auto) := Bag.cell_at S1.out 0 rfl 2 rfl
 have f3 : World.cell? _ ⟨w.heap.size + 1, 0, none⟩ = some (.bool rl) := Bag.cell_at S1.out 1 rfl 0 rfl
 have f4 : World.cell? _ ⟨w.heap.size + 1, 1, none⟩ = some (.bool rh) := Bag.cell_at S1.out 1 rfl 1 rfl
 have f5 : World.cell? _ ⟨w.heap.size + 1, 2, none⟩ = some (.int .i64 lk) := Bag.cell_at S1.out 1 rfl 2 rfl
 have f6 : World.cell? _ ⟨w.heap.size + 1, 3, none⟩ = some (.int .i64 ln) := Bag.cell_at S1.out 1 rfl 3 rfl
 have f7 : World.cell? _ ⟨w.heap.size + 1, 4, none⟩ = some (.string lt) := Bag.cell_at S1.out 1 rfl 4 rfl
 have f8 : World.cell? _ ⟨w.heap.size + 1, 5, none⟩ = some (.int .i64 gk) := Bag.cell_at S1.out 1 rfl 5 rfl
 have f9 : World.cell? _ ⟨w.heap.size + 1, 6, none⟩ = some (.int .i64 gn) := Bag.cell_at S1.out 1 rfl 6 rfl
 have f10 : World.cell? _ ⟨w.heap.size + 1, 7, none⟩ = some (.string gt) := Bag.cell_at S1.out 1 rfl 7 rfl
 have f11 : World.cell? _ ⟨w.heap.size + 1 + 1, 0, none⟩ = some (.string ⟨#[]⟩) := Bag.cell_at S1.out 2 rfl 0 rfl
 have f12 : World.cell? _ ⟨w.heap.size + 1 + 1, 1, none⟩ = some (.slice none 0 0) := Bag.cell_at S1.out 2 rfl 1 rfl
 have f13 : World.cell? _ ⟨w.heap.size + 1 + 1, 2, none⟩ = some (.int .i64 0) := Bag.cell_at S1.out 2 rfl 2 rfl
 go_wp2_with fail
 go_at_call 29
 refine (HIS.out _ S1.out.old).mono ?_
 rintro e w1 ⟨rfl, hb⟩
 clear f0 f1 f2 f3 f4 f5 f6 f7 f8 f9 f10 f11 f12 f13
 have S2 := Lib.hid (show Sl.Sep w _ [_, _, _] from S1.out.keep hb)
 clear S1
 clear hb
 have f0 : World.cell? _ ⟨w.heap.size, 0, none⟩ = some (.string name) := Bag.cell_at S2.out 0 rfl 0 rfl
 have f1 : World.cell? _ ⟨w.heap.size, 1, none⟩ = some (.slice a N c) := Bag.cell_at S2.out 0 rfl 1 rfl
 have f2 : World.cell? _ ⟨w.heap.size, 2, none⟩ = some (.int .i64 auto) := Bag.cell_at S2.out 0 rfl 2 rfl
 have f3 : World.cell? _ ⟨w.heap.size + 1, 0, none⟩ = some (.bool rl) := Bag.cell_at S2.out 1 rfl 0 rfl
 have f4 : World.cell? _ ⟨w.heap.size + 1, 1, none⟩ = some (.bool rh) := Bag.cell_at S2.out 1 rfl 1 rfl
 have f5 : World.cell? _ ⟨w.heap.size + 1, 2, none⟩ = some (.int .i64 lk) := Bag.cell_at S2.out 1 rfl 2 rfl
 have f6 : World.cell? _ ⟨w.heap.size + 1, 3, none⟩ = some (.int .i64 ln) := Bag.cell_at S2.out 1 rfl 3 rfl
 have f7 : World.cell? _ ⟨w.heap.size + 1, 4, none⟩ = some (.string lt) := Bag.cell_at S2.out 1 rfl 4 rfl
 have f8 : World.cell? _ ⟨w.heap.size + 1, 5, none⟩ = some (.int .i64 gk) := Bag.cell_at S2.out 1 rfl 5 rfl
 have f9 : World.cell? _ ⟨w.heap.size + 1, 6, none⟩ = some (.int .i64 gn) := Bag.cell_at S2.out 1 rfl 6 rfl
 have f10 : World.cell? _ ⟨w.heap.size + 1, 7, none⟩ = some (.string gt) := Bag.cell_at S2.out 1 rfl 7 rfl
 have f11 : World.cell? _ ⟨w.heap.size + 1 + 1, 0, none⟩ = some (.string ⟨#[]⟩) := Bag.cell_at S2.out 2 rfl 0 rfl
 have f12 : World.cell? _ ⟨w.heap.size + 1 + 1, 1, none⟩ = some (.slice none 0 0) := Bag.cell_at S2.out 2 rfl 1 rfl
 have f13 : World.cell? _ ⟨w.heap.size + 1 + 1, 2, none⟩ = some (.int .i64 0) := Bag.cell_at S2.out 2 rfl 2 rfl
 cases bs with
 | false =>
  go_wp2_with fail
  go_at_call 87
  refine (HCP.out _ S2.out.old).mono ?_
  rintro e w2 ⟨⟨nm3, a3, c3, ys, au3⟩, rfl, hcon, ho, hb⟩
  clear f0 f1 f2 f3 f4 f5 f6 f7 f8 f9 f10 f11 f12 f13
  have S3 := Lib.hid (show Sl.Sep w _ [_, _, _, Bag.bag ((LS.mk nm3 a3 c3 ys au3).rows)] from Bag.push_bag S2.out hb ho)
  clear S2
  clear hb ho
  have HCON := Lib.hid hcon
  clear hcon
  simp only [LS.v, LS.cells]
  have f0 : World.cell? _ ⟨w.heap.size + 1 + 1, 0, none⟩ = some (.string ⟨#[]⟩) := Bag.cell_at S3.out 2 rfl 0 rfl
  have f1 : World.cell? _ ⟨w.heap.size + 1 + 1, 1, none⟩ = some (.slice none 0 0) := Bag.cell_at S3.out 2 rfl 1 rfl
  have f2 : World.cell? _ ⟨w.heap.size + 1 + 1, 2, none⟩ = some (.int .i64 0) := Bag.cell_at S3.out 2 rfl 2 rfl
  have z0 := Bag.free_at S3.out 2 rfl 0
  have z1 := Bag.free_at S3.out 2 rfl 1
  have z2 := Bag.free_at S3.out 2 rfl 2
  go_wp2_with fail
  clear f0 f1 f2 z0 z1 z2
  have S4 := Lib.hid (show Sl.Sep w _ [_, _, L4.boxR (w.heap.size + 1 + 1) 26 #[.string nm3, .slice a3 ys.length c3, .int .i64 au3], _] from L5.put_box5 (L5.put_box5 (L5.put_box5 (S3.out) 2 rfl 0 (.string nm3)) 2 rfl 1 (.slice a3 ys.length c3)) 2 rfl 2 (.int .i64 au3))
  clear S3
  have f0 : World.cell? _ ⟨w.heap.size + 1 + 1, 0, none⟩ = some (.string nm3) := Bag.cell_at S4.out 2 rfl 0 rfl
  have f1 : World.cell? _ ⟨w.heap.size + 1 + 1, 1, none⟩ = some (.slice a3 ys.length c3) := Bag.cell_at S4.out 2 rfl 1 rfl
  have f2 : World.cell? _ ⟨w.heap.size + 1 + 1, 2, none⟩ = some (.int .i64 au3) := Bag.cell_at S4.out 2 rfl 2 rfl
  refine bodyPost_ret (v := .tuple #[.agg #[.string nm3, .slice a3 ys.length c3, .int .i64 au3], .int .i64 0]) (by simp [results, Try.results48, go_sem, *]) rfl ?_
  exact ⟨⟨nm3, a3, c3, ys, au3⟩, by rw [HD.out.2]; rfl, by rw [HD.out.1]; exact HCON.out, Bag.bag_from S4.out 3 rfl, S4.out.old⟩
 | true =>
  go_upto_region 4 with fail
  clear f0 f1 f2 f3 f4 f5 f6 f7 f8 f9 f10 f11 f12 f13
  have S3 := Lib.hid (show Sl.Sep w _ [_, _, _, _] from L4.push_box S2.out 26 #[.string name, .slice none 0 0, .int .i64 auto] w1.heap.size rfl)
  clear S2
  obtain ⟨g1, hg⟩ : ∃ g', g' = w1.heap.size := ⟨_, rfl⟩
  rw [← hg] at S3 ⊢
  clear hg
  generalize w1.alloc (.cells #[.string name, .slice none 0 0, .int .i64 auto] 26) = w2 at S3 ⊢
  have S4 := Lib.hid (show Sl.Sep w _ [_, _, _, L4.boxR g1 26 #[.string name, .slice none 0 0, .int .i64 auto], Sv.ownV 40 4 none 0 0 (cellsI [])] from Sv.push_own S3.out (Below.refl _ _) (OwnV.nil _ _ _ _))
  clear S3
  have S5 := Lib.hid (show Sl.Sep w _ [_, _, _, _, _, Bag.bag (rowsI [])] from Bag.push_bag S4.out (Below.refl _ _) (Bag.BagOwn.nil _ _))
  clear S4
  go_wp2_with fail
  go_loopw [7] (fun i wr => ∃ (k m : Nat) (A : Option Addr) (C : Nat) (ys : List LI), k ≤ N ∧ i = .int .i64 k ∧ m ≤ k ∧ Hid ((m = ys.length ∧ conI ys = outI ((conI xs).take k) ⟨rl, rh, ⟨lk, ln, lt⟩, ⟨gk, gn, gt⟩⟩) ∧ Sl.Sep w wr [L4.boxR w.heap.size 26 #[.string name, .slice a N c, .int .i64 auto], L4.boxR (w.heap.size + 1) 45 #[.bool rl, .bool rh, .int .i64 lk, .int .i64 ln, .string lt, .int .i64 gk, .int .i64 gn, .string gt], L4.boxR (w.heap.size + 1 + 1) 26 #[.string ⟨#[]⟩, .slice none 0 0, .int .i64 0], L4.boxR g1 26 #[.string name, .slice A m C, .int .i64 auto], Sv.ownV 40 4 A C m (cellsI ys), Bag.bag (rowsI ys)])) (fun i _ => N - (intOf i).toNat)
  case atStart => exact ⟨0, 0, none, 0, [], Nat.zero_le _, rfl, Nat.le_refl _, And.intro ⟨rfl, rfl⟩ S5.out⟩
  case round =>
   obtain ⟨k, m, A, C, ys, hk, rfl, hmk, hrel⟩ := hrel
   have HC := Lib.hid hrel.out.1
   have S6 := Lib.hid hrel.out.2
   clear hrel S5
   by_cases hlt : (k : Int) < (N : Int)
   ·
    skip
    have hkl : k < xs.length := by have := HN.out; omega
    obtain ⟨ad, x, rfl, hx⟩ := readsI_some (HR.out _ S6.out.old) k hkl
    obtain ⟨⟨kd, n, t⟩, ia, ic, l⟩ := x
    have HK := Lib.hid (fun w' (h : Below w.heap.size w w') => readsI_at (HR.out _ h) k _ hx)
    try dsimp only at HK
    have HFI := Lib.hid (fit_at HF.out hx)
    try dsimp only [LI.con] at HFI
    have HCI := Lib.hid (fun w' (h : Below w.heap.size w w') => l6Item_any kd n t ia ic l HFI.out.len w' (((HX.out _ h).at_ (rowsI_mem hx)).reads))
    try dsimp only at HCI
    obtain ⟨b, hb⟩ : ∃ b, inR ⟨kd, n, t⟩ ⟨rl, rh, ⟨lk, ln, lt⟩, ⟨gk, gn, gt⟩⟩ = b := ⟨_, rfl⟩
    have HIN := fun w => L4.specInRangeOf_any ⟨kd, n, t⟩ ⟨rl, rh, ⟨lk, ln, lt⟩, ⟨gk, gn, gt⟩⟩ (by have : t.size ≤ 1099511627776 := HFI.out.text; show t.size ≤ _; omega) hr1 hr2 w
    rw [hb] at HIN
    replace HIN := Lib.hid HIN
    have HB := Lib.hid hb
    clear hb
    have HT := Lib.hid (outI_take (r := ⟨rl, rh, ⟨lk, ln, lt⟩, ⟨gk, gn, gt⟩⟩) (show (conI xs)[k]? = some (⟨⟨kd, n, t⟩, l⟩ : It) from con_of hx))
    clear hx
    dsimp only at HT
    have f0 : World.cell? _ ⟨w.heap.size, 0, none⟩ = some (.string name) := Bag.cell_at S6.out 0 rfl 0 rfl
    have f1 : World.cell? _ ⟨w.heap.size, 1, none⟩ = some (.slice (some ad) N c) := Bag.cell_at S6.out 0 rfl 1 rfl
    have f2 : World.cell? _ ⟨w.heap.size, 2, none⟩ = some (.int .i64 auto) := Bag.cell_at S6.out 0 rfl 2 rfl
    have f3 : World.cell? _ ⟨w.heap.size + 1, 0, none⟩ = some (.bool rl) := Bag.cell_at S6.out 1 rfl 0 rfl
    have f4 : World.cell? _ ⟨w.heap.size + 1, 1, none⟩ = some (.bool rh) := Bag.cell_at S6.out 1 rfl 1 rfl
    have f5 : World.cell? _ ⟨w.heap.size + 1, 2, none⟩ = some (.int .i64 lk) := Bag.cell_at S6.out 1 rfl 2 rfl
    have f6 : World.cell? _ ⟨w.heap.size + 1, 3, none⟩ = some (.int .i64 ln) := Bag.cell_at S6.out 1 rfl 3 rfl
    have f7 : World.cell? _ ⟨w.heap.size + 1, 4, none⟩ = some (.string lt) := Bag.cell_at S6.out 1 rfl 4 rfl
    have f8 : World.cell? _ ⟨w.heap.size + 1, 5, none⟩ = some (.int .i64 gk) := Bag.cell_at S6.out 1 rfl 5 rfl
    have f9 : World.cell? _ ⟨w.heap.size + 1, 6, none⟩ = some (.int .i64 gn) := Bag.cell_at S6.out 1 rfl 6 rfl
    have f10 : World.cell? _ ⟨w.heap.size + 1, 7, none⟩ = some (.string gt) := Bag.cell_at S6.out 1 rfl 7 rfl
    have f11 : World.cell? _ ⟨w.heap.size + 1 + 1, 0, none⟩ = some (.string ⟨#[]⟩) := Bag.cell_at S6.out 2 rfl 0 rfl
    have f12 : World.cell? _ ⟨w.heap.size + 1 + 1, 1, none⟩ = some (.slice none 0 0) := Bag.cell_at S6.out 2 rfl 1 rfl
    have f13 : World.cell? _ ⟨w.heap.size + 1 + 1, 2, none⟩ = some (.int .i64 0) := Bag.cell_at S6.out 2 rfl 2 rfl
    have f14 : World.cell? _ ⟨g1, 0, none⟩ = some (.string name) := Bag.cell_at S6.out 3 rfl 0 rfl
    have f15 : World.cell? _ ⟨g1, 1, none⟩ = some (.slice A m C) := Bag.cell_at S6.out 3 rfl 1 rfl
    have f16 : World.cell? _ ⟨g1, 2, none⟩ = some (.int .i64 auto) := Bag.cell_at S6.out 3 rfl 2 rfl
    have f17 : World.cell? _ (ad.add (k * 4)) = some (.int .i64 kd) := (HK.out _ S6.out.old).1
    have f18 : World.cell? _ (⟨(ad.add (k * 4)).block, (ad.add (k * 4)).off + 1, none⟩) = some (.int .i64 n) := (HK.out _ S6.out.old).2.1
    have f19 : World.cell? _ (⟨(ad.add (k * 4)).block, (ad.add (k * 4)).off + 2, none⟩) = some (.string t) := (HK.out _ S6.out.old).2.2.1
    have f20 : World.cell? _ (⟨(ad.add (k * 4)).block, (ad.add (k * 4)).off + 3, none⟩) = some (.slice ia l.length ic) := (HK.out _ S6.out.old).2.2.2
    cases b with
    | true =>
     go_upto_region 7 with fail
     clear f0 f1 f2 f3 f4 f5 f6 f7 f8 f9 f10 f11 f12 f13 f14 f15 f16 f17 f18 f19 f20
     refine wp_region_held_drew (S := (fun w' => w'.cell? ⟨w.heap.size, 0, none⟩ = some (.string name) ∧ w'.cell? ⟨w.heap.size, 1, none⟩ = some (.slice (some ad) N c) ∧ w'.cell? ⟨w.heap.size, 2, none⟩ = some (.int .i64 auto) ∧ w'.cell? ⟨w.heap.size + 1, 0, none⟩ = some (.bool rl) ∧ w'.cell? ⟨w.heap.size + 1, 1, none⟩ = some (.bool rh) ∧ w'.cell? ⟨w.heap.size + 1, 2, none⟩ = some (.int .i64 lk) ∧ w'.cell? ⟨w.heap.size + 1, 3, none⟩ = some (.int .i64 ln) ∧ w'.cell? ⟨w.heap.size + 1, 4, none⟩ = some (.string lt) ∧ w'.cell? ⟨w.heap.size + 1, 5, none⟩ = some (.int .i64 gk) ∧ w'.cell? ⟨w.heap.size + 1, 6, none⟩ = some (.int .i64 gn) ∧ w'.cell? ⟨w.heap.size + 1, 7, none⟩ = some (.string gt) ∧ w'.cell? ⟨w.heap.size + 1 + 1, 0, none⟩ = some (.string ⟨#[]⟩) ∧ w'.cell? ⟨w.heap.size + 1 + 1, 1, none⟩ = some (.slice none 0 0) ∧ w'.cell? ⟨w.heap.size + 1 + 1, 2, none⟩ = some (.int .i64 0) ∧ w'.cell? ⟨g1, 0, none⟩ = some (.string name) ∧ w'.cell? ⟨g1, 1, none⟩ = some (.slice A m C) ∧ w'.cell? ⟨g1, 2, none⟩ = some (.int .i64 auto) ∧ w'.cell? (ad.add (k * 4)) = some (.int .i64 kd) ∧ w'.cell? (⟨(ad.add (k * 4)).block, (ad.add (k * 4)).off + 1, none⟩) = some (.int .i64 n) ∧ w'.cell? (⟨(ad.add (k * 4)).block, (ad.add (k * 4)).off + 2, none⟩) = some (.string t) ∧ w'.cell? (⟨(ad.add (k * 4)).block, (ad.add (k * 4)).off + 3, none⟩) = some (.slice ia l.length ic))) (by kernel_rfl) ⟨Bag.cell_at S6.out 0 rfl 0 rfl, Bag.cell_at S6.out 0 rfl 1 rfl, Bag.cell_at S6.out 0 rfl 2 rfl, Bag.cell_at S6.out 1 rfl 0 rfl, Bag.cell_at S6.out 1 rfl 1 rfl, Bag.cell_at S6.out 1 rfl 2 rfl, Bag.cell_at S6.out 1 rfl 3 rfl, Bag.cell_at S6.out 1 rfl 4 rfl, Bag.cell_at S6.out 1 rfl 5 rfl, Bag.cell_at S6.out 1 rfl 6 rfl, Bag.cell_at S6.out 1 rfl 7 rfl, Bag.cell_at S6.out 2 rfl 0 rfl, Bag.cell_at S6.out 2 rfl 1 rfl, Bag.cell_at S6.out 2 rfl 2 rfl, Bag.cell_at S6.out 3 rfl 0 rfl, Bag.cell_at S6.out 3 rfl 1 rfl, Bag.cell_at S6.out 3 rfl 2 rfl, (HK.out _ S6.out.old).1, (HK.out _ S6.out.old).2.1, (HK.out _ S6.out.old).2.2.1, (HK.out _ S6.out.old).2.2.2⟩ (fun hS => ?_)
     have S7 := Lib.hid (Bag.drew1 S6.out)
     clear S6
     generalize World.drew _ = w3 at hS S7 ⊢
     refine tk 0 rfl ?_
     try simp only [zp0, zp1, zp2, zp3, zp4]
     refine tk 1 rfl ?_
     try simp only [zp0, zp1, zp2, zp3, zp4]
     refine tk 2 rfl ?_
     try simp only [zp0, zp1, zp2, zp3, zp4]
     refine tk 3 rfl ?_
     try simp only [zp0, zp1, zp2, zp3, zp4]
     refine tk 4 rfl ?_
     try simp only [zp0, zp1, zp2, zp3, zp4]
     refine tk 5 rfl ?_
     try simp only [zp0, zp1, zp2, zp3, zp4]
     refine tk 6 rfl ?_
     try simp only [zp0, zp1, zp2, zp3, zp4]
     refine Reg.one_op (i := 7) rfl (by kernel_rfl) (fun K hK => ?_)
     go_simp
     go_at_call 30
     refine (HIN.out _).mono ?_
     rintro e w4 ⟨rfl, hb⟩
     have S8 := Lib.hid (show Sl.Sep w _ [_, _, _, _, _, _] from S7.out.keep hb)
     clear S7
     clear hb
     go_wp2_with fail
     refine hK.out _ _ ⟨Bag.cell_at S8.out 0 rfl 0 rfl, Bag.cell_at S8.out 0 rfl 1 rfl, Bag.cell_at S8.out 0 rfl 2 rfl, Bag.cell_at S8.out 1 rfl 0 rfl, Bag.cell_at S8.out 1 rfl 1 rfl, Bag.cell_at S8.out 1 rfl 2 rfl, Bag.cell_at S8.out 1 rfl 3 rfl, Bag.cell_at S8.out 1 rfl 4 rfl, Bag.cell_at S8.out 1 rfl 5 rfl, Bag.cell_at S8.out 1 rfl 6 rfl, Bag.cell_at S8.out 1 rfl 7 rfl, Bag.cell_at S8.out 2 rfl 0 rfl, Bag.cell_at S8.out 2 rfl 1 rfl, Bag.cell_at S8.out 2 rfl 2 rfl, Bag.cell_at S8.out 3 rfl 0 rfl, Bag.cell_at S8.out 3 rfl 1 rfl, Bag.cell_at S8.out 3 rfl 2 rfl, (HK.out _ S8.out.old).1, (HK.out _ S8.out.old).2.1, (HK.out _ S8.out.old).2.2.1, (HK.out _ S8.out.old).2.2.2⟩ (fun hS => ?_)
     clear hK K
     try simp only [zp0, zp1, zp2, zp3, zp4]
     refine tk 8 rfl ?_
     try simp only [zp0, zp1, zp2, zp3, zp4]
     refine wpAnyH_done (by kernel_rfl) ?_ _
     have f0 : World.cell? _ ⟨w.heap.size, 0, none⟩ = some (.string name) := Bag.cell_at S8.out 0 rfl 0 rfl
     have f1 : World.cell? _ ⟨w.heap.size, 1, none⟩ = some (.slice (some ad) N c) := Bag.cell_at S8.out 0 rfl 1 rfl
     have f2 : World.cell? _ ⟨w.heap.size, 2, none⟩ = some (.int .i64 auto) := Bag.cell_at S8.out 0 rfl 2 rfl
     have f3 : World.cell? _ ⟨w.heap.size + 1, 0, none⟩ = some (.bool rl) := Bag.cell_at S8.out 1 rfl 0 rfl
     have f4 : World.cell? _ ⟨w.heap.size + 1, 1, none⟩ = some (.bool rh) := Bag.cell_at S8.out 1 rfl 1 rfl
     have f5 : World.cell? _ ⟨w.heap.size + 1, 2, none⟩ = some (.int .i64 lk) := Bag.cell_at S8.out 1 rfl 2 rfl
     have f6 : World.cell? _ ⟨w.heap.size + 1, 3, none⟩ = some (.int .i64 ln) := Bag.cell_at S8.out 1 rfl 3 rfl
     have f7 : World.cell? _ ⟨w.heap.size + 1, 4, none⟩ = some (.string lt) := Bag.cell_at S8.out 1 rfl 4 rfl
     have f8 : World.cell? _ ⟨w.heap.size + 1, 5, none⟩ = some (.int .i64 gk) := Bag.cell_at S8.out 1 rfl 5 rfl
     have f9 : World.cell? _ ⟨w.heap.size + 1, 6, none⟩ = some (.int .i64 gn) := Bag.cell_at S8.out 1 rfl 6 rfl
     have f10 : World.cell? _ ⟨w.heap.size + 1, 7, none⟩ = some (.string gt) := Bag.cell_at S8.out 1 rfl 7 rfl
     have f11 : World.cell? _ ⟨w.heap.size + 1 + 1, 0, none⟩ = some (.string ⟨#[]⟩) := Bag.cell_at S8.out 2 rfl 0 rfl
     have f12 : World.cell? _ ⟨w.heap.size + 1 + 1, 1, none⟩ = some (.slice none 0 0) := Bag.cell_at S8.out 2 rfl 1 rfl
     have f13 : World.cell? _ ⟨w.heap.size + 1 + 1, 2, none⟩ = some (.int .i64 0) := Bag.cell_at S8.out 2 rfl 2 rfl
     have f14 : World.cell? _ ⟨g1, 0, none⟩ = some (.string name) := Bag.cell_at S8.out 3 rfl 0 rfl
     have f15 : World.cell? _ ⟨g1, 1, none⟩ = some (.slice A m C) := Bag.cell_at S8.out 3 rfl 1 rfl
     have f16 : World.cell? _ ⟨g1, 2, none⟩ = some (.int .i64 auto) := Bag.cell_at S8.out 3 rfl 2 rfl
     have f17 : World.cell? _ (ad.add (k * 4)) = some (.int .i64 kd) := (HK.out _ S8.out.old).1
     have f18 : World.cell? _ (⟨(ad.add (k * 4)).block, (ad.add (k * 4)).off + 1, none⟩) = some (.int .i64 n) := (HK.out _ S8.out.old).2.1
     have f19 : World.cell? _ (⟨(ad.add (k * 4)).block, (ad.add (k * 4)).off + 2, none⟩) = some (.string t) := (HK.out _ S8.out.old).2.2.1
     have f20 : World.cell? _ (⟨(ad.add (k * 4)).block, (ad.add (k * 4)).off + 3, none⟩) = some (.slice ia l.length ic) := (HK.out _ S8.out.old).2.2.2
     go_wp2_with fail
     go_roundw
     case rel => exact ⟨k + 1, m, A, C, ys, by omega, by go_num, by omega, And.intro ⟨HC.out.1, by rw [HT.out, HB.out, HC.out.2]; simp⟩ S8.out⟩
     case measure => simp [intOf]; omega
    | false =>
     go_upto_region 7 with fail
     clear f0 f1 f2 f3 f4 f5 f6 f7 f8 f9 f10 f11 f12 f13 f14 f15 f16 f17 f18 f19 f20
     refine wp_region_held_drew (S := (fun w' => w'.cell? ⟨w.heap.size, 0, none⟩ = some (.string name) ∧ w'.cell? ⟨w.heap.size, 1, none⟩ = some (.slice (some ad) N c) ∧ w'.cell? ⟨w.heap.size, 2, none⟩ = some (.int .i64 auto) ∧ w'.cell? ⟨w.heap.size + 1, 0, none⟩ = some (.bool rl) ∧ w'.cell? ⟨w.heap.size + 1, 1, none⟩ = some (.bool rh) ∧ w'.cell? ⟨w.heap.size + 1, 2, none⟩ = some (.int .i64 lk) ∧ w'.cell? ⟨w.heap.size + 1, 3, none⟩ = some (.int .i64 ln) ∧ w'.cell? ⟨w.heap.size + 1, 4, none⟩ = some (.string lt) ∧ w'.cell? ⟨w.heap.size + 1, 5, none⟩ = some (.int .i64 gk) ∧ w'.cell? ⟨w.heap.size + 1, 6, none⟩ = some (.int .i64 gn) ∧ w'.cell? ⟨w.heap.size + 1, 7, none⟩ = some (.string gt) ∧ w'.cell? ⟨w.heap.size + 1 + 1, 0, none⟩ = some (.string ⟨#[]⟩) ∧ w'.cell? ⟨w.heap.size + 1 + 1, 1, none⟩ = some (.slice none 0 0) ∧ w'.cell? ⟨w.heap.size + 1 + 1, 2, none⟩ = some (.int .i64 0) ∧ w'.cell? ⟨g1, 0, none⟩ = some (.string name) ∧ w'.cell? ⟨g1, 1, none⟩ = some (.slice A m C) ∧ w'.cell? ⟨g1, 2, none⟩ = some (.int .i64 auto) ∧ w'.cell? (ad.add (k * 4)) = some (.int .i64 kd) ∧ w'.cell? (⟨(ad.add (k * 4)).block, (ad.add (k * 4)).off + 1, none⟩) = some (.int .i64 n) ∧ w'.cell? (⟨(ad.add (k * 4)).block, (ad.add (k * 4)).off + 2, none⟩) = some (.string t) ∧ w'.cell? (⟨(ad.add (k * 4)).block, (ad.add (k * 4)).off + 3, none⟩) = some (.slice ia l.length ic))) (by kernel_rfl) ⟨Bag.cell_at S6.out 0 rfl 0 rfl, Bag.cell_at S6.out 0 rfl 1 rfl, Bag.cell_at S6.out 0 rfl 2 rfl, Bag.cell_at S6.out 1 rfl 0 rfl, Bag.cell_at S6.out 1 rfl 1 rfl, Bag.cell_at S6.out 1 rfl 2 rfl, Bag.cell_at S6.out 1 rfl 3 rfl, Bag.cell_at S6.out 1 rfl 4 rfl, Bag.cell_at S6.out 1 rfl 5 rfl, Bag.cell_at S6.out 1 rfl 6 rfl, Bag.cell_at S6.out 1 rfl 7 rfl, Bag.cell_at S6.out 2 rfl 0 rfl, Bag.cell_at S6.out 2 rfl 1 rfl, Bag.cell_at S6.out 2 rfl 2 rfl, Bag.cell_at S6.out 3 rfl 0 rfl, Bag.cell_at S6.out 3 rfl 1 rfl, Bag.cell_at S6.out 3 rfl 2 rfl, (HK.out _ S6.out.old).1, (HK.out _ S6.out.old).2.1, (HK.out _ S6.out.old).2.2.1, (HK.out _ S6.out.old).2.2.2⟩ (fun hS => ?_)
     have S7 := Lib.hid (Bag.drew1 S6.out)
     clear S6
     generalize World.drew _ = w3 at hS S7 ⊢
     refine tk 0 rfl ?_
     try simp only [zp0, zp1, zp2, zp3, zp4]
     refine tk 1 rfl ?_
     try simp only [zp0, zp1, zp2, zp3, zp4]
     refine tk 2 rfl ?_
     try simp only [zp0, zp1, zp2, zp3, zp4]
     refine tk 3 rfl ?_
     try simp only [zp0, zp1, zp2, zp3, zp4]
     refine tk 4 rfl ?_
     try simp only [zp0, zp1, zp2, zp3, zp4]
     refine tk 5 rfl ?_
     try simp only [zp0, zp1, zp2, zp3, zp4]
     refine tk 6 rfl ?_
     try simp only [zp0, zp1, zp2, zp3, zp4]
     refine Reg.one_op (i := 7) rfl (by kernel_rfl) (fun K hK => ?_)
     go_simp
     go_at_call 30
     refine (HIN.out _).mono ?_
     rintro e w4 ⟨rfl, hb⟩
     have S8 := Lib.hid (show Sl.Sep w _ [_, _, _, _, _, _] from S7.out.keep hb)
     clear S7
     clear hb
     go_wp2_with fail
     refine hK.out _ _ ⟨Bag.cell_at S8.out 0 rfl 0 rfl, Bag.cell_at S8.out 0 rfl 1 rfl, Bag.cell_at S8.out 0 rfl 2 rfl, Bag.cell_at S8.out 1 rfl 0 rfl, Bag.cell_at S8.out 1 rfl 1 rfl, Bag.cell_at S8.out 1 rfl 2 rfl, Bag.cell_at S8.out 1 rfl 3 rfl, Bag.cell_at S8.out 1 rfl 4 rfl, Bag.cell_at S8.out 1 rfl 5 rfl, Bag.cell_at S8.out 1 rfl 6 rfl, Bag.cell_at S8.out 1 rfl 7 rfl, Bag.cell_at S8.out 2 rfl 0 rfl, Bag.cell_at S8.out 2 rfl 1 rfl, Bag.cell_at S8.out 2 rfl 2 rfl, Bag.cell_at S8.out 3 rfl 0 rfl, Bag.cell_at S8.out 3 rfl 1 rfl, Bag.cell_at S8.out 3 rfl 2 rfl, (HK.out _ S8.out.old).1, (HK.out _ S8.out.old).2.1, (HK.out _ S8.out.old).2.2.1, (HK.out _ S8.out.old).2.2.2⟩ (fun hS => ?_)
     clear hK K
     try simp only [zp0, zp1, zp2, zp3, zp4]
     refine tk 8 rfl ?_
     try simp only [zp0, zp1, zp2, zp3, zp4]
     refine wpAnyH_done (by kernel_rfl) ?_ _
     have f0 : World.cell? _ ⟨w.heap.size, 0, none⟩ = some (.string name) := Bag.cell_at S8.out 0 rfl 0 rfl
     have f1 : World.cell? _ ⟨w.heap.size, 1, none⟩ = some (.slice (some ad) N c) := Bag.cell_at S8.out 0 rfl 1 rfl
     have f2 : World.cell? _ ⟨w.heap.size, 2, none⟩ = some (.int .i64 auto) := Bag.cell_at S8.out 0 rfl 2 rfl
     have f3 : World.cell? _ ⟨w.heap.size + 1, 0, none⟩ = some (.bool rl) := Bag.cell_at S8.out 1 rfl 0 rfl
     have f4 : World.cell? _ ⟨w.heap.size + 1, 1, none⟩ = some (.bool rh) := Bag.cell_at S8.out 1 rfl 1 rfl
     have f5 : World.cell? _ ⟨w.heap.size + 1, 2, none⟩ = some (.int .i64 lk) := Bag.cell_at S8.out 1 rfl 2 rfl
     have f6 : World.cell? _ ⟨w.heap.size + 1, 3, none⟩ = some (.int .i64 ln) := Bag.cell_at S8.out 1 rfl 3 rfl
     have f7 : World.cell? _ ⟨w.heap.size + 1, 4, none⟩ = some (.string lt) := Bag.cell_at S8.out 1 rfl 4 rfl
     have f8 : World.cell? _ ⟨w.heap.size + 1, 5, none⟩ = some (.int .i64 gk) := Bag.cell_at S8.out 1 rfl 5 rfl
     have f9 : World.cell? _ ⟨w.heap.size + 1, 6, none⟩ = some (.int .i64 gn) := Bag.cell_at S8.out 1 rfl 6 rfl
     have f10 : World.cell? _ ⟨w.heap.size + 1, 7, none⟩ = some (.string gt) := Bag.cell_at S8.out 1 rfl 7 rfl
     have f11 : World.cell? _ ⟨w.heap.size + 1 + 1, 0, none⟩ = some (.string ⟨#[]⟩) := Bag.cell_at S8.out 2 rfl 0 rfl
     have f12 : World.cell? _ ⟨w.heap.size + 1 + 1, 1, none⟩ = some (.slice none 0 0) := Bag.cell_at S8.out 2 rfl 1 rfl
     have f13 : World.cell? _ ⟨w.heap.size + 1 + 1, 2, none⟩ = some (.int .i64 0) := Bag.cell_at S8.out 2 rfl 2 rfl
     have f14 : World.cell? _ ⟨g1, 0, none⟩ = some (.string name) := Bag.cell_at S8.out 3 rfl 0 rfl
     have f15 : World.cell? _ ⟨g1, 1, none⟩ = some (.slice A m C) := Bag.cell_at S8.out 3 rfl 1 rfl
     have f16 : World.cell? _ ⟨g1, 2, none⟩ = some (.int .i64 auto) := Bag.cell_at S8.out 3 rfl 2 rfl
     have f17 : World.cell? _ (ad.add (k * 4)) = some (.int .i64 kd) := (HK.out _ S8.out.old).1
     have f18 : World.cell? _ (⟨(ad.add (k * 4)).block, (ad.add (k * 4)).off + 1, none⟩) = some (.int .i64 n) := (HK.out _ S8.out.old).2.1
     have f19 : World.cell? _ (⟨(ad.add (k * 4)).block, (ad.add (k * 4)).off + 2, none⟩) = some (.string t) := (HK.out _ S8.out.old).2.2.1
     have f20 : World.cell? _ (⟨(ad.add (k * 4)).block, (ad.add (k * 4)).off + 3, none⟩) = some (.slice ia l.length ic) := (HK.out _ S8.out.old).2.2.2
     go_upto_region 8 with fail
     clear f0 f1 f2 f3 f4 f5 f6 f7 f8 f9 f10 f11 f12 f13 f14 f15 f16 f17 f18 f19 f20
     refine Reg.wp_region_late (fun w' => w'.cell? ⟨w.heap.size, 0, none⟩ = some (.string name) ∧ w'.cell? ⟨w.heap.size, 1, none⟩ = some (.slice (some ad) N c) ∧ w'.cell? ⟨w.heap.size, 2, none⟩ = some (.int .i64 auto) ∧ w'.cell? (ad.add (k * 4)) = some (.int .i64 kd) ∧ w'.cell? (⟨(ad.add (k * 4)).block, (ad.add (k * 4)).off + 1, none⟩) = some (.int .i64 n) ∧ w'.cell? (⟨(ad.add (k * 4)).block, (ad.add (k * 4)).off + 2, none⟩) = some (.string t) ∧ w'.cell? (⟨(ad.add (k * 4)).block, (ad.add (k * 4)).off + 3, none⟩) = some (.slice ia l.length ic)) (fun w' => w'.cell? ⟨g1, 0, none⟩ = some (.string name) ∧ w'.cell? ⟨g1, 1, none⟩ = some (.slice A m C) ∧ w'.cell? ⟨g1, 2, none⟩ = some (.int .i64 auto)) 11 (by kernel_rfl) ⟨Bag.cell_at S8.out 0 rfl 0 rfl, Bag.cell_at S8.out 0 rfl 1 rfl, Bag.cell_at S8.out 0 rfl 2 rfl, (HK.out _ S8.out.old).1, (HK.out _ S8.out.old).2.1, (HK.out _ S8.out.old).2.2.1, (HK.out _ S8.out.old).2.2.2⟩ ⟨Bag.cell_at S8.out 3 rfl 0 rfl, Bag.cell_at S8.out 3 rfl 1 rfl, Bag.cell_at S8.out 3 rfl 2 rfl⟩ (fun hS hL => ?_)
     have S9 := Lib.hid (Bag.drew1 S8.out)
     clear S8
     generalize World.drew _ = w5 at hS hL S9 ⊢
     refine Reg.early_op (i := 0) (v := ?_) rfl (by kernel_rfl) (by kernel_rfl) (by kernel_rfl) rfl (by kernel_rfl) (by kernel_rfl) (fun _ _ _ h => h) (by rfl) ?_ hS hL ?_
     rotate_left
     ·
      (intro w hSw hSv; (try dsimp only at hSw); (try dsimp only at hSv); go_simp; try with_reducible rfl)
     try simp only [zp0, zp1, zp2, zp3, zp4]
     refine Reg.early_op (i := 1) (v := ?_) rfl (by kernel_rfl) (by kernel_rfl) (by kernel_rfl) rfl (by kernel_rfl) (by kernel_rfl) (fun _ _ _ h => h) (by rfl) ?_ hS hL ?_
     rotate_left
     ·
      (intro w hSw hSv; (try dsimp only at hSw); (try dsimp only at hSv); go_simp; try with_reducible rfl)
     try simp only [zp0, zp1, zp2, zp3, zp4]
     refine Reg.early_op (i := 2) (v := ?_) rfl (by kernel_rfl) (by kernel_rfl) (by kernel_rfl) rfl (by kernel_rfl) (by kernel_rfl) (fun _ _ _ h => h) (by rfl) ?_ hS hL ?_
     rotate_left
     ·
      (intro w hSw hSv; (try dsimp only at hSw); (try dsimp only at hSv); go_simp; try with_reducible rfl)
     try simp only [zp0, zp1, zp2, zp3, zp4]
     refine Reg.early_op (i := 3) (v := ?_) rfl (by kernel_rfl) (by kernel_rfl) (by kernel_rfl) rfl (by kernel_rfl) (by kernel_rfl) (fun _ _ _ h => h) (by rfl) ?_ hS hL ?_
     rotate_left
     ·
      (intro w hSw hSv; (try dsimp only at hSw); (try dsimp only at hSv); go_simp; try with_reducible rfl)
     try simp only [zp0, zp1, zp2, zp3, zp4]
     refine Reg.early_op (i := 4) (v := ?_) rfl (by kernel_rfl) (by kernel_rfl) (by kernel_rfl) rfl (by kernel_rfl) (by kernel_rfl) (fun _ _ _ h => h) (by rfl) ?_ hS hL ?_
     rotate_left
     ·
      (intro w hSw hSv; (try dsimp only at hSw); (try dsimp only at hSv); go_simp; try with_reducible rfl)
     try simp only [zp0, zp1, zp2, zp3, zp4]
     refine Reg.early_op (i := 5) (v := ?_) rfl (by kernel_rfl) (by kernel_rfl) (by kernel_rfl) rfl (by kernel_rfl) (by kernel_rfl) (fun _ _ _ h => h) (by rfl) ?_ hS hL ?_
     rotate_left
     ·
      (intro w hSw hSv; (try dsimp only at hSw); (try dsimp only at hSv); go_simp; try with_reducible rfl)
     try simp only [zp0, zp1, zp2, zp3, zp4]
     refine Reg.early_op (i := 6) (v := ?_) rfl (by kernel_rfl) (by kernel_rfl) (by kernel_rfl) rfl (by kernel_rfl) (by kernel_rfl) (fun _ _ _ h => h) (by rfl) ?_ hS hL ?_
     rotate_left
     ·
      (intro w hSw hSv; (try dsimp only at hSw); (try dsimp only at hSv); go_simp; try with_reducible rfl)
     try simp only [zp0, zp1, zp2, zp3, zp4]
     refine Reg.only_op (i := 7) rfl (by kernel_rfl) (fun K hK => ?_)
     go_simp
     go_at_call 123
     refine (HCI.out _ S9.out.old).mono ?_
     rintro e w6 ⟨a1, c1, rfl, ho, hb⟩
     have S10 := Lib.hid (show Sl.Sep w _ [_, _, _, _, _, _, Bag.bag ([(LI.mk ⟨kd, n, t⟩ a1 c1 l).row])] from Bag.push_bag S9.out hb ho)
     clear S9
     clear hb ho
     go_wp2_with fail
     clear hL
     refine hK.out _ _ ⟨Bag.cell_at S10.out 0 rfl 0 rfl, Bag.cell_at S10.out 0 rfl 1 rfl, Bag.cell_at S10.out 0 rfl 2 rfl, (HK.out _ S10.out.old).1, (HK.out _ S10.out.old).2.1, (HK.out _ S10.out.old).2.2.1, (HK.out _ S10.out.old).2.2.2⟩ ⟨Bag.cell_at S10.out 3 rfl 0 rfl, Bag.cell_at S10.out 3 rfl 1 rfl, Bag.cell_at S10.out 3 rfl 2 rfl⟩ (fun hS hL => ?_)
     clear hK K
     try simp only [zp0, zp1, zp2, zp3, zp4]
     refine Reg.only_op (i := 8) rfl (by kernel_rfl) (fun K hK => ?_)
     go_simp
     have S11 := Lib.hid (show Sl.Sep w _ [_, _, _, _, _, _, _, Sv.ownV 40 4 (some ⟨w6.heap.size, 0, none⟩) 1 1 (cellsI [⟨⟨kd, n, t⟩, a1, c1, l⟩])] from Sv.push_own S10.out ((Below.refl _ _).alloc (Nat.le_refl _) _) (OwnV.madeAt w6 40 4 1 w6.heap.size #[.int .i64 kd, .int .i64 n, .string t, .slice a1 l.length c1] rfl (Nat.le_refl _) rfl (by decide)))
     clear S10
     obtain ⟨g2, hg⟩ : ∃ g', g' = w6.heap.size := ⟨_, rfl⟩
     rw [← hg] at S11 ⊢
     clear hg
     generalize w6.alloc (.cells #[.int .i64 kd, .int .i64 n, .string t, .slice a1 l.length c1] 40) = w7 at S11 ⊢
     clear hL
     refine hK.out _ _ ⟨Bag.cell_at S11.out 0 rfl 0 rfl, Bag.cell_at S11.out 0 rfl 1 rfl, Bag.cell_at S11.out 0 rfl 2 rfl, (HK.out _ S11.out.old).1, (HK.out _ S11.out.old).2.1, (HK.out _ S11.out.old).2.2.1, (HK.out _ S11.out.old).2.2.2⟩ ⟨Bag.cell_at S11.out 3 rfl 0 rfl, Bag.cell_at S11.out 3 rfl 1 rfl, Bag.cell_at S11.out 3 rfl 2 rfl⟩ (fun hS hL => ?_)
     clear hK K
     try simp only [zp0, zp1, zp2, zp3, zp4]
     refine Reg.only_op (i := 9) rfl (by kernel_rfl) (fun K hK => ?_)
     refine Sv.step_append_s S11.out 4 rfl rfl _ _ 24 (by rfl) i0 (.agg #[.int .i64 0, .int .i64 0, .string ⟨#[]⟩, .slice none 0 0]) 56 Try.underlying24 HI.out.1 HI.out.2.1 HI.out.2.2.1 HI.out.2.2.2 rfl (by omega) _ (by rfl) rfl _ _ 1 _ _ (cellsI [⟨⟨kd, n, t⟩, a1, c1, l⟩]) (by rfl) rfl ((Sv.own_at S11.out 7 rfl).reads) rfl (cellsI_one _) (by unfold maxLen; omega) (by omega) ?_
     intro a3' c3' w8 hA
     have S12 := Lib.hid (show Sl.Sep w _ [_, _, _, _, Sv.ownV 40 4 a3' c3' (m + 1) (cellsI ys ++ (cellsI [⟨⟨kd, n, t⟩, a1, c1, l⟩])), _, _, Sv.ownV 40 4 (some ⟨g2, 0, none⟩) 1 1 (cellsI [⟨⟨kd, n, t⟩, a1, c1, l⟩])] from hA)
     clear S11
     clear hA
     clear hL
     refine hK.out _ _ ⟨Bag.cell_at S12.out 0 rfl 0 rfl, Bag.cell_at S12.out 0 rfl 1 rfl, Bag.cell_at S12.out 0 rfl 2 rfl, (HK.out _ S12.out.old).1, (HK.out _ S12.out.old).2.1, (HK.out _ S12.out.old).2.2.1, (HK.out _ S12.out.old).2.2.2⟩ ⟨Bag.cell_at S12.out 3 rfl 0 rfl, Bag.cell_at S12.out 3 rfl 1 rfl, Bag.cell_at S12.out 3 rfl 2 rfl⟩ (fun hS hL => ?_)
     clear hK K
     try simp only [zp0, zp1, zp2, zp3, zp4]
     refine Reg.early_op (i := 10) (v := ?_) rfl (by kernel_rfl) (by kernel_rfl) (by kernel_rfl) rfl (by kernel_rfl) (by kernel_rfl) (fun _ _ _ h => h) (by rfl) ?_ hS hL ?_
     rotate_left
     ·
      (intro w hSw hSv; (try dsimp only at hSw); (try dsimp only at hSv); go_simp; try with_reducible rfl)
     try simp only [zp0, zp1, zp2, zp3, zp4]
     refine Reg.late_op (i := 11) rfl (by kernel_rfl) rfl (fun K hK => ?_)
     have f0 : World.cell? _ ⟨g1, 0, none⟩ = some (.string name) := Bag.cell_at S12.out 3 rfl 0 rfl
     have f1 : World.cell? _ ⟨g1, 1, none⟩ = some (.slice A m C) := Bag.cell_at S12.out 3 rfl 1 rfl
     have f2 : World.cell? _ ⟨g1, 2, none⟩ = some (.int .i64 auto) := Bag.cell_at S12.out 3 rfl 2 rfl
     have z0 := Bag.free_at S12.out 3 rfl 0
     have z1 := Bag.free_at S12.out 3 rfl 1
     have z2 := Bag.free_at S12.out 3 rfl 2
     go_simp
     clear f0 f1 f2 z0 z1 z2
     have S13 := Lib.hid (show Sl.Sep w _ [_, _, _, L4.boxR g1 26 #[.string name, .slice a3' (m + 1) c3', .int .i64 auto], _, _, _, _] from L5.put_box5 (S12.out) 3 rfl 1 (.slice a3' (m + 1) c3'))
     clear S12
     refine hK.out _ _ ⟨Bag.cell_at S13.out 0 rfl 0 rfl, Bag.cell_at S13.out 0 rfl 1 rfl, Bag.cell_at S13.out 0 rfl 2 rfl, (HK.out _ S13.out.old).1, (HK.out _ S13.out.old).2.1, (HK.out _ S13.out.old).2.2.1, (HK.out _ S13.out.old).2.2.2⟩ (fun hS => ?_)
     clear hL
     clear hK K
     try simp only [zp0, zp1, zp2, zp3, zp4]
     refine Reg.anyL_done (by kernel_rfl) ?_ _
     have f0 : World.cell? _ ⟨w.heap.size, 0, none⟩ = some (.string name) := Bag.cell_at S13.out 0 rfl 0 rfl
     have f1 : World.cell? _ ⟨w.heap.size, 1, none⟩ = some (.slice (some ad) N c) := Bag.cell_at S13.out 0 rfl 1 rfl
     have f2 : World.cell? _ ⟨w.heap.size, 2, none⟩ = some (.int .i64 auto) := Bag.cell_at S13.out 0 rfl 2 rfl
     have f3 : World.cell? _ ⟨w.heap.size + 1, 0, none⟩ = some (.bool rl) := Bag.cell_at S13.out 1 rfl 0 rfl
     have f4 : World.cell? _ ⟨w.heap.size + 1, 1, none⟩ = some (.bool rh) := Bag.cell_at S13.out 1 rfl 1 rfl
     have f5 : World.cell? _ ⟨w.heap.size + 1, 2, none⟩ = some (.int .i64 lk) := Bag.cell_at S13.out 1 rfl 2 rfl
     have f6 : World.cell? _ ⟨w.heap.size + 1, 3, none⟩ = some (.int .i64 ln) := Bag.cell_at S13.out 1 rfl 3 rfl
     have f7 : World.cell? _ ⟨w.heap.size + 1, 4, none⟩ = some (.string lt) := Bag.cell_at S13.out 1 rfl 4 rfl
     have f8 : World.cell? _ ⟨w.heap.size + 1, 5, none⟩ = some (.int .i64 gk) := Bag.cell_at S13.out 1 rfl 5 rfl
     have f9 : World.cell? _ ⟨w.heap.size + 1, 6, none⟩ = some (.int .i64 gn) := Bag.cell_at S13.out 1 rfl 6 rfl
     have f10 : World.cell? _ ⟨w.heap.size + 1, 7, none⟩ = some (.string gt) := Bag.cell_at S13.out 1 rfl 7 rfl
     have f11 : World.cell? _ ⟨w.heap.size + 1 + 1, 0, none⟩ = some (.string ⟨#[]⟩) := Bag.cell_at S13.out 2 rfl 0 rfl
     have f12 : World.cell? _ ⟨w.heap.size + 1 + 1, 1, none⟩ = some (.slice none 0 0) := Bag.cell_at S13.out 2 rfl 1 rfl
     have f13 : World.cell? _ ⟨w.heap.size + 1 + 1, 2, none⟩ = some (.int .i64 0) := Bag.cell_at S13.out 2 rfl 2 rfl
     have f14 : World.cell? _ ⟨g1, 0, none⟩ = some (.string name) := Bag.cell_at S13.out 3 rfl 0 rfl
     have f15 : World.cell? _ ⟨g1, 1, none⟩ = some (.slice a3' (m + 1) c3') := Bag.cell_at S13.out 3 rfl 1 rfl
     have f16 : World.cell? _ ⟨g1, 2, none⟩ = some (.int .i64 auto) := Bag.cell_at S13.out 3 rfl 2 rfl
     have f17 : World.cell? _ (ad.add (k * 4)) = some (.int .i64 kd) := (HK.out _ S13.out.old).1
     have f18 : World.cell? _ (⟨(ad.add (k * 4)).block, (ad.add (k * 4)).off + 1, none⟩) = some (.int .i64 n) := (HK.out _ S13.out.old).2.1
     have f19 : World.cell? _ (⟨(ad.add (k * 4)).block, (ad.add (k * 4)).off + 2, none⟩) = some (.string t) := (HK.out _ S13.out.old).2.2.1
     have f20 : World.cell? _ (⟨(ad.add (k * 4)).block, (ad.add (k * 4)).off + 3, none⟩) = some (.slice ia l.length ic) := (HK.out _ S13.out.old).2.2.2
     clear f0 f1 f2 f3 f4 f5 f6 f7 f8 f9 f10 f11 f12 f13 f14 f15 f16 f17 f18 f19 f20
     have S14 := Lib.hid (show Sl.Sep w _ [_, _, _, _, _, Bag.bag (rowsI ys ++ ([(LI.mk ⟨kd, n, t⟩ a1 c1 l).row])), Bag.bag ([]), _] from Bag.bag_join S13.out 5 6 (by decide) rfl rfl)
     clear S13
     have S15 := Lib.hid (show Sl.Sep w _ [_, _, _, _, _, _] from Bag.take S14.out [0, 1, 2, 3, 4, 5] (by rfl) (by decide))
     clear S14
     have f0 : World.cell? _ ⟨w.heap.size, 0, none⟩ = some (.string name) := Bag.cell_at S15.out 0 rfl 0 rfl
     have f1 : World.cell? _ ⟨w.heap.size, 1, none⟩ = some (.slice (some ad) N c) := Bag.cell_at S15.out 0 rfl 1 rfl
     have f2 : World.cell? _ ⟨w.heap.size, 2, none⟩ = some (.int .i64 auto) := Bag.cell_at S15.out 0 rfl 2 rfl
     have f3 : World.cell? _ ⟨w.heap.size + 1, 0, none⟩ = some (.bool rl) := Bag.cell_at S15.out 1 rfl 0 rfl
     have f4 : World.cell? _ ⟨w.heap.size + 1, 1, none⟩ = some (.bool rh) := Bag.cell_at S15.out 1 rfl 1 rfl
     have f5 : World.cell? _ ⟨w.heap.size + 1, 2, none⟩ = some (.int .i64 lk) := Bag.cell_at S15.out 1 rfl 2 rfl
     have f6 : World.cell? _ ⟨w.heap.size + 1, 3, none⟩ = some (.int .i64 ln) := Bag.cell_at S15.out 1 rfl 3 rfl
     have f7 : World.cell? _ ⟨w.heap.size + 1, 4, none⟩ = some (.string lt) := Bag.cell_at S15.out 1 rfl 4 rfl
     have f8 : World.cell? _ ⟨w.heap.size + 1, 5, none⟩ = some (.int .i64 gk) := Bag.cell_at S15.out 1 rfl 5 rfl
     have f9 : World.cell? _ ⟨w.heap.size + 1, 6, none⟩ = some (.int .i64 gn) := Bag.cell_at S15.out 1 rfl 6 rfl
     have f10 : World.cell? _ ⟨w.heap.size + 1, 7, none⟩ = some (.string gt) := Bag.cell_at S15.out 1 rfl 7 rfl
     have f11 : World.cell? _ ⟨w.heap.size + 1 + 1, 0, none⟩ = some (.string ⟨#[]⟩) := Bag.cell_at S15.out 2 rfl 0 rfl
     have f12 : World.cell? _ ⟨w.heap.size + 1 + 1, 1, none⟩ = some (.slice none 0 0) := Bag.cell_at S15.out 2 rfl 1 rfl
     have f13 : World.cell? _ ⟨w.heap.size + 1 + 1, 2, none⟩ = some (.int .i64 0) := Bag.cell_at S15.out 2 rfl 2 rfl
     have f14 : World.cell? _ ⟨g1, 0, none⟩ = some (.string name) := Bag.cell_at S15.out 3 rfl 0 rfl
     have f15 : World.cell? _ ⟨g1, 1, none⟩ = some (.slice a3' (m + 1) c3') := Bag.cell_at S15.out 3 rfl 1 rfl
     have f16 : World.cell? _ ⟨g1, 2, none⟩ = some (.int .i64 auto) := Bag.cell_at S15.out 3 rfl 2 rfl
     have f17 : World.cell? _ (ad.add (k * 4)) = some (.int .i64 kd) := (HK.out _ S15.out.old).1
     have f18 : World.cell? _ (⟨(ad.add (k * 4)).block, (ad.add (k * 4)).off + 1, none⟩) = some (.int .i64 n) := (HK.out _ S15.out.old).2.1
     have f19 : World.cell? _ (⟨(ad.add (k * 4)).block, (ad.add (k * 4)).off + 2, none⟩) = some (.string t) := (HK.out _ S15.out.old).2.2.1
     have f20 : World.cell? _ (⟨(ad.add (k * 4)).block, (ad.add (k * 4)).off + 3, none⟩) = some (.slice ia l.length ic) := (HK.out _ S15.out.old).2.2.2
     go_wp2_with fail
     go_roundw
     case rel =>
      refine ⟨k + 1, m + 1, a3', c3', ys ++ [⟨⟨kd, n, t⟩, a1, c1, l⟩], by omega, by go_num, by omega, And.intro ⟨?_, ?_⟩ ?_⟩
      ·
       rw [List.length_append, ← HC.out.1]; rfl
      ·
       rw [HT.out, HB.out, conI_snoc, HC.out.2]; rfl
      ·
       rw [cellsI_append, rowsI_append]; exact S15.out
     case measure => simp [intOf]; omega
   ·
    skip
    have f0 : World.cell? _ ⟨w.heap.size, 0, none⟩ = some (.string name) := Bag.cell_at S6.out 0 rfl 0 rfl
    have f1 : World.cell? _ ⟨w.heap.size, 1, none⟩ = some (.slice a N c) := Bag.cell_at S6.out 0 rfl 1 rfl
    have f2 : World.cell? _ ⟨w.heap.size, 2, none⟩ = some (.int .i64 auto) := Bag.cell_at S6.out 0 rfl 2 rfl
    have f3 : World.cell? _ ⟨w.heap.size + 1, 0, none⟩ = some (.bool rl) := Bag.cell_at S6.out 1 rfl 0 rfl
    have f4 : World.cell? _ ⟨w.heap.size + 1, 1, none⟩ = some (.bool rh) := Bag.cell_at S6.out 1 rfl 1 rfl
    have f5 : World.cell? _ ⟨w.heap.size + 1, 2, none⟩ = some (.int .i64 lk) := Bag.cell_at S6.out 1 rfl 2 rfl
    have f6 : World.cell? _ ⟨w.heap.size + 1, 3, none⟩ = some (.int .i64 ln) := Bag.cell_at S6.out 1 rfl 3 rfl
    have f7 : World.cell? _ ⟨w.heap.size + 1, 4, none⟩ = some (.string lt) := Bag.cell_at S6.out 1 rfl 4 rfl
    have f8 : World.cell? _ ⟨w.heap.size + 1, 5, none⟩ = some (.int .i64 gk) := Bag.cell_at S6.out 1 rfl 5 rfl
    have f9 : World.cell? _ ⟨w.heap.size + 1, 6, none⟩ = some (.int .i64 gn) := Bag.cell_at S6.out 1 rfl 6 rfl
    have f10 : World.cell? _ ⟨w.heap.size + 1, 7, none⟩ = some (.string gt) := Bag.cell_at S6.out 1 rfl 7 rfl
    have f11 : World.cell? _ ⟨w.heap.size + 1 + 1, 0, none⟩ = some (.string ⟨#[]⟩) := Bag.cell_at S6.out 2 rfl 0 rfl
    have f12 : World.cell? _ ⟨w.heap.size + 1 + 1, 1, none⟩ = some (.slice none 0 0) := Bag.cell_at S6.out 2 rfl 1 rfl
    have f13 : World.cell? _ ⟨w.heap.size + 1 + 1, 2, none⟩ = some (.int .i64 0) := Bag.cell_at S6.out 2 rfl 2 rfl
    have f14 : World.cell? _ ⟨g1, 0, none⟩ = some (.string name) := Bag.cell_at S6.out 3 rfl 0 rfl
    have f15 : World.cell? _ ⟨g1, 1, none⟩ = some (.slice A m C) := Bag.cell_at S6.out 3 rfl 1 rfl
    have f16 : World.cell? _ ⟨g1, 2, none⟩ = some (.int .i64 auto) := Bag.cell_at S6.out 3 rfl 2 rfl
    have hw1 : IntKind.i64.wrap ((N : Int) - (m : Int)) = (N : Int) - (m : Int) := IntWalk.i64_in _ ⟨by omega, by omega⟩
    go_upto_region 9 with fail
    clear f0 f1 f2 f3 f4 f5 f6 f7 f8 f9 f10 f11 f12 f13 f14 f15 f16
    refine wp_region_held_drew (S := (fun w' => w'.cell? ⟨w.heap.size, 0, none⟩ = some (.string name) ∧ w'.cell? ⟨w.heap.size, 1, none⟩ = some (.slice a N c) ∧ w'.cell? ⟨w.heap.size, 2, none⟩ = some (.int .i64 auto) ∧ w'.cell? ⟨g1, 0, none⟩ = some (.string name) ∧ w'.cell? ⟨g1, 1, none⟩ = some (.slice A m C) ∧ w'.cell? ⟨g1, 2, none⟩ = some (.int .i64 auto))) (by kernel_rfl) ⟨Bag.cell_at S6.out 0 rfl 0 rfl, Bag.cell_at S6.out 0 rfl 1 rfl, Bag.cell_at S6.out 0 rfl 2 rfl, Bag.cell_at S6.out 3 rfl 0 rfl, Bag.cell_at S6.out 3 rfl 1 rfl, Bag.cell_at S6.out 3 rfl 2 rfl⟩ (fun hS => ?_)
    have S7 := Lib.hid (Bag.drew1 S6.out)
    clear S6
    generalize World.drew _ = w3 at hS S7 ⊢
    refine tk 0 rfl ?_
    try simp only [zp0, zp1, zp2, zp3, zp4]
    refine tk 1 rfl ?_
    try simp only [zp0, zp1, zp2, zp3, zp4]
    refine tk 2 rfl ?_
    try simp only [zp0, zp1, zp2, zp3, zp4]
    refine tk 3 rfl ?_
    try simp only [zp0, zp1, zp2, zp3, zp4]
    refine tk 4 rfl ?_
    try simp only [zp0, zp1, zp2, zp3, zp4]
    refine tk 5 rfl ?_
    try simp only [zp0, zp1, zp2, zp3, zp4]
    refine tk 6 rfl ?_
    try simp only [zp0, zp1, zp2, zp3, zp4]
    refine tk 7 rfl ?_
    try simp only [zp0, zp1, zp2, zp3, zp4]
    refine Reg.one_op (i := 8) rfl (by kernel_rfl) (fun K hK => ?_)
    have f0 : World.cell? _ ⟨w.heap.size + 1 + 1, 0, none⟩ = some (.string ⟨#[]⟩) := Bag.cell_at S7.out 2 rfl 0 rfl
    have f1 : World.cell? _ ⟨w.heap.size + 1 + 1, 1, none⟩ = some (.slice none 0 0) := Bag.cell_at S7.out 2 rfl 1 rfl
    have f2 : World.cell? _ ⟨w.heap.size + 1 + 1, 2, none⟩ = some (.int .i64 0) := Bag.cell_at S7.out 2 rfl 2 rfl
    have z0 := Bag.free_at S7.out 2 rfl 0
    have z1 := Bag.free_at S7.out 2 rfl 1
    have z2 := Bag.free_at S7.out 2 rfl 2
    go_simp
    clear f0 f1 f2 z0 z1 z2
    have S8 := Lib.hid (show Sl.Sep w _ [_, _, L4.boxR (w.heap.size + 1 + 1) 26 #[.string name, .slice A m C, .int .i64 auto], _, _, _] from L5.put_box5 (L5.put_box5 (L5.put_box5 (S7.out) 2 rfl 0 (.string name)) 2 rfl 1 (.slice A m C)) 2 rfl 2 (.int .i64 auto))
    clear S7
    refine hK.out _ _ ⟨Bag.cell_at S8.out 0 rfl 0 rfl, Bag.cell_at S8.out 0 rfl 1 rfl, Bag.cell_at S8.out 0 rfl 2 rfl, Bag.cell_at S8.out 3 rfl 0 rfl, Bag.cell_at S8.out 3 rfl 1 rfl, Bag.cell_at S8.out 3 rfl 2 rfl⟩ (fun hS => ?_)
    clear hK K
    try simp only [zp0, zp1, zp2, zp3, zp4]
    refine tk 9 rfl ?_
    try simp only [zp0, zp1, zp2, zp3, zp4]
    refine wpAnyH_done (by kernel_rfl) ?_ _
    have f0 : World.cell? _ ⟨w.heap.size, 0, none⟩ = some (.string name) := Bag.cell_at S8.out 0 rfl 0 rfl
    have f1 : World.cell? _ ⟨w.heap.size, 1, none⟩ = some (.slice a N c) := Bag.cell_at S8.out 0 rfl 1 rfl
    have f2 : World.cell? _ ⟨w.heap.size, 2, none⟩ = some (.int .i64 auto) := Bag.cell_at S8.out 0 rfl 2 rfl
    have f3 : World.cell? _ ⟨w.heap.size + 1, 0, none⟩ = some (.bool rl) := Bag.cell_at S8.out 1 rfl 0 rfl
    have f4 : World.cell? _ ⟨w.heap.size + 1, 1, none⟩ = some (.bool rh) := Bag.cell_at S8.out 1 rfl 1 rfl
    have f5 : World.cell? _ ⟨w.heap.size + 1, 2, none⟩ = some (.int .i64 lk) := Bag.cell_at S8.out 1 rfl 2 rfl
    have f6 : World.cell? _ ⟨w.heap.size + 1, 3, none⟩ = some (.int .i64 ln) := Bag.cell_at S8.out 1 rfl 3 rfl
    have f7 : World.cell? _ ⟨w.heap.size + 1, 4, none⟩ = some (.string lt) := Bag.cell_at S8.out 1 rfl 4 rfl
    have f8 : World.cell? _ ⟨w.heap.size + 1, 5, none⟩ = some (.int .i64 gk) := Bag.cell_at S8.out 1 rfl 5 rfl
    have f9 : World.cell? _ ⟨w.heap.size + 1, 6, none⟩ = some (.int .i64 gn) := Bag.cell_at S8.out 1 rfl 6 rfl
    have f10 : World.cell? _ ⟨w.heap.size + 1, 7, none⟩ = some (.string gt) := Bag.cell_at S8.out 1 rfl 7 rfl
    have f11 : World.cell? _ ⟨w.heap.size + 1 + 1, 0, none⟩ = some (.string name) := Bag.cell_at S8.out 2 rfl 0 rfl
    have f12 : World.cell? _ ⟨w.heap.size + 1 + 1, 1, none⟩ = some (.slice A m C) := Bag.cell_at S8.out 2 rfl 1 rfl
    have f13 : World.cell? _ ⟨w.heap.size + 1 + 1, 2, none⟩ = some (.int .i64 auto) := Bag.cell_at S8.out 2 rfl 2 rfl
    have f14 : World.cell? _ ⟨g1, 0, none⟩ = some (.string name) := Bag.cell_at S8.out 3 rfl 0 rfl
    have f15 : World.cell? _ ⟨g1, 1, none⟩ = some (.slice A m C) := Bag.cell_at S8.out 3 rfl 1 rfl
    have f16 : World.cell? _ ⟨g1, 2, none⟩ = some (.int .i64 auto) := Bag.cell_at S8.out 3 rfl 2 rfl
    go_wp2_with fail
    refine bodyPost_ret (v := .tuple #[.agg #[.string name, .slice A m C, .int .i64 auto], .int .i64 ((N : Int) - (m : Int))]) (by simp [results, Try.results48, go_sem, *]) rfl ?_
    have hkN : k = N := by omega
    obtain ⟨hm, hc⟩ := HC.out
    rw [List.take_of_length_le (show (conI xs).length ≤ k by have := HN.out; simp; omega)] at hc
    have hl9 : (outI (conI xs) ⟨rl, rh, ⟨lk, ln, lt⟩, ⟨gk, gn, gt⟩⟩).length = m := by rw [← hc, conI_length, hm]
    have S90 := Lib.hid (Bag.bag_of_one S8.out 4 (r := rowI A C ys) (by rw [hm]; rfl))
    have S91 := Lib.hid (Bag.bag_join S90.out 4 5 (by decide) rfl rfl)
    exact ⟨⟨name, A, C, ys, auto⟩, by rw [HD.out.2, hl9, hm]; rfl, by rw [HD.out.1]; unfold LS.con; rw [hc]; rfl, Bag.bag_from S91.out 4 rfl, S91.out.old⟩
end Go.Proofs.Ytojcdmgcbgpdmaa.L6

namespace Go.Proofs.Ytojcdmgcbgpdmaa.L5
open L4 (boxR push_box box_at)
open Go.ChangeShapes Go.WideShapes Go.ChangeAt Go.RowKit Mem Sl Ex L2 Sv Bag Run

set_option maxHeartbeats 1000000 in
theorem copyRecord_any (a : Option Addr) (c : Nat) (l : List F) (hl : l.length ≤ 1099511627776) (w : World) (hr : Reads w w.heap.size a (cellsF l)) :
  Calls Try.prog 81 #[.agg #[.slice a l.length c]] w fun e w' => ∃ a' c', e = .returned (.agg #[.slice a' l.length c']) ∧ OwnV w' w.heap.size 128 2 a' c' l.length (cellsF l) ∧ Below w.heap.size w w' := by
 obtain ⟨i0, hi, hz0, hz1, hz2⟩ := fieldInfo
 obtain ⟨n, hn⟩ : ∃ n, n = l.length := ⟨_, rfl⟩
 rw [← hn] at hl ⊢
 have HR := Lib.hid (fun w' (h : Below w.heap.size w w') => hr.below h)
 have HC := Lib.hid (show (cellsF l).length = Nat.min n n * 2 by rw [cellsF_length, hn, show Nat.min l.length l.length = l.length from Nat.min_self _])
 have HM := Lib.hid (show (madeCells (Value.agg #[.string ⟨#[]⟩, .int .i64 0]).cells (n * 2)).toList.length = (cellsF l).length by rw [cellsF_length, ← hn]; simp [madeCells])
 have HI := Lib.hid (And.intro hi (And.intro hz0 (And.intro hz1 hz2)))
 have hl' : (n : Int) ≤ 1099511627776 := by omega
 clear hn hr hi hz0 hz1 hz2
 have S1 := Lib.hid (show Sl.Sep w _ [_, _] from L4.push_box (L4.push_box (Sl.Sep.start w) 31 #[.slice a n c] (w.heap.size) (by simp)) 31 #[.slice none 0 0] (w.heap.size + 1) (by simp))
 obtain ⟨wa, hwa⟩ : ∃ u, u = ((w.alloc (.cells #[.slice a n c] 31)).alloc (.cells #[.slice none 0 0] 31)) := ⟨_, rfl⟩
 rw [← hwa] at S1
 go_enter Try.func81, Try.ntmps81
 go_upto_region 1 with fail
 rw [← hwa]
 clear hwa
 have f0 : World.cell? _ ⟨w.heap.size, 0, none⟩ = some (.slice a n c) := Bag.cell_at S1.out 0 rfl 0 rfl
 have f1 : World.cell? _ ⟨w.heap.size + 1, 0, none⟩ = some (.slice none 0 0) := Bag.cell_at S1.out 1 rfl 0 rfl
 go_upto_region 2 with (at_make; refine wpList_make_s S1.out rfl _ _ 29 rfl 128 i0 (.agg #[.string ⟨#[]⟩, .int .i64 0]) 2 Try.underlying29 HI.out.1 HI.out.2.1 HI.out.2.2.1 _ _ n rfl rfl (by rw [HI.out.2.2.2]; omega) (by unfold maxLen; omega) ?_; intro w1 S')
 clear f0 f1
 obtain ⟨g1, hg⟩ : ∃ g', g' = wa.heap.size := ⟨_, rfl⟩
 rw [← hg] at S' ⊢
 clear hg
 have S2 := Lib.hid (show Sl.Sep w _ [L4.boxR w.heap.size 31 #[.slice a n c], L4.boxR (w.heap.size + 1) 31 #[.slice none 0 0], Sv.ownV 128 2 (some ⟨g1, 0, none⟩) n n ((madeCells (Value.agg #[.string ⟨#[]⟩, .int .i64 0]).cells (n * 2)).toList)] from S')
 clear S1
 clear S'
 have f0 : World.cell? _ ⟨w.heap.size, 0, none⟩ = some (.slice a n c) := Bag.cell_at S2.out 0 rfl 0 rfl
 have f1 : World.cell? _ ⟨w.heap.size + 1, 0, none⟩ = some (.slice none 0 0) := Bag.cell_at S2.out 1 rfl 0 rfl
 have hcp := fun ty => run_copy_s (P := Try.prog) S2.out 2 rfl 29 29 ty i0 Try.underlying29 HI.out.1 HI.out.2.2.1 0 n n n c a (cellsF l) HC.out w.heap.size (HR.out _ S2.out.old) (by rw [HM.out]; omega) (cellsF_one l)
 obtain ⟨w2, hw⟩ : ∃ u, u = World.setCells w1 g1 0 (cellsF l) := ⟨_, rfl⟩
 rw [← hw] at hcp
 have HW := Lib.hid hw
 clear hw
 go_upto_region 3 with fail
 clear f0 f1
 have S3 := Lib.hid (show Sl.Sep w _ [_, _, Sv.ownV 128 2 (some ⟨g1, 0, none⟩) n n (cellsF l)] from (by have h := Run.put_run S2.out 2 rfl 0 (cellsF l) (by rw [HM.out]; omega); rw [← HW.out, over_all _ _ HM.out] at h; exact h))
 clear S2
 clear hcp HW
 have f0 : World.cell? _ ⟨w.heap.size, 0, none⟩ = some (.slice a n c) := Bag.cell_at S3.out 0 rfl 0 rfl
 have f1 : World.cell? _ ⟨w.heap.size + 1, 0, none⟩ = some (.slice none 0 0) := Bag.cell_at S3.out 1 rfl 0 rfl
 have z0 := Bag.free_at S3.out 1 rfl 0
 go_wp2_with fail
 clear f0 f1 z0
 have S4 := Lib.hid (show Sl.Sep w _ [_, L4.boxR (w.heap.size + 1) 31 #[.slice (some ⟨g1, 0, none⟩) n n], _] from L5.put_box5 (S3.out) 1 rfl 0 (.slice (some ⟨g1, 0, none⟩) n n))
 clear S3
 have f0 : World.cell? _ ⟨w.heap.size + 1, 0, none⟩ = some (.slice (some ⟨g1, 0, none⟩) n n) := Bag.cell_at S4.out 1 rfl 0 rfl
 refine bodyPost_ret (v := .agg #[.slice (some ⟨g1, 0, none⟩) n n]) (by simp [results, Try.results81, go_sem, *]) rfl ?_
 exact ⟨_, _, rfl, Sv.own_from S4.out 2 rfl, S4.out.old⟩
end Go.Proofs.Ytojcdmgcbgpdmaa.L5

namespace Go.Proofs.Ytojcdmgcbgpdmaa.V
open Go.ChangeShapes Go.WideShapes Go.ChangeAt Go.RowKit Mem Sl Sv Bag

section
variable {α β : Type}
theorem take_next {xs : List α} {k : Nat} {x : α} (hx : xs[k]? = some x) : xs.take (k + 1) = xs.take k ++ [x] := by
 obtain ⟨hk, rfl⟩ := List.getElem?_eq_some_iff.1 hx
 exact List.take_succ_eq_append_getElem hk
theorem drop_next {xs : List α} {k : Nat} {x : α} (hx : xs[k]? = some x) : xs.drop k = x :: xs.drop (k + 1) := by
 obtain ⟨hk, rfl⟩ := List.getElem?_eq_some_iff.1 hx
 exact List.drop_eq_getElem_cons hk
theorem split_next {xs : List α} {k : Nat} {x : α} (hx : xs[k]? = some x) : xs = xs.take k ++ x :: xs.drop (k + 1) := by
 rw [← drop_next hx, List.take_append_drop]
theorem flat_len {cl : α → List Value} {m : Nat} (hm : ∀ x, (cl x).length = m) : ∀ xs : List α, (xs.flatMap cl).length = xs.length * m
 | [] => by simp
 | x :: xs => by rw [List.flatMap_cons, List.length_append, hm, flat_len hm xs, List.length_cons]; rw [Nat.add_mul, Nat.one_mul, Nat.add_comm]
theorem flat_at {cl : α → List Value} {m : Nat} (hm : ∀ x, (cl x).length = m) {xs : List α} {k : Nat} {x : α} (hx : xs[k]? = some x) {j : Nat} {v : Value} (hj : (cl x)[j]? = some v) : (xs.flatMap cl)[k * m + j]? = some v := by
 have hk : k < xs.length := (List.getElem?_eq_some_iff.1 hx).1
 have h1 : j < (cl x).length := (List.getElem?_eq_some_iff.1 hj).1
 have h2 : ((xs.take k).flatMap cl).length = k * m := by rw [flat_len hm, List.length_take, Nat.min_eq_left (Nat.le_of_lt hk)]
 have h3 : xs.flatMap cl = (xs.take k).flatMap cl ++ (cl x ++ (xs.drop (k + 1)).flatMap cl) := by
  conv => lhs; rw [split_next hx, List.flatMap_append, List.flatMap_cons]
 rw [h3, List.getElem?_append_right (by rw [h2]; omega), h2, Nat.add_sub_cancel_left, List.getElem?_append_left h1]
 exact hj
theorem add_far (ad : Addr) (q j : Nat) : ad.add (q + (j + 1)) = ⟨(ad.add q).block, (ad.add q).off + (j + 1), none⟩ := by
 rw [← Nat.add_assoc, L5.add_next, Addr.mk.injEq]
 unfold Addr.add
 by_cases h : q = 0 <;> by_cases h2 : j = 0 <;> simp [h, h2, Nat.add_assoc]
theorem reads_cell {w : World} {B : Nat} {ad : Addr} {vs : List Value} (h : Reads w B (some ad) vs) {j : Nat} {v : Value} (hj : vs[j]? = some v) : w.cell? (ad.add j) = some v := by
 obtain ⟨h1, rfl⟩ := List.getElem?_eq_some_iff.1 hj
 obtain ⟨a', e, _, hc⟩ := h j h1
 injection e with e
 rw [e]
 exact hc
theorem reads_some {w : World} {B : Nat} {a : Option Addr} {vs : List Value} (h : Reads w B a vs) (hl : 0 < vs.length) : ∃ ad, a = some ad := by
 obtain ⟨ad, e, _⟩ := h 0 hl
 exact ⟨ad, e⟩
theorem el_some {cl : α → List Value} {m : Nat} (hm : ∀ x, (cl x).length = m) (hp : 0 < m) {w : World} {B k : Nat} {a : Option Addr} {xs : List α} (h : Reads w B a (xs.flatMap cl)) (hk : k < xs.length) : ∃ ad, a = some ad := by
 refine reads_some h ?_
 rw [flat_len hm]
 exact Nat.mul_pos (by omega) hp
theorem el_first {cl : α → List Value} {m : Nat} (hm : ∀ x, (cl x).length = m) {w : World} {B k : Nat} {ad : Addr} {xs : List α} {x : α} {v : Value} (h : Reads w B (some ad) (xs.flatMap cl)) (hx : xs[k]? = some x) (hv : (cl x)[0]? = some v) : w.cell? (ad.add (k * m)) = some v := reads_cell h (flat_at hm hx hv)
theorem el_next {cl : α → List Value} {m : Nat} (hm : ∀ x, (cl x).length = m) {w : World} {B k : Nat} {ad : Addr} {xs : List α} {x : α} {v : Value} (h : Reads w B (some ad) (xs.flatMap cl)) (hx : xs[k]? = some x) (j : Nat) (hv : (cl x)[j + 1]? = some v) : w.cell? ⟨(ad.add (k * m)).block, (ad.add (k * m)).off + (j + 1), none⟩ = some v := by
 rw [← add_far]
 exact reads_cell h (flat_at hm hx hv)
theorem el4 {cl : α → List Value} (hm : ∀ x, (cl x).length = 4) {w : World} {B k : Nat} {ad : Addr} {xs : List α} {x : α} {v0 v1 v2 v3 : Value} (h : Reads w B (some ad) (xs.flatMap cl)) (hx : xs[k]? = some x) (hc : cl x = [v0, v1, v2, v3]) : w.cell? (ad.add (k * 4)) = some v0 ∧ w.cell? ⟨(ad.add (k * 4)).block, (ad.add (k * 4)).off + 1, none⟩ = some v1 ∧ w.cell? ⟨(ad.add (k * 4)).block, (ad.add (k * 4)).off + 2, none⟩ = some v2 ∧ w.cell? ⟨(ad.add (k * 4)).block, (ad.add (k * 4)).off + 3, none⟩ = some v3 := ⟨el_first hm h hx (by rw [hc]; rfl), el_next hm h hx 0 (by rw [hc]; rfl), el_next hm h hx 1 (by rw [hc]; rfl), el_next hm h hx 2 (by rw [hc]; rfl)⟩
theorem rd_head {w : World} {B : Nat} {r : RowS} {ys : List RowS} (h : RowsRd w B (r :: ys)) : r.Rd w B := h r (List.mem_cons_self ..)
theorem rd_el {w : World} {B : Nat} {rw_ : α → List RowS} {xs : List α} (h : RowsRd w B (xs.flatMap rw_)) {k : Nat} {x : α} (hx : xs[k]? = some x) : RowsRd w B (rw_ x) := h.sub fun r hr => List.mem_flatMap.2 ⟨x, List.mem_of_getElem? hx, hr⟩
end

theorem list_of {α : Type} {P : Nat → α → Prop} : ∀ (n : Nat), (∀ i, i < n → ∃ f, P i f) → ∃ l : List α, l.length = n ∧ ∀ i (hi : i < l.length), P i l[i]
 | 0, _ => ⟨[], rfl, fun i hi => absurd hi (by simp)⟩
 | n + 1, h => by
  obtain ⟨l, hl, hp⟩ := list_of n (fun i hi => h i (by omega))
  obtain ⟨f, hf⟩ := h n (by omega)
  refine ⟨l ++ [f], by simp [hl], fun i hi => ?_⟩
  by_cases hlt : i < l.length
  ·
   rw [List.getElem_append_left hlt]; exact hp i hlt
  ·
   have e : i = n := by simp at hi; omega
   subst e
   rw [List.getElem_append_right (by omega)]
   simpa using hf
section
variable {H : Type} {enc : TypeId × Value → H} {W : World} {b : Nat} {sp : Nat → Bool} {hd : Bool} {α : Type}
end
end Go.Proofs.Ytojcdmgcbgpdmaa.V

namespace Go.Proofs.Ytojcdmgcbgpdmaa.V
open Go.ChangeShapes Go.WideShapes Go.ChangeAt Go.RowKit Mem Sl Sv Bag
open L5 (markT)
def cl_Field (z : L5.F) : List Value := [.string z.name, .int .i64 z.n]
def row_Field (a : Option Addr) (c : Nat) (xs : List L5.F) : RowS := ⟨128, 2, a, c, xs.length, xs.flatMap cl_Field⟩
def rws_Field (_ : List L5.F) : List RowS := []
def rs_Field (a : Option Addr) (c : Nat) (xs : List L5.F) : List RowS := row_Field a c xs :: rws_Field xs
section
variable {H : Type} {enc : TypeId × Value → H} {W : World} {b : Nat} {sp : Nat → Bool} {hd : Bool}
end
end Go.Proofs.Ytojcdmgcbgpdmaa.V

namespace Go.Proofs.Ytojcdmgcbgpdmaa.V
open Go.ChangeShapes Go.WideShapes Go.ChangeAt Go.RowKit Mem Sl Sv Bag
open L5 (markT)
structure LRecord where
 a : Option Addr
 c : Nat
 l : List L5.F
def rw_Record (z : LRecord) : List RowS := rs_Field z.a z.c z.l
section
variable {H : Type} {enc : TypeId × Value → H} {W : World} {b : Nat} {sp : Nat → Bool} {hd : Bool}
end
end Go.Proofs.Ytojcdmgcbgpdmaa.V

namespace Go.Proofs.Ytojcdmgcbgpdmaa.V
open Go.ChangeShapes Go.WideShapes Go.ChangeAt Go.RowKit Mem Sl Sv Bag
open L5 (markT)
def co_Item : L6.LI → L6.It := L6.LI.con
def coS_Item : List L6.LI → List L6.It := L6.conI
theorem coS_Item_eq (xs : List L6.LI) : coS_Item xs = xs.map co_Item := rfl
def cl_Item (z : L6.LI) : List Value := [.int .i64 z.k.kind, .int .i64 z.k.n, .string z.k.text, .slice z.a z.l.length z.c]
def vv_Item (z : L6.LI) : Value := .agg #[.int .i64 z.k.kind, .int .i64 z.k.n, .string z.k.text, .slice z.a z.l.length z.c]
def rw_Item (z : L6.LI) : List RowS := rw_Record (⟨z.a, z.c, z.l⟩ : LRecord)
theorem cl_Item_len (z : L6.LI) : (cl_Item z).length = 4 := rfl
def row_Item (a : Option Addr) (c : Nat) (xs : List L6.LI) : RowS := ⟨40, 4, a, c, xs.length, xs.flatMap cl_Item⟩
def rws_Item : List L6.LI → List RowS := L6.rowsI
theorem rws_Item_eq (xs : List L6.LI) : rws_Item xs = xs.flatMap rw_Item := by
 show xs.map L6.LI.row = _
 induction xs with
 | nil => rfl
 | cons x xs ih => rw [List.map_cons, ih]; rfl
def rs_Item (a : Option Addr) (c : Nat) (xs : List L6.LI) : List RowS := row_Item a c xs :: rws_Item xs
theorem rws_Item_app (xs ys : List L6.LI) : rws_Item (xs ++ ys) = rws_Item xs ++ rws_Item ys := by rw [rws_Item_eq, rws_Item_eq, rws_Item_eq, List.flatMap_append]
section
variable {H : Type} {enc : TypeId × Value → H} {W : World} {b : Nat} {sp : Nat → Bool} {hd : Bool}
end
end Go.Proofs.Ytojcdmgcbgpdmaa.V

namespace Go.Proofs.Ytojcdmgcbgpdmaa.V
open Go.ChangeShapes Go.WideShapes Go.ChangeAt Go.RowKit Mem Sl Sv Bag

theorem infoE_Item : ∃ i, Try.prog.info? 40 = some i ∧ i.zero = some (.agg #[.int .i64 0, .int .i64 0, .string ⟨#[]⟩, .slice none 0 0]) ∧ i.size = 4 ∧ i.bytes = 56 := Ex.infoOf _ _ _ _ (by kernel_rfl)
def Copied_Item (w : World) (x : L6.LI) (e : Ending) (w' : World) : Prop := ∃ y : L6.LI, e = .returned (vv_Item y) ∧ co_Item y = co_Item x ∧ BagOwn w' w.heap.size (rw_Item y) ∧ Below w.heap.size w w'
def CopiedS_Item (w : World) (xs : List L6.LI) (e : Ending) (w' : World) : Prop := ∃ (g : Nat) (ys : List L6.LI), e = .returned (.slice (some ⟨g, 0, none⟩) ys.length ys.length) ∧ coS_Item ys = coS_Item xs ∧ BagOwn w' w.heap.size (rs_Item (some ⟨g, 0, none⟩) ys.length ys) ∧ Below w.heap.size w w'
set_option maxHeartbeats 4000000 in
theorem copyEach_Item (hco : ∀ (x : L6.LI) (hf : L6.FitI (co_Item x)) (w : World) (hr : RowsRd w w.heap.size (rw_Item x)), Calls Try.prog 165 #[vv_Item x] w (Copied_Item w x))
  (a : Option Addr) (c : Nat) (xs : List L6.LI) (hl : xs.length ≤ 1048576) (hf : ∀ x ∈ xs, L6.FitI (co_Item x)) (w : World) (hr : Reads w w.heap.size a (xs.flatMap cl_Item)) (hx : RowsRd w w.heap.size (rws_Item xs)) :
  Calls Try.prog 164 #[.slice a xs.length c, .func (.func 165) #[] #[]] w (CopiedS_Item w xs) := by
 obtain ⟨i0, hi1, hi2, hi3, hi4⟩ := infoE_Item
 have HI := Lib.hid (And.intro hi1 (And.intro hi2 (And.intro hi3 hi4)))
 clear hi1 hi2 hi3 hi4
 have HR := Lib.hid (fun w' (h : Below w.heap.size w w') => hr.below h)
 have HX := Lib.hid (fun w' (h : Below w.heap.size w w') => (hx.below h).more h.size)
 have HF := Lib.hid hf
 have HCO := Lib.hid hco
 obtain ⟨N, hN⟩ : ∃ n, n = xs.length := ⟨_, rfl⟩
 rw [← hN] at hl ⊢
 have hl' : (N : Int) ≤ 1048576 := by omega
 have HN := Lib.hid hN
 clear hN hr hx hf hco
 obtain ⟨Z, hZ⟩ : ∃ Z, Z = (madeCells (Value.agg #[.int .i64 0, .int .i64 0, .string ⟨#[]⟩, .slice none 0 0]).cells (N * 4)).toList := ⟨_, rfl⟩
 have HZ := Lib.hid (show Z.length = N * 4 by rw [hZ]; simp [madeCells])
 have HZD := Lib.hid hZ
 clear hZ
 have S1 := Lib.hid (show Sl.Sep w w [] from Sl.Sep.start w)
 go_enter Try.func164, Try.ntmps164
 go_upto_region 2 with (at_make; refine Run.wpList_make_s S1.out rfl _ _ 24 rfl 40 i0 (.agg #[.int .i64 0, .int .i64 0, .string ⟨#[]⟩, .slice none 0 0]) 4 Try.underlying24 HI.out.1 HI.out.2.1 HI.out.2.2.1 _ _ N rfl rfl (by rw [HI.out.2.2.2]; omega) (by unfold maxLen; omega) ?_; intro w1 S')
 obtain ⟨g1, hg⟩ : ∃ g', g' = w.heap.size := ⟨_, rfl⟩
 rw [← hg] at S' ⊢
 clear hg
 have S2 := Lib.hid (show Sl.Sep w _ [Sv.ownV 40 4 (some ⟨g1, 0, none⟩) N N (([] : List L6.LI).flatMap cl_Item ++ Z)] from (by have h := S'; rw [← HZD.out] at h; exact h))
 clear S1
 clear S'
 have S3 := Lib.hid (show Sl.Sep w _ [_, Bag.bag (rws_Item [])] from Bag.push_bag S2.out (Below.refl _ _) (by rw [rws_Item_eq]; exact Bag.BagOwn.nil _ _))
 clear S2
 go_wp2_with fail
 go_loopw [13] (fun i wr => ∃ (k : Nat) (ys : List L6.LI) (Zs : List Value), k ≤ N ∧ i = .int .i64 k ∧ Hid ((ys.map co_Item = (xs.take k).map co_Item ∧ ys.length = k ∧ Zs.length = (N - k) * 4) ∧ Sl.Sep w wr [Sv.ownV 40 4 (some ⟨g1, 0, none⟩) N N (ys.flatMap cl_Item ++ Zs), Bag.bag (rws_Item ys)])) (fun i _ => N - (intOf i).toNat)
 case atStart => exact ⟨0, [], Z, Nat.zero_le _, rfl, And.intro ⟨rfl, rfl, HZ.out⟩ S3.out⟩
 case round =>
  obtain ⟨k, ys, Zs, hk, rfl, hrel⟩ := hrel
  have HC := Lib.hid hrel.out.1
  have S4 := Lib.hid hrel.out.2
  clear hrel S3
  by_cases hlt : (k : Int) < (N : Int)
  ·
   skip
   have hkl : k < xs.length := by have := HN.out; omega
   obtain ⟨x, hx⟩ : ∃ x, xs[k]? = some x := ⟨_, List.getElem?_eq_getElem hkl⟩
   obtain ⟨ad, e'⟩ := el_some cl_Item_len (by decide) (HR.out _ S4.out.old) hkl
   subst e'
   have HK := Lib.hid (fun w' (h : Below w.heap.size w w') => el4 cl_Item_len (HR.out _ h) hx rfl)
   have HTX := Lib.hid (take_next hx)
   have HL := Lib.hid (show (ys.flatMap cl_Item).length = k * 4 ∧ k * 4 + 4 ≤ (ys.flatMap cl_Item ++ Zs).length ∧ 4 ≤ Zs.length from by have h1 := HC.out.2.1; have h2 := HC.out.2.2; rw [List.length_append, flat_len cl_Item_len, h1, h2]; omega)
   have HCI := Lib.hid (fun w' (h : Below w.heap.size w w') => HCO.out x (HF.out x (List.mem_of_getElem? hx)) w' (rd_el (rw_ := rw_Item) (by rw [← rws_Item_eq]; exact HX.out w' h) hx))
   dsimp only [vv_Item] at HCI
   clear hx
   obtain ⟨f0, f1, f2, f3⟩ := HK.out _ S4.out.old
   go_upto_region 5 with fail
   clear f0 f1 f2 f3
   have S5 := Lib.hid (show Sl.Sep w _ [_, _, _] from L4.push_box S4.out 40 #[.int .i64 x.k.kind, .int .i64 x.k.n, .string x.k.text, .slice x.a x.l.length x.c] wr.heap.size rfl)
   clear S4
   obtain ⟨g2, hg⟩ : ∃ g', g' = wr.heap.size := ⟨_, rfl⟩
   rw [← hg] at S5 ⊢
   clear hg
   generalize wr.alloc (.cells #[.int .i64 x.k.kind, .int .i64 x.k.n, .string x.k.text, .slice x.a x.l.length x.c] 40) = w2 at S5 ⊢
   obtain ⟨f0, f1, f2, f3⟩ := Bag.cs4 S5.out 2 rfl
   obtain ⟨f4, f5, f6, f7⟩ := HK.out _ S5.out.old
   go_wp2_with fail
   go_at_call 165
   refine (HCI.out _ S5.out.old).mono ?_
   rintro e w3 ⟨y, rfl, hcy, ho, hb⟩
   clear f0 f1 f2 f3 f4 f5 f6 f7
   have S6 := Lib.hid (show Sl.Sep w _ [_, _, L4.boxR g2 40 #[.int .i64 x.k.kind, .int .i64 x.k.n, .string x.k.text, .slice x.a x.l.length x.c], Bag.bag (rw_Item y)] from Bag.push_bag S5.out hb ho)
   clear S5
   clear hb ho
   have HCY := Lib.hid hcy
   clear hcy
   try dsimp only [vv_Item]
   have q0 := (Sv.own_at S6.out 0 rfl).cell (k * 4) (by have := HL.out.2.1; omega)
   have z0 := (Sv.own_at S6.out 0 rfl).free (k * 4)
   have q1 := (Sv.own_at S6.out 0 rfl).cell (k * 4 + 1) (by have := HL.out.2.1; omega)
   have z1 := (Sv.own_at S6.out 0 rfl).free (k * 4 + 1)
   have q2 := (Sv.own_at S6.out 0 rfl).cell (k * 4 + 2) (by have := HL.out.2.1; omega)
   have z2 := (Sv.own_at S6.out 0 rfl).free (k * 4 + 2)
   have q3 := (Sv.own_at S6.out 0 rfl).cell (k * 4 + 3) (by have := HL.out.2.1; omega)
   have z3 := (Sv.own_at S6.out 0 rfl).free (k * 4 + 3)
   go_wp2_with fail
   clear q0 z0 q1 z1 q2 z2 q3 z3
   have S7 := Lib.hid (show Sl.Sep w (World.setCells w3 g1 (k * 4) [.int .i64 y.k.kind, .int .i64 y.k.n, .string y.k.text, .slice y.a y.l.length y.c]) [Sv.ownV 40 4 (some ⟨g1, 0, none⟩) N N ((ys ++ [y]).flatMap cl_Item ++ Zs.drop 4), Bag.bag (rws_Item ys), L4.boxR g2 40 #[.int .i64 x.k.kind, .int .i64 x.k.n, .string x.k.text, .slice x.a x.l.length x.c], Bag.bag (rw_Item y)] from (by have h := Run.put_run S6.out 0 rfl (k * 4) [.int .i64 y.k.kind, .int .i64 y.k.n, .string y.k.text, .slice y.a y.l.length y.c] (by have := HL.out.2.1; simpa using this); rw [Run.over_at _ _ _ _ HL.out.1 (by have := HL.out.2.2; simpa using this)] at h; rw [List.flatMap_append, List.append_assoc]; exact h))
   clear S6
   have S8 := Lib.hid (show Sl.Sep w _ [Sv.ownV 40 4 (some ⟨g1, 0, none⟩) N N ((ys ++ [y]).flatMap cl_Item ++ Zs.drop 4), Bag.bag (rws_Item ys ++ (rw_Item y)), L4.boxR g2 40 #[.int .i64 x.k.kind, .int .i64 x.k.n, .string x.k.text, .slice x.a x.l.length x.c], Bag.bag ([])] from Bag.bag_join S7.out 1 3 (by decide) rfl rfl)
   clear S7
   have S9 := Lib.hid (show Sl.Sep w _ [_, _] from Bag.take S8.out [0, 1] (by rfl) (by decide))
   clear S8
   go_roundw
   case rel =>
    refine ⟨k + 1, ys ++ [y], Zs.drop 4, by omega, by go_num, And.intro ⟨?_, ?_, ?_⟩ ?_⟩
    ·
     rw [HTX.out, List.map_append, List.map_append, HC.out.1]; rw [show [y].map co_Item = [x].map co_Item from congrArg (fun u => [u]) HCY.out]
    ·
     rw [List.length_append, HC.out.2.1]; rfl
    ·
     rw [List.length_drop, HC.out.2.2]; omega
    ·
     rw [rws_Item_app]; rw [show rws_Item [y] = rw_Item y from by rw [rws_Item_eq]; simp]; exact S9.out
   case measure => simp [intOf]; omega
  ·
   skip
   obtain rfl : k = N := by omega
   go_wp2_with fail
   go_ret
   obtain ⟨hc1, hc2, hc3⟩ := HC.out
   have hZs : Zs = [] := List.eq_nil_of_length_eq_zero (by rw [hc3]; omega)
   have hcon : ys.map co_Item = xs.map co_Item := by rw [hc1, List.take_of_length_le (by have := HN.out; omega)]
   have S90 := Lib.hid (Bag.bag_of_one S4.out 0 (r := row_Item (some ⟨g1, 0, none⟩) k ys) (by unfold RowS.res row_Item; dsimp only; rw [hZs, List.append_nil, hc2]; rfl))
   have S91 := Lib.hid (Bag.bag_join S90.out 0 1 (by decide) rfl rfl)
   have hb := Bag.bag_from S91.out 0 rfl
   subst hc2
   exact ⟨_, ys, rfl, by rw [coS_Item_eq, coS_Item_eq]; exact hcon, hb, S91.out.old⟩
end Go.Proofs.Ytojcdmgcbgpdmaa.V

set_option linter.unusedSimpArgs false
namespace Go.Proofs.Ytojcdmgcbgpdmaa.L6
open L4 (K isK cmpK R inR encU)
open L5 (F isR isN cellsF encR eqR Small)
open Go.ChangeShapes Go.WideShapes Go.ChangeAt Go.RowKit Mem Sl Ex L2 Sv Bag

set_option maxHeartbeats 2000000 in
theorem copyItem_any (kd n : Int) (s : ByteArray) (a : Option Addr) (c : Nat) (l : List F) (hl : l.length ≤ 1048576) (w : World) (hr : Reads w w.heap.size a (cellsF l)) :
  Calls Try.prog 165 #[.agg #[.int .i64 kd, .int .i64 n, .string s, .slice a l.length c]] w (GaveI w ⟨⟨kd, n, s⟩, l⟩) := by
 have HC := Lib.hid (fun w' (h : Below w.heap.size w w') => L5.copyRecord_any a c l (by have := hl; omega) w' ((hr.below h).more h.size))
 obtain ⟨N, hN⟩ : ∃ n, n = l.length := ⟨_, rfl⟩
 rw [← hN] at HC ⊢
 have HN := Lib.hid hN
 clear hN hr hl
 have S1 := Lib.hid (show Sl.Sep w _ [_, _] from L4.push_box (L4.push_box (Sl.Sep.start w) 40 #[.int .i64 kd, .int .i64 n, .string s, .slice a N c] (w.heap.size) (by simp)) 40 #[.int .i64 0, .int .i64 0, .string ⟨#[]⟩, .slice none 0 0] (w.heap.size + 1) (by simp))
 obtain ⟨wa, hwa⟩ : ∃ w_, w_ = ((w.alloc (.cells #[.int .i64 kd, .int .i64 n, .string s, .slice a N c] 40)).alloc (.cells #[.int .i64 0, .int .i64 0, .string ⟨#[]⟩, .slice none 0 0] 40)) := ⟨_, rfl⟩
 rw [← hwa] at S1
 go_enter Try.func165, Try.ntmps165
 go_upto_region 1 with fail
 rw [← hwa]
 clear hwa
 go_upto_region 1 with fail
 refine wp_region_held_drew (S := (fun w' => (w'.cell? ⟨w.heap.size, 0, none⟩ = some (.int .i64 kd) ∧ w'.cell? ⟨w.heap.size, 1, none⟩ = some (.int .i64 n) ∧ w'.cell? ⟨w.heap.size, 2, none⟩ = some (.string s) ∧ w'.cell? ⟨w.heap.size, 3, none⟩ = some (.slice a N c)))) (by kernel_rfl) (Bag.cs4 (Bag.drew1 S1.out) 0 rfl) (fun hS => ?_)
 have S2 := Lib.hid (Bag.drew1 S1.out)
 clear S1
 generalize World.drew _ = w1 at hS S2 ⊢
 refine tk 0 rfl ?_
 try simp only [zp0, zp1, zp2, zp3, zp4]
 refine tk 1 rfl ?_
 try simp only [zp0, zp1, zp2, zp3, zp4]
 refine tk 2 rfl ?_
 try simp only [zp0, zp1, zp2, zp3, zp4]
 refine tk 3 rfl ?_
 try simp only [zp0, zp1, zp2, zp3, zp4]
 refine Reg.one_op (i := 4) rfl (by kernel_rfl) (fun K hK => ?_)
 go_simp
 go_at_call 81
 refine (HC.out _ S2.out.old).mono ?_
 rintro e w2 ⟨a1, c1, rfl, ho, hb⟩
 have S3 := Lib.hid (show Sl.Sep w _ [_, _, Sv.ownV 128 2 a1 c1 N (cellsF l)] from Sv.push_own S2.out hb ho)
 clear S2
 clear hb ho
 go_wp2_with fail
 refine hK.out _ _ (Bag.cs4 S3.out 0 rfl) (fun hS => ?_)
 clear hK K
 try simp only [zp0, zp1, zp2, zp3, zp4]
 refine tk 5 rfl ?_
 try simp only [zp0, zp1, zp2, zp3, zp4]
 refine Reg.one_op (i := 6) rfl (by kernel_rfl) (fun K hK => ?_)
 obtain ⟨f0, f1, f2, f3⟩ := Bag.cs4 S3.out 1 rfl
 obtain ⟨z0, z1, z2, z3⟩ := Bag.fs4 S3.out 1 rfl
 go_simp
 clear f0 f1 f2 f3 z0 z1 z2 z3
 have S4 := Lib.hid (show Sl.Sep w _ [_, L4.boxR (w.heap.size + 1) 40 #[.int .i64 kd, .int .i64 n, .string s, .slice a1 N c1], _] from L5.put_box5 (L5.put_box5 (L5.put_box5 (L5.put_box5 (S3.out) 1 rfl 0 (.int .i64 kd)) 1 rfl 1 (.int .i64 n)) 1 rfl 2 (.string s)) 1 rfl 3 (.slice a1 N c1))
 clear S3
 refine hK.out _ _ (Bag.cs4 S4.out 0 rfl) (fun hS => ?_)
 clear hK K
 try simp only [zp0, zp1, zp2, zp3, zp4]
 refine wpAnyH_done (by kernel_rfl) ?_ _
 obtain ⟨f0, f1, f2, f3⟩ := Bag.cs4 S4.out 0 rfl
 obtain ⟨f4, f5, f6, f7⟩ := Bag.cs4 S4.out 1 rfl
 go_wp2_with fail
 refine bodyPost_ret (v := .agg #[.int .i64 kd, .int .i64 n, .string s, .slice a1 N c1]) (by simp [results, Try.results165, go_sem, *]) rfl ?_
 have hb := Bag.bag_from (Bag.bag_of_one S4.out 2 (r := (LI.mk ⟨kd, n, s⟩ a1 c1 l).row) (by show some _ = some _; rw [HN.out]; rfl)) 2 rfl
 exact ⟨a1, c1, by rw [HN.out], hb, S4.out.old⟩
theorem copyItem_V (x : LI) (hf : FitI (V.co_Item x)) (w : World) (hr : RowsRd w w.heap.size (V.rw_Item x)) : Calls Try.prog 165 #[V.vv_Item x] w (V.Copied_Item w x) :=
 (copyItem_any x.k.kind x.k.n x.k.text x.a x.c x.l hf.len w (V.rd_head hr).reads).mono fun e w' ⟨a, c, he, ho, hb⟩ => ⟨⟨x.k, a, c, x.l⟩, he, rfl, ho, hb⟩
def GaveSF (w : World) (s : S6) (e : Ending) (w' : World) : Prop :=
 ∃ (g : Nat) (ys : List LI), e = .returned (.agg #[.string s.name, .slice (some ⟨g, 0, none⟩) ys.length ys.length, .int .i64 s.auto]) ∧ conI ys = s.items ∧ BagOwn w' w.heap.size (rowI (some ⟨g, 0, none⟩) ys.length ys :: rowsI ys) ∧ Below w.heap.size w w'

set_option maxHeartbeats 4000000 in
theorem copyStore_full (y : LS) (hf : FitS y.con) (w : World) (hr : RowsRd w w.heap.size y.rows) :
  Calls Try.prog 80 #[y.v] w (GaveSF w y.con) := by
 have HCE := Lib.hid (fun w' (h : Below w.heap.size w w') => V.copyEach_Item copyItem_V y.a y.c y.xs (by have h := hf.len; simpa [LS.con] using h) (fun x hx => hf.items _ (by unfold LS.con conI; exact List.mem_map.2 ⟨x, hx, rfl⟩)) w' (show Reads _ _ _ (y.xs.flatMap V.cl_Item) from ((LS.outer (hr.below h)).more h.size)) (show RowsRd _ _ (V.rws_Item y.xs) from (LS.inner (hr.below h)).more h.size))
 obtain ⟨name, a, c, xs, auto⟩ := y
 have HR := Lib.hid (fun w' (h : Below w.heap.size w w') => LS.outer (hr.below h))
 have HX := Lib.hid (fun w' (h : Below w.heap.size w w') => (LS.inner (hr.below h)).more h.size)
 have HF := Lib.hid hf.items
 have HNM := Lib.hid hf.name
 have hl := hf.len
 simp only [LS.con, conI_length] at hl
 dsimp only [LS.con] at HR HX HF HNM
 first | unfold LS.v LS.cells LS.con | unfold LS.v LS.cells | skip
 try dsimp only
 obtain ⟨N, hN⟩ : ∃ n, n = xs.length := ⟨_, rfl⟩
 rw [← hN] at hl ⊢
 have hl' : (N : Int) ≤ 1048576 := by omega
 have HN := Lib.hid hN
 clear hN hr hf
 rw [← HN.out] at HCE
 replace HCE := Lib.hid HCE.out
 have S1 := Lib.hid (show Sl.Sep w _ [_, _] from L4.push_box (L4.push_box (Sl.Sep.start w) 26 #[.string name, .slice a N c, .int .i64 auto] (w.heap.size) (by simp)) 26 #[.string ⟨#[]⟩, .slice none 0 0, .int .i64 0] (w.heap.size + 1) (by simp))
 obtain ⟨wa, hwa⟩ : ∃ w_, w_ = ((w.alloc (.cells #[.string name, .slice a N c, .int .i64 auto] 26)).alloc (.cells #[.string ⟨#[]⟩, .slice none 0 0, .int .i64 0] 26)) := ⟨_, rfl⟩
 rw [← hwa] at S1
 go_enter Try.func80, Try.ntmps80
 go_upto_region 1 with fail
 rw [← hwa]
 clear hwa
 go_upto_region 1 with fail
 refine wp_region_held_drew (S := (fun w' => (w'.cell? ⟨w.heap.size, 0, none⟩ = some (.string name) ∧ w'.cell? ⟨w.heap.size, 1, none⟩ = some (.slice a N c) ∧ w'.cell? ⟨w.heap.size, 2, none⟩ = some (.int .i64 auto)))) (by kernel_rfl) (Bag.cs3 (Bag.drew1 S1.out) 0 rfl) (fun hS => ?_)
 have S2 := Lib.hid (Bag.drew1 S1.out)
 clear S1
 generalize World.drew _ = w1 at hS S2 ⊢
 refine tk 0 rfl ?_
 try simp only [zp0, zp1, zp2, zp3, zp4]
 refine tk 1 rfl ?_
 try simp only [zp0, zp1, zp2, zp3, zp4]
 refine tk 2 rfl ?_
 try simp only [zp0, zp1, zp2, zp3, zp4]
 refine tk 3 rfl ?_
 try simp only [zp0, zp1, zp2, zp3, zp4]
 refine tk 5 rfl ?_
 try simp only [zp0, zp1, zp2, zp3, zp4]
 refine tk 6 rfl ?_
 try simp only [zp0, zp1, zp2, zp3, zp4]
 refine Reg.one_op (i := 4) rfl (by kernel_rfl) (fun K hK => ?_)
 go_simp
 go_at_call 164
 refine (HCE.out _ S2.out.old).mono ?_
 rintro e w2 ⟨g1, ys, rfl, hcy, ho, hb⟩
 have S3 := Lib.hid (show Sl.Sep w _ [_, _, Bag.bag (V.rs_Item (some ⟨g1, 0, none⟩) ys.length ys)] from Bag.push_bag S2.out hb ho)
 clear S2
 clear hb ho
 have HCY := Lib.hid hcy
 clear hcy
 go_wp2_with fail
 refine hK.out _ _ (Bag.cs3 S3.out 0 rfl) (fun hS => ?_)
 clear hK K
 try simp only [zp0, zp1, zp2, zp3, zp4]
 refine tk 7 rfl ?_
 try simp only [zp0, zp1, zp2, zp3, zp4]
 refine Reg.one_op (i := 8) rfl (by kernel_rfl) (fun K hK => ?_)
 obtain ⟨f0, f1, f2⟩ := Bag.cs3 S3.out 1 rfl
 obtain ⟨z0, z1, z2⟩ := Bag.fs3 S3.out 1 rfl
 go_simp
 clear f0 f1 f2 z0 z1 z2
 have S4 := Lib.hid (show Sl.Sep w _ [_, L4.boxR (w.heap.size + 1) 26 #[.string name, .slice (some ⟨g1, 0, none⟩) ys.length ys.length, .int .i64 auto], _] from L5.put_box5 (L5.put_box5 (L5.put_box5 (S3.out) 1 rfl 0 (.string name)) 1 rfl 1 (.slice (some ⟨g1, 0, none⟩) ys.length ys.length)) 1 rfl 2 (.int .i64 auto))
 clear S3
 refine hK.out _ _ (Bag.cs3 S4.out 0 rfl) (fun hS => ?_)
 clear hK K
 try simp only [zp0, zp1, zp2, zp3, zp4]
 refine wpAnyH_done (by kernel_rfl) ?_ _
 obtain ⟨f0, f1, f2⟩ := Bag.cs3 S4.out 0 rfl
 obtain ⟨f3, f4, f5⟩ := Bag.cs3 S4.out 1 rfl
 go_wp2_with fail
 refine bodyPost_ret (v := .agg #[.string name, .slice (some ⟨g1, 0, none⟩) ys.length ys.length, .int .i64 auto]) (by simp [results, Try.results80, go_sem, *]) rfl ?_
 exact ⟨g1, ys, rfl, HCY.out, Bag.bag_from S4.out 2 rfl, S4.out.old⟩
end Go.Proofs.Ytojcdmgcbgpdmaa.L6

namespace Go.Proofs.Ytojcdmgcbgpdmaa.L6
open L4 (K isK cmpK R inR encU)
open L5 (F isR isN cellsF encR eqR Small)
open Go.ChangeShapes Go.WideShapes Go.ChangeAt Go.RowKit Mem Sl Ex L2 Sv Bag

def ixP (f : It → Bool) (xs : List It) : Int := match xs.findIdx? f with
 | some i => i
 | none => -1
theorem ixP_at {f : It → Bool} {xs : List It} (i : Nat) (x : It) (hx : xs[i]? = some x) (h : f x = true) (ha : ∀ j (hj : j < xs.length), j < i → f xs[j] = false) : ixP f xs = i := by
 obtain ⟨hi, rfl⟩ := List.getElem?_eq_some_iff.1 hx
 unfold ixP
 rw [show xs.findIdx? f = some i from by
  rw [List.findIdx?_eq_some_iff_getElem]
  exact ⟨hi, h, fun j hj => by rw [ha j (by omega) hj]; simp⟩]
theorem ixP_none {f : It → Bool} {xs : List It} (ha : ∀ j (hj : j < xs.length), f xs[j] = false) : ixP f xs = -1 := by
 unfold ixP
 rw [show xs.findIdx? f = none from by
  rw [List.findIdx?_eq_none_iff]
  intro x hx
  obtain ⟨j, hj, rfl⟩ := List.getElem_of_mem hx
  exact ha j hj]
def Tests (Fn g : Nat) (f : It → Bool) (xs : List LI) (w : World) : Prop :=
 ∀ x ∈ xs, ∀ w', Below w.heap.size w w' → Calls Try.prog Fn #[.agg #[.int .i64 x.k.kind, .int .i64 x.k.n, .string x.k.text, .slice x.a x.l.length x.c], .pointer (some ⟨g, 0, none⟩)] w' fun e w'' => e = .returned (.bool (f x.con)) ∧ Below w'.heap.size w' w''

set_option maxHeartbeats 2000000 in
theorem indexFuncB_any (g : Nat) (f : It → Bool) (a : Option Addr) (c : Nat) (xs : List LI) (hl : xs.length ≤ 1048576) (w : World) (hr : Reads w w.heap.size a (cellsI xs)) (hp : Tests 105 g f xs w) :
  Calls Try.prog 92 #[.slice a xs.length c, .func (.func 105) #[] #[.pointer (some ⟨g, 0, none⟩)]] w fun e w' => e = .returned (.int .i64 (ixP f (conI xs))) ∧ Below w.heap.size w w' := by
 have HR := Lib.hid (fun w' (h : Below w.heap.size w w') => hr.below h)
 have HP := Lib.hid hp
 obtain ⟨N, hN⟩ : ∃ n, n = xs.length := ⟨_, rfl⟩
 rw [← hN] at hl ⊢
 have hl' : (N : Int) ≤ 1048576 := by omega
 have HN := Lib.hid hN
 clear hN hr hp
 have S1 := Lib.hid (show Sl.Sep w w [] from Sl.Sep.start w)
 go_enter Try.func92, Try.ntmps92
 go_wp2_with fail
 go_loopw [8] (fun i wr => ∃ k : Nat, k ≤ N ∧ i = .int .i64 k ∧ Hid ((∀ j (hj : j < (conI xs).length), j < k → f (conI xs)[j] = false) ∧ Sl.Sep w wr [])) (fun i _ => N - (intOf i).toNat)
 case atStart => exact ⟨0, Nat.zero_le _, rfl, And.intro (fun j hj h => absurd h (by omega)) S1.out⟩
 case round =>
  obtain ⟨k, hk, rfl, hrel⟩ := hrel
  have HA := Lib.hid hrel.out.1
  have S2 := Lib.hid hrel.out.2
  clear hrel S1
  by_cases hlt : (k : Int) < (N : Int)
  ·
   skip
   have hkl : k < xs.length := by have := HN.out; omega
   obtain ⟨ad, x, rfl, hx⟩ := readsI_some (HR.out _ S2.out.old) k hkl
   have HC := Lib.hid (show (conI xs)[k]? = some x.con from con_of hx)
   have HPX := Lib.hid (fun w' (h : Below w.heap.size w w') => HP.out x (List.mem_of_getElem? hx) w' h)
   obtain ⟨⟨kd, n, t⟩, ia, ic, l⟩ := x
   have HK := Lib.hid (fun w' (h : Below w.heap.size w w') => readsI_at (HR.out _ h) k _ hx)
   try dsimp only at HK HPX
   clear hx
   obtain ⟨b, hb⟩ : ∃ b, f (LI.mk ⟨kd, n, t⟩ ia ic l).con = b := ⟨_, rfl⟩
   rw [hb] at HPX
   have HB := Lib.hid hb
   clear hb
   obtain ⟨f0, f1, f2, f3⟩ := HK.out _ S2.out.old
   go_wp2_with fail
   go_at_call 105
   refine (HPX.out _ S2.out.old).mono ?_
   rintro e w3 ⟨rfl, hb⟩
   clear f0 f1 f2 f3
   have S3 := Lib.hid (S2.out.keep hb)
   clear S2
   clear hb
   cases b with
   | true =>
    go_wp2_with fail
    go_ret
    exact ⟨by rw [ixP_at k _ HC.out HB.out HA.out]; rfl, S3.out.old⟩
   | false =>
    go_wp2_with fail
    go_roundw
    case rel => exact ⟨k + 1, by omega, by go_num, And.intro (fun j hj h => by
     by_cases e : j < k
     ·
      exact HA.out j hj e
     ·
      obtain rfl : j = k := by omega
      rw [(List.getElem?_eq_some_iff.1 HC.out).2]; exact HB.out) S3.out⟩
    case measure => simp [intOf]; omega
  ·
   skip
   go_wp2_with fail
   go_ret
   obtain rfl : k = N := by omega
   exact ⟨by rw [ixP_none (fun j hj => HA.out j hj (by have := HN.out; rw [conI_length] at hj; omega))]; rfl, S2.out.old⟩
end Go.Proofs.Ytojcdmgcbgpdmaa.L6

namespace Go.Proofs.Ytojcdmgcbgpdmaa.L4
open Go.ChangeShapes Go.WideShapes Go.ChangeAt Go.RowKit Mem Sl Ex L2
def isLet (c : UInt8) : Bool := decide (97 ≤ c.toNat) && decide (c.toNat ≤ 122)
theorem isLetter_any (c : UInt8) (w : World) :
    Calls Try.prog 170 #[.int .u8 c.toNat] w fun e w' => e = .returned (.bool (isLet c)) ∧ w = w' := by
  by_cases h1 : (97 : Int) ≤ c.toNat <;> by_cases h2 : (c.toNat : Int) ≤ 122 <;>
    (go_enter Try.func170, Try.ntmps170
     go_wp2
     go_ret
     exact ⟨L1.ret_bool (by unfold isLet; have h1' := h1; have h2' := h2; simp only [Bool.false_eq, Bool.true_eq, Bool.and_eq_false_iff, Bool.and_eq_true, decide_eq_false_iff_not, decide_eq_true_eq]; omega), rfl⟩)
end Go.Proofs.Ytojcdmgcbgpdmaa.L4

namespace Go.Proofs.Ytojcdmgcbgpdmaa.L5
open Go.Op (bytesLess)
open Go.ChangeShapes Go.WideShapes Go.ChangeAt Go.RowKit Mem Sl Ex L2 Sv

theorem low_isLet (c : UInt8) : L4.isLet c = low c := rfl
theorem isName_any (s : ByteArray) (hs : s.size ≤ 281474976710656) (w : World) :
  Calls Try.prog 97 #[.string s] w fun e w' => e = .returned (.bool (isN s.data.toList)) ∧ w = w' := by
 have hsz : s.data.toList.length = s.size := by rw [Array.length_toList]; rfl
 have HZ := Lib.hid hsz
 clear hsz
 have HI := Lib.hid (fun w => L1.inRange_any (s.size : Int) 1 8 w)
 have HS := Lib.hid (show L1.inB (s.size : Int) 1 8 = false → isN s.data.toList = false from fun h => by
  unfold isN
  rw [Bool.and_eq_false_iff]
  right
  rw [HZ.out, ← h]
  unfold L1.inB
  congr 1 <;> (rw [decide_eq_decide]; omega))
 obtain ⟨bi, hbi⟩ : ∃ b, L1.inB (s.size : Int) 1 8 = b := ⟨_, rfl⟩
 rw [hbi] at HI HS
 have HB0 := Lib.hid hbi
 clear hbi
 cases bi with
 | false =>
  replace HS := Lib.hid (HS.out rfl)
  go_enter Try.func97, Try.ntmps97
  go_wp2_with (go_at_call 98; refine (HI.out _).mono ?_; rintro e w1 ⟨rfl, rfl⟩)
  go_ret
  exact ⟨by rw [HS.out]; rfl, rfl⟩
 | true =>
  go_enter Try.func97, Try.ntmps97
  go_wp2_with (go_at_call 98; refine (HI.out _).mono ?_; rintro e w1 ⟨rfl, rfl⟩)
  go_loop [10] (fun i => ∃ k : Nat, k ≤ s.size ∧ i = .int .i64 k ∧ Hid (∀ j (hj : j < s.data.toList.length), j < k → low s.data.toList[j] = true)) (fun i => s.size - (intOf i).toNat)
  case atStart => exact ⟨0, Nat.zero_le _, rfl, fun j hj h => by omega⟩
  case round =>
   obtain ⟨k, hk, rfl, hrel⟩ := hrel
   by_cases hlt : k < s.size
   ·
    have hb : s.data.toList[k]? = some s[k] := by
     rw [List.getElem?_eq_getElem (by rw [HZ.out]; exact hlt)]
     rfl
    have HB := Lib.hid hb
    clear hb
    have H1 := Lib.hid (fun w => L4.isLetter_any s[k] w)
    obtain ⟨bl, hbl⟩ : ∃ b, L4.isLet s[k] = b := ⟨_, rfl⟩
    rw [hbl] at H1
    rw [low_isLet] at hbl
    have HL := Lib.hid hbl
    clear hbl
    cases bl with
    | true =>
     go_wp2_with (go_at_call 170; refine (H1.out _).mono ?_; rintro e w1 ⟨rfl, rfl⟩)
     go_round
     case rel => exact ⟨k + 1, by omega, by go_num, fun j hj h => by
       by_cases e : j < k
       ·
        exact hrel.out j hj e
       ·
        obtain rfl : j = k := by omega
        have := HB.out
        rw [List.getElem?_eq_getElem hj] at this
        rw [Option.some.inj this]
        exact HL.out⟩
     case measure => simp [intOf]; omega
    | false =>
     go_wp2_with (go_at_call 170; refine (H1.out _).mono ?_; rintro e w1 ⟨rfl, rfl⟩)
     go_ret
     exact ⟨by rw [isN_no k _ HB.out HL.out]; rfl, rfl⟩
   ·
    go_wp2_with fail
    go_ret
    obtain rfl : k = s.size := by omega
    have e1 := isN_all (fun j hj => hrel.out j hj (by rw [HZ.out] at hj; exact hj))
    rw [HZ.out, HB0.out] at e1
    exact ⟨by rw [e1]; rfl, rfl⟩

end Go.Proofs.Ytojcdmgcbgpdmaa.L5

set_option linter.unusedSimpArgs false
namespace Go.Proofs.Ytojcdmgcbgpdmaa.L5
open Go.Op (bytesLess)
open L4 (boxR push_box box_at)
open Go.ChangeShapes Go.WideShapes Go.ChangeAt Go.RowKit Mem Sl Ex L2 Sv

theorem isR_long {l : List F} (h : ¬ l.length ≤ 6) : isR l = false := by
 unfold isR
 rw [Bool.and_eq_false_iff]
 exact .inr (decide_eq_false h)
theorem Row.two {w : World} {g : Nat} {t : TypeId} {x y : Value} (h : Row w g t #[x, y]) : w.cell? ⟨g, 0, none⟩ = some x ∧ w.cell? ⟨g, 1, none⟩ = some y := ⟨by rw [h.cell]; rfl, by rw [h.cell]; rfl⟩
set_option maxHeartbeats 4000000 in
theorem isRecord_any (a : Option Addr) (c : Nat) (l : List F) (hl : l.length ≤ 1099511627776) (hsm : Small l) (w : World) (hr : Reads w w.heap.size a (cellsF l)) :
  Calls Try.prog 100 #[.agg #[.slice a l.length c]] w fun e w' => e = .returned (.bool (isR l)) ∧ Below w.heap.size w w' := by
 have HR := Lib.hid (fun w' (h : Below w.heap.size w w') => hr.below h)
 obtain ⟨n, hn⟩ : ∃ n, n = l.length := ⟨_, rfl⟩
 rw [← hn]
 rw [← hn] at hl
 have HN := Lib.hid hn
 have HS := Lib.hid hsm
 clear hn hr hsm
 have hl' : (n : Int) ≤ 1099511627776 := by omega
 have S1 := Lib.hid (push_box (Sep.start w) 31 #[.slice a n c] w.heap.size rfl)
 obtain ⟨W1, hW1⟩ : ∃ u, u = w.alloc (.cells #[.slice a n c] 31) := ⟨_, rfl⟩
 rw [← hW1] at S1
 go_enter Try.func100, Try.ntmps100
 go_upto_region 1 with fail
 rw [← hW1]
 clear hW1
 obtain ⟨r0, r1⟩ := Row.one (box_at S1.out 0 rfl)
 by_cases h6 : (n : Int) ≤ 6
 rotate_left
 ·
  have HX := Lib.hid (isR_long (l := l) (by have := HN.out; omega))
  have h6' : (6 : Int) < (n : Int) := by omega
  go_wp2_with fail
  go_ret
  exact ⟨by rw [HX.out]; rfl, S1.out.old⟩
 go_wp2_with fail
 go_loopw [12] (fun i wr => ∃ k : Nat, k ≤ n ∧ i = .int .i64 k ∧ Hid (okTo l k ∧ Sep w wr [boxR w.heap.size 31 #[.slice a n c]])) (fun i _ => n - (intOf i).toNat)
 case atStart => exact ⟨0, Nat.zero_le _, rfl, fun j hj h => by omega, S1.out⟩
 case round =>
  obtain ⟨k, hk, rfl, hrel⟩ := hrel
  clear r0 r1
  by_cases hlt : (k : Int) < (n : Int)
  ·
   have hkl : k < l.length := by have := HN.out; omega
   have HRr := Lib.hid (HR.out _ hrel.out.2.old)
   obtain ⟨ad, rfl, had, h1, h2⟩ := readsF HRr.out k hkl
   have HNm := Lib.hid (fun w => isName_any l[k].name (HS.out _ (List.getElem_mem hkl)) w)
   have HI := Lib.hid (fun w => L1.inRange_any l[k].n 0 1000000000 w)
   obtain ⟨bn, hbn⟩ : ∃ b, isN l[k].name.data.toList = b := ⟨_, rfl⟩
   obtain ⟨bi, hbi⟩ : ∃ b, L1.inB l[k].n 0 1000000000 = b := ⟨_, rfl⟩
   have HO := Lib.hid (show okF l[k] = (bn && bi) by unfold okF; rw [hbi]; unfold F.t; rw [hbn])
   rw [hbn] at HNm
   rw [hbi] at HI
   obtain ⟨t, ht⟩ : ∃ t, t = l[k].name := ⟨_, rfl⟩
   obtain ⟨m, hm⟩ : ∃ m, m = l[k].n := ⟨_, rfl⟩
   rw [← ht] at h1 HNm
   rw [← hm] at h2 HI
   clear hbn hbi hm
   have HT := Lib.hid ht
   clear ht
   have S2 := Lib.hid (push_box hrel.out.2 128 #[.string t, .int .i64 m] wr.heap.size rfl)
   obtain ⟨W2, hW2⟩ : ∃ u, u = wr.alloc (.cells #[.string t, .int .i64 m] 128) := ⟨_, rfl⟩
   rw [← hW2] at S2
   have S3 := Lib.hid (S2.out.drews 1)
   have S4 := Lib.hid (sep_sub S3.out (ts := [boxR w.heap.size 31 #[.slice (some ad) n c]]) id (fun i r h => by match i, h with | 0, h => exact h) (fun i j _ _ h => h))
   rcases Nat.eq_zero_or_pos k with rfl | hk0
   ·
    rw [Nat.zero_mul, show ad.add 0 = ad by simp [Addr.add]] at h1 h2
    go_upto_region 6 with fail
    rw [← hW2]
    clear hW2
    obtain ⟨r0, r1⟩ := Row.one (box_at S2.out 0 rfl)
    obtain ⟨q0, q1⟩ := Row.two (box_at S2.out 1 rfl)
    by_cases hb : (bn && bi) = true
    ·
     simp only [Bool.and_eq_true] at hb
     obtain ⟨rfl, rfl⟩ := hb
     have HOt := Lib.hid (show okF l[0] = true from HO.out)
     clear HO
     go_upto_region 8 with (first | (go_at_call 97; refine (HNm.out _).mono ?_; rintro e w1 ⟨rfl, rfl⟩) | (go_at_call 98; refine (HI.out _).mono ?_; rintro e w1 ⟨rfl, rfl⟩))
     refine wp_region_held_drew (S := (fun w' => w'.cell? ⟨w.heap.size, 0, none⟩ = some (.slice (some ad) n c) ∧ w'.cell? ⟨wr.heap.size, 0, none⟩ = some (.string t))) (by kernel_rfl) ⟨r0, q0⟩ (fun hS => ?_)
     refine tk 0 rfl ?_
     try simp only [zp0, zp1, zp2, zp3, zp4]
     refine tk 1 rfl ?_
     try simp only [zp0, zp1, zp2, zp3, zp4]
     refine tk 2 rfl ?_
     try simp only [zp0, zp1, zp2, zp3, zp4]
     refine sk 3 rfl ?_
     try simp only [zp0, zp1, zp2, zp3, zp4]
     refine sk 4 rfl ?_
     try simp only [zp0, zp1, zp2, zp3, zp4]
     refine sk 5 rfl ?_
     try simp only [zp0, zp1, zp2, zp3, zp4]
     refine sk 6 rfl ?_
     try simp only [zp0, zp1, zp2, zp3, zp4]
     refine sk 7 rfl ?_
     try simp only [zp0, zp1, zp2, zp3, zp4]
     refine sk 8 rfl ?_
     try simp only [zp0, zp1, zp2, zp3, zp4]
     refine sk 9 rfl ?_
     try simp only [zp0, zp1, zp2, zp3, zp4]
     refine sk 10 rfl ?_
     try simp only [zp0, zp1, zp2, zp3, zp4]
     refine sk 11 rfl ?_
     try simp only [zp0, zp1, zp2, zp3, zp4]
     refine sk 12 rfl ?_
     try simp only [zp0, zp1, zp2, zp3, zp4]
     refine tk 13 rfl ?_
     try simp only [zp0, zp1, zp2, zp3, zp4]
     refine wpAnyH_done (by kernel_rfl) ?_ _
     go_wp2_with fail
     go_roundw
     case rel => exact ⟨1, by omega, by go_num, fun j hj h => by
       obtain rfl : j = 0 := by omega
       exact ⟨HOt.out, fun h0 => by omega⟩, S4.out⟩
     case measure => simp [intOf]; omega
    ·
     have HX := Lib.hid (isR_no 0 hkl (.inl (by rw [HO.out]; simpa using hb)))
     rcases (show bn = false ∨ (bn = true ∧ bi = false) by cases bn <;> simp_all) with rfl | ⟨rfl, rfl⟩
     all_goals
      clear hb HO
      go_wp2_with (first | (go_at_call 97; refine (HNm.out _).mono ?_; rintro e w1 ⟨rfl, rfl⟩) | (go_at_call 98; refine (HI.out _).mono ?_; rintro e w1 ⟨rfl, rfl⟩))
      go_ret
      exact ⟨by rw [HX.out]; rfl, S2.out.old⟩
   ·
    obtain ⟨j, rfl⟩ : ∃ j, k = j + 1 := ⟨k - 1, by omega⟩
    go_upto_region 6 with fail
    rw [← hW2]
    clear hW2
    obtain ⟨r0, r1⟩ := Row.one (box_at S2.out 0 rfl)
    obtain ⟨q0, q1⟩ := Row.two (box_at S2.out 1 rfl)
    by_cases hb : (bn && bi) = true
    ·
     simp only [Bool.and_eq_true] at hb
     obtain ⟨rfl, rfl⟩ := hb
     have HOt := Lib.hid (show okF l[j + 1] = true from HO.out)
     clear HO
     obtain ⟨ad', e', -, h3, -⟩ := readsF (HR.out _ S2.out.old) j (by omega)
     injection e' with e'
     subst e'
     obtain ⟨p, hp⟩ : ∃ p, p = (l[j]'(by omega)).name := ⟨_, rfl⟩
     rw [← hp] at h3
     have hwj : IntKind.i64.wrap (j : Int) = (j : Int) := IntWalk.i64_in _ ⟨by omega, by omega⟩
     have k1 : (0 : Int) ≤ (j : Int) + 1 := by omega
     have k2 : (j : Int) + 1 < (n : Int) := by omega
     have k3 : (0 : Int) ≤ (j : Int) := by omega
     have k4 : (j : Int) < (n : Int) := by omega
     have hge := string_geq
     obtain ⟨bo, hbo⟩ : ∃ b, bytesLess p.toList t.toList = b := ⟨_, rfl⟩
     have HB := Lib.hid (show bytesLess (l[j]'(by omega)).t l[j + 1].t = bo by unfold F.t; rw [← hp, ← HT.out, ← hbo, ByteArray.toList_eq, ByteArray.toList_eq])
     clear hp
     cases bo with
     | false =>
      have HX := Lib.hid (isR_no (j + 1) hkl (.inr ⟨Nat.succ_pos j, HB.out⟩))
      go_upto_region 8 with (first | (go_at_call 97; refine (HNm.out _).mono ?_; rintro e w1 ⟨rfl, rfl⟩) | (go_at_call 98; refine (HI.out _).mono ?_; rintro e w1 ⟨rfl, rfl⟩))
      refine wp_region_held_drew (S := (fun w' => w'.cell? ⟨w.heap.size, 0, none⟩ = some (.slice (some ad) n c) ∧ w'.cell? ⟨wr.heap.size, 0, none⟩ = some (.string t) ∧ w'.cell? (ad.add (j * 2)) = some (.string p))) (by kernel_rfl) ⟨r0, q0, h3⟩ (fun hS => ?_)
      refine tk 0 rfl ?_
      try simp only [zp0, zp1, zp2, zp3, zp4]
      refine tk 1 rfl ?_
      try simp only [zp0, zp1, zp2, zp3, zp4]
      refine tk 2 rfl ?_
      try simp only [zp0, zp1, zp2, zp3, zp4]
      refine tk 3 rfl ?_
      try simp only [zp0, zp1, zp2, zp3, zp4]
      refine tk 4 rfl ?_
      try simp only [zp0, zp1, zp2, zp3, zp4]
      refine tk 5 rfl ?_
      try simp only [zp0, zp1, zp2, zp3, zp4]
      refine tk 6 rfl ?_
      try simp only [zp0, zp1, zp2, zp3, zp4]
      refine tk 7 rfl ?_
      try simp only [zp0, zp1, zp2, zp3, zp4]
      refine tk 8 rfl ?_
      try simp only [zp0, zp1, zp2, zp3, zp4]
      refine tk 9 rfl ?_
      try simp only [zp0, zp1, zp2, zp3, zp4]
      refine tk 10 rfl ?_
      try simp only [zp0, zp1, zp2, zp3, zp4]
      refine tk 11 rfl ?_
      try simp only [zp0, zp1, zp2, zp3, zp4]
      refine tk 12 rfl ?_
      try simp only [zp0, zp1, zp2, zp3, zp4]
      refine tk 13 rfl ?_
      try simp only [zp0, zp1, zp2, zp3, zp4]
      refine wpAnyH_done (by kernel_rfl) ?_ _
      go_wp2_with fail
      go_ret
      exact ⟨by rw [HX.out]; rfl, S4.out.old⟩
     | true =>
      go_upto_region 8 with (first | (go_at_call 97; refine (HNm.out _).mono ?_; rintro e w1 ⟨rfl, rfl⟩) | (go_at_call 98; refine (HI.out _).mono ?_; rintro e w1 ⟨rfl, rfl⟩))
      refine wp_region_held_drew (S := (fun w' => w'.cell? ⟨w.heap.size, 0, none⟩ = some (.slice (some ad) n c) ∧ w'.cell? ⟨wr.heap.size, 0, none⟩ = some (.string t) ∧ w'.cell? (ad.add (j * 2)) = some (.string p))) (by kernel_rfl) ⟨r0, q0, h3⟩ (fun hS => ?_)
      refine tk 0 rfl ?_
      try simp only [zp0, zp1, zp2, zp3, zp4]
      refine tk 1 rfl ?_
      try simp only [zp0, zp1, zp2, zp3, zp4]
      refine tk 2 rfl ?_
      try simp only [zp0, zp1, zp2, zp3, zp4]
      refine tk 3 rfl ?_
      try simp only [zp0, zp1, zp2, zp3, zp4]
      refine tk 4 rfl ?_
      try simp only [zp0, zp1, zp2, zp3, zp4]
      refine tk 5 rfl ?_
      try simp only [zp0, zp1, zp2, zp3, zp4]
      refine tk 6 rfl ?_
      try simp only [zp0, zp1, zp2, zp3, zp4]
      refine tk 7 rfl ?_
      try simp only [zp0, zp1, zp2, zp3, zp4]
      refine tk 8 rfl ?_
      try simp only [zp0, zp1, zp2, zp3, zp4]
      refine tk 9 rfl ?_
      try simp only [zp0, zp1, zp2, zp3, zp4]
      refine tk 10 rfl ?_
      try simp only [zp0, zp1, zp2, zp3, zp4]
      refine tk 11 rfl ?_
      try simp only [zp0, zp1, zp2, zp3, zp4]
      refine tk 12 rfl ?_
      try simp only [zp0, zp1, zp2, zp3, zp4]
      refine tk 13 rfl ?_
      try simp only [zp0, zp1, zp2, zp3, zp4]
      refine wpAnyH_done (by kernel_rfl) ?_ _
      go_wp2_with fail
      go_roundw
      case rel => exact ⟨j + 1 + 1, by omega, by go_num, fun q hq h => by
       by_cases e : q < j + 1
       ·
        exact hrel.out.1 q hq e
       ·
        obtain rfl : q = j + 1 := by omega
        exact ⟨HOt.out, fun _ => HB.out⟩, S4.out⟩
      case measure => simp [intOf]; omega
    ·
     have HX := Lib.hid (isR_no (j + 1) hkl (.inl (by rw [HO.out]; simpa using hb)))
     rcases (show bn = false ∨ (bn = true ∧ bi = false) by cases bn <;> simp_all) with rfl | ⟨rfl, rfl⟩
     all_goals
      clear hb HO
      go_wp2_with (first | (go_at_call 97; refine (HNm.out _).mono ?_; rintro e w1 ⟨rfl, rfl⟩) | (go_at_call 98; refine (HI.out _).mono ?_; rintro e w1 ⟨rfl, rfl⟩))
      go_ret
      exact ⟨by rw [HX.out]; rfl, S2.out.old⟩
  ·
   go_wp2_with fail
   go_ret
   exact ⟨by rw [isR_iff.2 ⟨fun j hj _ => hrel.out.1 j hj (by have := HN.out; omega), by have := HN.out; omega⟩]; rfl, hrel.out.2.old⟩
end Go.Proofs.Ytojcdmgcbgpdmaa.L5

namespace Go.Proofs.Ytojcdmgcbgpdmaa.L4
open Go.Op (bytesLess)
open Go.ChangeShapes Go.WideShapes Go.ChangeAt Go.RowKit Mem Sl Ex L2

theorem cmpB_eq : ∀ (x y : List UInt8), Lib.compareBytes x y = cmpL x y
 | [], [] => by simp [Lib.compareBytes, cmpL, sgn, bytesLess]
 | [], _ :: _ => by simp [Lib.compareBytes, cmpL, sgn, bytesLess]
 | _ :: _, [] => by simp [Lib.compareBytes, cmpL, sgn, bytesLess]
 | a :: x, b :: y => by
  rw [cmpL_cons, ← cmpB_eq x y, show Lib.compareBytes (a :: x) (b :: y) = if a < b then -1 else if b < a then 1 else Lib.compareBytes x y by simp only [Lib.compareBytes]]
  by_cases e : a = b
  ·
   subst e
   rw [if_pos rfl, if_neg (UInt8.lt_irrefl _), if_neg (UInt8.lt_irrefl _)]
  ·
   rw [if_neg e]
   by_cases h : a < b
   ·
    rw [if_pos h, cmpL_less (by simp [bytesLess, h])]
   ·
    have h2 : b < a := UInt8.lt_of_le_of_ne (UInt8.not_lt.1 h) (Ne.symm e)
    rw [if_neg h, if_pos h2, cmpL_more (by simp [bytesLess, h2])]

theorem run_loadBytesL {P : Program} (w : World) : ∀ (l : List Int) (a : Addr) (acc : ByteArray), (∀ j (hj : j < l.length), w.cell? (a.add j) = some (.int .u8 l[j])) →
  (Extern.Bytes.loadBytes a l.length acc).run P w = .ok ⟨acc.data ++ (toU l).toArray⟩ w
 | [], a, acc, _ => by simp [Extern.Bytes.loadBytes, toU]
 | x :: l, a, acc, h => by
  have h0 : w.cell? a = some (.int .u8 x) := by
   have := h 0 (Nat.succ_pos _)
   simpa [Addr.add] using this
  have ih := run_loadBytesL (P := P) w l (a.add 1) (acc.push x.toNat.toUInt8) (fun j hj => by
   have := h (j + 1) (Nat.succ_lt_succ hj)
   have e : (a.add 1).add j = a.add (j + 1) := by
    unfold Addr.add
    by_cases hj : j = 0
    ·
     subst hj; simp
    ·
     simp [hj]; omega
   rw [e]; simpa using this)
  simp only [List.length_cons, Extern.Bytes.loadBytes, Sem.run_bind, run_load, h0, Result.andThen]
  rw [ih]
  congr 1
  apply ByteArray.ext
  simp [ByteArray.push, toU, UInt8.ofNat]
theorem run_bytesOf {P : Program} (w : World) (B : Nat) (a : Option Addr) (c : Nat) (l : List Int) (hr : Reads w B a (ints .u8 l)) :
  (Extern.Bytes.bytesOf (.slice a l.length c)).run P w = .ok ⟨(toU l).toArray⟩ w := by
 rcases a with _ | ad
 ·
  have hl : l = [] := by
   rcases l with _ | ⟨x, l⟩
   ·
    rfl
   ·
    obtain ⟨ad, h, _⟩ := hr 0 (by simp [ints])
    cases h
  subst hl
  rfl
 ·
  have := run_loadBytesL (P := P) w l ad .empty (fun j hj => by
   obtain ⟨ad', h, _, hc⟩ := hr j (by simpa using hj)
   injection h with h
   subst h
   rw [hc, ints_get .u8 l j hj])
  unfold Extern.Bytes.bytesOf
  rw [this]
  simp [ByteArray.empty, ByteArray.emptyWithCapacity]
  rfl
theorem run_compareBytes {P : Program} (w : World) (B : Nat) (a a2 : Option Addr) (c c2 : Nat) (l m : List Int) (hr : Reads w B a (ints .u8 l)) (hr2 : Reads w B a2 (ints .u8 m)) :
  (Extern.BytealgCompare.compare #[.slice a l.length c, .slice a2 m.length c2]).run P w = .ok (.int .i64 (cmpL (toU l) (toU m))) w := by
 change Sem.run P (do pure (goInt (Extern.BytealgCompare.cmp (← Extern.Bytes.bytesOf (.slice a l.length c)) (← Extern.Bytes.bytesOf (.slice a2 m.length c2))))) w = _
 simp only [Sem.run_bind, run_bytesOf w B a c l hr, run_bytesOf w B a2 c2 m hr2, Sem.run_pure, Result.andThen]
 rw [Lib.cmp_eq, cmpB_eq]
 rfl

theorem bytesCompare_any (a a2 : Option Addr) (c c2 : Nat) (l m : List Int) (w : World) (B : Nat) (hr : Reads w B a (ints .u8 l)) (hr2 : Reads w B a2 (ints .u8 m)) :
  Calls Try.prog 213 #[.slice a l.length c, .slice a2 m.length c2] w fun e w' => e = .returned (.int .i64 (cmpL (toU l) (toU m))) ∧ w = w' := by
 have K := run_compareBytes (P := Try.prog) w B a a2 c c2 l m hr hr2
 obtain ⟨n1, hn1⟩ : ∃ n, n = l.length := ⟨_, rfl⟩
 obtain ⟨n2, hn2⟩ : ∃ n, n = m.length := ⟨_, rfl⟩
 obtain ⟨v, hv⟩ : ∃ v, v = cmpL (toU l) (toU m) := ⟨_, rfl⟩
 rw [← hn1, ← hn2, ← hv] at K
 rw [← hn1, ← hn2, ← hv]
 clear hn1 hn2 hv hr hr2
 go_enter Try.func213, Try.ntmps213
 go_wp2
 rw [run_callFunc_extern Try.func234 (by kernel_rfl) (by kernel_rfl) (by kernel_rfl) (e := Extern.BytealgCompare.compare) (by kernel_rfl), K]
 simp only [Result.andThen]
 rw [Oper.upon_value]
 go_wp2
 go_ret
 exact ⟨rfl, rfl⟩
theorem implCompareBytes_any (a a2 : Option Addr) (c c2 : Nat) (l m : List Int) (w : World) (B : Nat) (hr : Reads w B a (ints .u8 l)) (hr2 : Reads w B a2 (ints .u8 m)) :
  Calls Try.prog 175 #[.slice a l.length c, .slice a2 m.length c2] w fun e w' => e = .returned (.int .i64 (cmpL (toU l) (toU m))) ∧ Drew w w' := by
 have H := Lib.hid (fun w hr hr2 => bytesCompare_any a a2 c c2 l m w B hr hr2)
 go_enter Try.func175, Try.ntmps175
 go_wp2_with (go_at_call 213; with_reducible refine (H.out _ hr hr2).mono ?_; rintro e w1 ⟨rfl, rfl⟩)
 go_ret
 exact ⟨rfl, Drew.refl w⟩

theorem compareString_any (a b : ByteArray) (w : World) :
  Calls Try.prog 214 #[.string a, .string b] w fun e w' => e = .returned (.int .i64 (cmpL a.data.toList b.data.toList)) ∧ w = w' := by
 have K := Lib.run_compareString (P := Try.prog) a b w
 rw [cmpB_eq] at K
 obtain ⟨v, hv⟩ : ∃ v, v = cmpL a.data.toList b.data.toList := ⟨_, rfl⟩
 rw [← hv] at K ⊢
 clear hv
 go_enter Try.func214, Try.ntmps214
 go_wp2
 rw [run_callFunc_extern Try.func235 (by kernel_rfl) (by kernel_rfl) (by kernel_rfl) (e := Extern.BytealgCompare.compare) (by kernel_rfl), K]
 simp only [Result.andThen]
 rw [Oper.upon_value]
 go_wp2
 go_ret
 exact ⟨rfl, rfl⟩
theorem stringsCompare_any (a b : ByteArray) (w : World) :
  Calls Try.prog 176 #[.string a, .string b] w fun e w' => e = .returned (.int .i64 (cmpL a.data.toList b.data.toList)) ∧ w = w' := by
 have H := Lib.hid (fun w => compareString_any a b w)
 go_enter Try.func176, Try.ntmps176
 go_wp2_with (go_at_call 214; with_reducible refine (H.out _).mono ?_; rintro e w1 ⟨rfl, rfl⟩)
 go_ret
 exact ⟨rfl, rfl⟩
theorem isNaN_any (x : Int) (w : World) :
  Calls Try.prog 212 #[.int .i64 x] w fun e w' => e = .returned (.bool false) ∧ w = w' := by
 go_enter Try.func212, Try.ntmps212
 go_wp2
 go_ret
 exact ⟨by simp, rfl⟩
theorem cmpInt_any (x y : Int) (hn : ¬ x = y) (w : World) :
  Calls Try.prog 173 #[.int .i64 x, .int .i64 y] w fun e w' => e = .returned (.int .i64 (sgn (decide (x < y)) true)) ∧ w = w' := by
 have H := Lib.hid isNaN_any
 rcases (show x < y ∨ (¬ x < y ∧ x > y) by omega) with h | ⟨h, h2⟩
 all_goals
  go_enter Try.func173, Try.ntmps173
  go_wp2_with (go_at_call 212; refine (H.out _ _).mono ?_; rintro e w1 ⟨rfl, rfl⟩)
  go_ret
  exact ⟨by simp [h, sgn], rfl⟩
end Go.Proofs.Ytojcdmgcbgpdmaa.L4

namespace Go.Proofs.Ytojcdmgcbgpdmaa.L4
open Go.ChangeShapes Go.WideShapes Go.ChangeAt Go.RowKit Mem Sl Ex L2

def isDig (c : UInt8) : Bool := decide (48 ≤ c.toNat) && decide (c.toNat ≤ 57)
theorem chr_eq (c : UInt8) : chr c = (isLet c || isDig c) := rfl

theorem isDigit_any (c : UInt8) (w : World) :
    Calls Try.prog 211 #[.int .u8 c.toNat] w fun e w' => e = .returned (.bool (isDig c)) ∧ w = w' := by
  by_cases h1 : (48 : Int) ≤ c.toNat <;> by_cases h2 : (c.toNat : Int) ≤ 57 <;>
    (go_enter Try.func211, Try.ntmps211
     go_wp2
     go_ret
     exact ⟨L1.ret_bool (by unfold isDig; have h1' := h1; have h2' := h2; simp only [Bool.false_eq, Bool.true_eq, Bool.and_eq_false_iff, Bool.and_eq_true, decide_eq_false_iff_not, decide_eq_true_eq]; omega), rfl⟩)
theorem isKeyNumber_any (n : Int) (w : World) :
    Calls Try.prog 171 #[.int .i64 n] w fun e w' => e = .returned (.bool (L1.inB n (-1000000000000) 1000000000000)) ∧ w = w' := by
  have H1 := Lib.hid (fun w => L1.inRange_any n (-1000000000000) 1000000000000 w)
  obtain ⟨b, hb⟩ : ∃ b, L1.inB n (-1000000000000) 1000000000000 = b := ⟨_, rfl⟩
  rw [hb] at H1 ⊢
  go_enter Try.func171, Try.ntmps171
  go_wp2_with (go_at_call 98; with_reducible refine (H1.out _).mono ?_; rintro e w1 ⟨rfl, rfl⟩)
  go_ret
  exact ⟨rfl, rfl⟩
theorem isKeyText_any (s : ByteArray) (hs : s.size ≤ 281474976710656) (w : World) :
    Calls Try.prog 172 #[.string s] w fun e w' => e = .returned (.bool (isT s.data.toList)) ∧ w = w' := by
  have hsz : s.data.toList.length = s.size := by rw [Array.length_toList]; rfl
  have HZ := Lib.hid hsz
  clear hsz
  by_cases h12 : (s.size : Int) ≤ 12
  · go_enter Try.func172, Try.ntmps172
    go_wp2
    go_loop [9] (fun i => ∃ k : Nat, k ≤ s.size ∧ i = .int .i64 k ∧ Hid (∀ j (hj : j < s.data.toList.length), j < k → chr s.data.toList[j] = true)) (fun i => s.size - (intOf i).toNat)
    case atStart => exact ⟨0, Nat.zero_le _, rfl, fun j hj h => by omega⟩
    case round =>
      obtain ⟨k, hk, rfl, hrel⟩ := hrel
      by_cases hlt : k < s.size
      · have hb : s.data.toList[k]? = some s[k] := by
          rw [List.getElem?_eq_getElem (by rw [HZ.out]; exact hlt)]
          rfl
        have HB := Lib.hid hb
        clear hb
        have HC := Lib.hid (chr_eq s[k])
        have H1 := Lib.hid (fun w => isLetter_any s[k] w)
        have H2 := Lib.hid (fun w => isDigit_any s[k] w)
        obtain ⟨bl, hbl⟩ : ∃ b, isLet s[k] = b := ⟨_, rfl⟩
        obtain ⟨bd, hbd⟩ : ∃ b, isDig s[k] = b := ⟨_, rfl⟩
        rw [hbl] at H1 HC
        rw [hbd] at H2 HC
        clear hbl hbd
        cases bl
        all_goals
          cases bd
          all_goals
            go_wp2_with (first
              | (go_at_call 170; refine (H1.out _).mono ?_; rintro e w1 ⟨rfl, rfl⟩)
              | (go_at_call 211; refine (H2.out _).mono ?_; rintro e w1 ⟨rfl, rfl⟩))
            first
            | (go_round
               case rel => exact ⟨k + 1, by omega, by go_num, fun j hj h => by
                  by_cases e : j < k
                  · exact hrel.out j hj e
                  · obtain rfl : j = k := by omega
                    have := HB.out
                    rw [List.getElem?_eq_getElem hj] at this
                    rw [Option.some.inj this]
                    exact HC.out⟩
               case measure => simp [intOf]; omega)
            | (go_ret
               exact ⟨by rw [isT_no k _ HB.out HC.out]; rfl, rfl⟩)
      · go_wp2
        go_ret
        obtain rfl : k = s.size := by omega
        have e1 := isT_all (fun j hj => hrel.out j hj (by rw [HZ.out] at hj; exact hj))
        rw [HZ.out] at e1
        refine ⟨?_, rfl⟩
        rw [e1, decide_eq_true (show s.size ≤ 12 by omega)]
        rfl
  · go_enter Try.func172, Try.ntmps172
    go_wp2
    go_ret
    refine ⟨?_, rfl⟩
    have : isT s.data.toList = false := by
      unfold isT
      rw [HZ.out, decide_eq_false (show ¬ s.size ≤ 12 by omega), Bool.and_false]
    rw [this]
    rfl
set_option maxHeartbeats 2000000 in
theorem implIsKey_any (k : K) (hs : k.text.size ≤ 281474976710656) (w : World) :
    Calls Try.prog 99 #[k.v] w fun e w' => e = .returned (.bool (isK k)) ∧ Below w.heap.size w w' := by
  obtain ⟨kd, n, s⟩ := k
  unfold K.v
  obtain ⟨b2, hb2⟩ : ∃ b, L1.inB n (-1000000000000) 1000000000000 = b := ⟨_, rfl⟩
  obtain ⟨b4, hb4⟩ : ∃ b, isT s.data.toList = b := ⟨_, rfl⟩
  have H2 := Lib.hid (fun w => isKeyNumber_any n w)
  have H4 := Lib.hid (fun w => isKeyText_any s hs w)
  rw [hb2] at H2
  rw [hb4] at H4
  obtain ⟨c0, hc0⟩ : ∃ b, (n == 0) = b := ⟨_, rfl⟩
  obtain ⟨ct, hct⟩ : ∃ b, (s.toList == []) = b := ⟨_, rfl⟩
  have HE := show isK ⟨kd, n, s⟩ = (L1.inB kd 1 3 && b2 && (kd != 2 || c0) && b4 && (kd != 1 || ct)) by unfold isK; rw [hb2, show K.t ⟨kd, n, s⟩ = s.data.toList from rfl, hb4, ← hct, ByteArray.toList_eq, ← hc0]
  have hx1 : ct = true → b4 = true := fun h => by
    rw [h, ByteArray.toList_eq, beq_iff_eq] at hct
    rw [← hb4, hct]
    rfl
  have hx2 : c0 = true → b2 = true := fun h => by
    rw [h, beq_iff_eq] at hc0
    rw [← hb2, hc0]
    rfl
  have HB := Lib.hid (fun o => below_alloc (Below.refl w.heap.size w) o (Nat.le_refl _))
  clear hb2 hb4
  rcases (show kd = 1 ∨ kd = 2 ∨ kd = 3 ∨ (kd ≠ 1 ∧ kd ≠ 2 ∧ kd ≠ 3) by omega) with rfl | rfl | rfl | ⟨hk1, hk2, hk3⟩
  · rw [show isK ⟨1, n, s⟩ = (b2 && ct) by rw [HE]; revert hx1; cases b2 <;> cases b4 <;> cases ct <;> simp [L1.inB]]
    clear HE hc0 hx1 hx2
    rcases (show b2 = false ∨ b2 = true by cases b2 <;> simp) with rfl | rfl
    all_goals
      go_enter Try.func99, Try.ntmps99
      go_wp2_with (go_at_call 171; with_reducible refine (H2.out _).mono ?_; rintro e w1 ⟨rfl, rfl⟩)
      go_ret
      exact ⟨rfl, HB.out _⟩
  · rw [show isK ⟨2, n, s⟩ = (c0 && b4) by rw [HE]; revert hx2; cases b2 <;> cases b4 <;> cases c0 <;> simp [L1.inB]]
    clear HE hct hx1 hx2
    rcases (show c0 = false ∨ c0 = true by cases c0 <;> simp) with rfl | rfl
    all_goals
      go_enter Try.func99, Try.ntmps99
      go_wp2_with (go_at_call 172; refine (H4.out _).mono ?_; rintro e w1 ⟨rfl, rfl⟩)
      go_ret
      exact ⟨rfl, HB.out _⟩
  · rw [show isK ⟨3, n, s⟩ = (b2 && b4) by rw [HE]; cases b2 <;> cases b4 <;> cases c0 <;> cases ct <;> simp [L1.inB]]
    clear HE hct hc0 hx1 hx2
    rcases (show b2 = false ∨ b2 = true by cases b2 <;> simp) with rfl | rfl
    all_goals
      go_enter Try.func99, Try.ntmps99
      go_wp2_with (first
        | (go_at_call 171; with_reducible refine (H2.out _).mono ?_; rintro e w1 ⟨rfl, rfl⟩)
        | (go_at_call 172; refine (H4.out _).mono ?_; rintro e w1 ⟨rfl, rfl⟩))
      go_ret
      exact ⟨rfl, HB.out _⟩
  · have : L1.inB kd 1 3 = false := L1.inB_false.2 (by omega)
    rw [HE, this]
    clear HE hct hc0 hx1 hx2 this
    replace hk1 : ¬ kd = 1 := hk1
    replace hk2 : ¬ kd = 2 := hk2
    replace hk3 : ¬ kd = 3 := hk3
    go_enter Try.func99, Try.ntmps99
    go_wp2_with fail
    go_ret
    exact ⟨by simp, HB.out _⟩
end Go.Proofs.Ytojcdmgcbgpdmaa.L4

namespace Go.Proofs.Ytojcdmgcbgpdmaa.L4
open Go.Op (bytesLess)
open Go.ChangeShapes Go.WideShapes Go.ChangeAt Go.RowKit Mem Sl Ex L2

def numCells (m : Nat) : Array Value := #[.int .u8 ((m / 1099511627776 % 256 : Nat) : Int), .int .u8 ((m / 4294967296 % 256 : Nat) : Int), .int .u8 ((m / 16777216 % 256 : Nat) : Int), .int .u8 ((m / 65536 % 256 : Nat) : Int), .int .u8 ((m / 256 % 256 : Nat) : Int), .int .u8 ((m / 1 % 256 : Nat) : Int)]

set_option maxHeartbeats 2000000 in
theorem encodeNumber_any (n : Int) (m : Nat) (hm : (m : Int) = n + 1000000000000) (h1 : n ≤ 1000000000000) (w : World) :
  Calls Try.prog 174 #[.int .i64 n] w fun e w' => e = .returned (.agg (numCells m)) ∧ Below w.heap.size w w' := by
 obtain ⟨M, hM⟩ : ∃ M : Int, M = n + 1000000000000 := ⟨_, rfl⟩
 have hM0 : 0 ≤ M := by omega
 have hM1 : M ≤ 2000000000000 := by omega
 go_enter Try.func174, Try.ntmps174
 go_wp2
 refine wp_loop_rounds 7 ?_
 iterate 7 (rw [rounds_succ]; go_wp2)
 refine bodyPost_ret (v := .agg _) (by simp [results, Try.results174, go_sem]; rfl) rfl ?_
 refine ⟨?_, below_alloc (below_alloc (Below.refl _ _) _ (Nat.le_refl _)) _ (Nat.le_refl _)⟩
 have e0 : (n + 1000000000000) / 256 / 256 / 256 / 256 / 256 = ((m / 1099511627776 % 256 : Nat) : Int) := by omega
 have e1 : (n + 1000000000000) / 256 / 256 / 256 / 256 % 256 = ((m / 4294967296 % 256 : Nat) : Int) := by omega
 have e2 : (n + 1000000000000) / 256 / 256 / 256 % 256 = ((m / 16777216 % 256 : Nat) : Int) := by omega
 have e3 : (n + 1000000000000) / 256 / 256 % 256 = ((m / 65536 % 256 : Nat) : Int) := by omega
 have e4 : (n + 1000000000000) / 256 % 256 = ((m / 256 % 256 : Nat) : Int) := by omega
 have e5 : (n + 1000000000000) % 256 = ((m / 1 % 256 : Nat) : Int) := by omega
 rw [e0, e1, e2, e3, e4, e5]
 rfl

theorem numCells_form (m : Nat) : ∃ x0 x1 x2 x3 x4 x5 : Int, numCells m = #[.int .u8 x0, .int .u8 x1, .int .u8 x2, .int .u8 x3, .int .u8 x4, .int .u8 x5] ∧ toI (be 6 m) = [x0, x1, x2, x3, x4, x5] := by
 refine ⟨_, _, _, _, _, _, rfl, ?_⟩
 simp only [be, toI, List.map_cons, List.map_nil, UInt8.toNat_ofNat', show (256 ^ 5 : Nat) = 1099511627776 from rfl, show (256 ^ 4 : Nat) = 4294967296 from rfl, show (256 ^ 3 : Nat) = 16777216 from rfl, show (256 ^ 2 : Nat) = 65536 from rfl, show (256 ^ 1 : Nat) = 256 from rfl, show (256 ^ 0 : Nat) = 1 from rfl, Nat.mod_mod]
theorem reads_row {w : World} {g : Nat} {t : TypeId} {k : IntKind} {l : List Int} (h : Row w g t (ints k l).toArray) : Reads w w.heap.size (some ⟨g, 0, none⟩) (ints k l) := fun j hj => by
 refine ⟨_, rfl, by simpa [add_block] using h.inside, ?_⟩
 rw [Addr.add_lit, h.cell]
 simp [List.getElem?_eq_getElem hj]

section
variable {P : Program} (w : World)
end

end Go.Proofs.Ytojcdmgcbgpdmaa.L4

namespace Go.Proofs.Ytojcdmgcbgpdmaa.L4
open Go.ChangeShapes Go.WideShapes Go.ChangeAt Go.RowKit Mem Sl Ex L2
set_option maxHeartbeats 2000000 in
theorem array_eq (x0 x1 x2 x3 x4 x5 y0 y1 y2 y3 y4 y5 : Int) (w : World) :
  (Op.equalIn 10000 190 (.agg #[.int .u8 x0, .int .u8 x1, .int .u8 x2, .int .u8 x3, .int .u8 x4, .int .u8 x5]) (.agg #[.int .u8 y0, .int .u8 y1, .int .u8 y2, .int .u8 y3, .int .u8 y4, .int .u8 y5])).run Try.prog w = .ok (decide ([x0, x1, x2, x3, x4, x5] = [y0, y1, y2, y3, y4, y5])) w := by
 obtain ⟨i0, hi, hz0, hz1, hz2⟩ := infoOf _ _ _ _ info8
 have hu : Try.prog.underlying 190 = some (.array 6 5) := Try.underlying190
 rw [show (10000 : Nat) = 9998 + 1 + 1 from rfl, run_equalIn_array w (9998 + 1) _ _ hu hi, show List.range 6 = [0, 1, 2, 3, 4, 5] from rfl, show Try.prog.cellsOf 5 = 1 by kernel_rfl]
 have he : ∀ (a b : Int) (w : World), (Op.equalIn (9998 + 1) 5 (.int .u8 a) (.int .u8 b)).run Try.prog w = .ok (a == b) w := fun a b w => run_equalIn_int w 9998 5 .u8 .u8 a b Try.underlying5
 simp [Op.eqItems, he, go_sem]
 (repeat' split) <;> simp_all
end Go.Proofs.Ytojcdmgcbgpdmaa.L4

