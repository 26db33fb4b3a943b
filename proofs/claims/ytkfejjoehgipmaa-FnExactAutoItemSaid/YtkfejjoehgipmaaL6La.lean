/-
  The exact laws' helpers for stores: copies, the room. Conditions: a room of at most 2^20, at most 2^20 fields and items. (Written by my program gen_l6p.py.)
-/
import Derived.Test.YtkfejjoehgipmaaL6Sa
import Derived.Test.YtkfejjoehgipmaaL6Opn
import Derived.Test.YtkfejjoehgipmaaL5Law
import Derived.Test.YtkfejjoehgipmaaRun
namespace Go.Proofs.Ytkfejjoehgipmaa.L6
set_option maxRecDepth 100000
open L4 (K isK cmpK R inR encU)
open L5 (F isR isN cellsF encR eqR Small Wide)
open Go.ChangeShapes Go.WideShapes Go.ChangeAt Go.RowKit Mem Sl Ex L2 Sv Bag
set_option linter.unusedVariables false
set_option linter.unusedSimpArgs false

set_option maxHeartbeats 2000000 in
theorem toItem_any (kd n : Int) (s : ByteArray) (a : Option Addr) (c : Nat) (l : List F) (hl : l.length ≤ 1048576) (w : World) (hr : Reads w w.heap.size a (cellsF l)) :
    Calls Try.prog 125 #[.agg #[.int .i64 kd, .int .i64 n, .string s, .slice a l.length c]] w (GaveI w ⟨⟨kd, n, s⟩, l⟩) := by
  have HC := Lib.hid (fun w' (h : Below w.heap.size w w') => L5.toRecord_any a c l (by have := hl; omega) w' ((hr.below h).more h.size))
  have HTK := Lib.hid (fun w' => L4.toKey_any ⟨kd, n, s⟩ w')
  unfold L4.K.v at HTK
  obtain ⟨N, hN⟩ : ∃ n, n = l.length := ⟨_, rfl⟩
  rw [← hN] at HC ⊢
  have HN := Lib.hid hN
  clear hN hr hl
  have S1 := Lib.hid (show Sl.Sep w ((w.alloc (.cells #[.int .i64 kd, .int .i64 n, .string s, .slice a N c] 140)).alloc (.cells #[.int .i64 0, .int .i64 0, .string ⟨#[]⟩, .slice none 0 0] 40)) [L4.boxR w.heap.size 140 #[.int .i64 kd, .int .i64 n, .string s, .slice a N c], L4.boxR (w.heap.size + 1) 40 #[.int .i64 0, .int .i64 0, .string ⟨#[]⟩, .slice none 0 0]] from L4.push_box (L4.push_box (Sl.Sep.start w) 140 #[.int .i64 kd, .int .i64 n, .string s, .slice a N c] (w.heap.size) (by simp)) 40 #[.int .i64 0, .int .i64 0, .string ⟨#[]⟩, .slice none 0 0] (w.heap.size + 1) (by simp))
  obtain ⟨wa, hwa⟩ : ∃ u, u = ((w.alloc (.cells #[.int .i64 kd, .int .i64 n, .string s, .slice a N c] 140)).alloc (.cells #[.int .i64 0, .int .i64 0, .string ⟨#[]⟩, .slice none 0 0] 40)) := ⟨_, rfl⟩
  rw [← hwa] at S1
  go_enter Try.func125, Try.ntmps125
  go_upto_region 1 with fail
  rw [← hwa]
  clear hwa
  have f0 : World.cell? _ ⟨w.heap.size, 0, none⟩ = some (.int .i64 kd) := Bag.cell_at S1.out 0 rfl 0 rfl
  have f1 : World.cell? _ ⟨w.heap.size, 1, none⟩ = some (.int .i64 n) := Bag.cell_at S1.out 0 rfl 1 rfl
  have f2 : World.cell? _ ⟨w.heap.size, 2, none⟩ = some (.string s) := Bag.cell_at S1.out 0 rfl 2 rfl
  have f3 : World.cell? _ ⟨w.heap.size, 3, none⟩ = some (.slice a N c) := Bag.cell_at S1.out 0 rfl 3 rfl
  have f4 : World.cell? _ ⟨w.heap.size + 1, 0, none⟩ = some (.int .i64 0) := Bag.cell_at S1.out 1 rfl 0 rfl
  have f5 : World.cell? _ ⟨w.heap.size + 1, 1, none⟩ = some (.int .i64 0) := Bag.cell_at S1.out 1 rfl 1 rfl
  have f6 : World.cell? _ ⟨w.heap.size + 1, 2, none⟩ = some (.string ⟨#[]⟩) := Bag.cell_at S1.out 1 rfl 2 rfl
  have f7 : World.cell? _ ⟨w.heap.size + 1, 3, none⟩ = some (.slice none 0 0) := Bag.cell_at S1.out 1 rfl 3 rfl
  go_upto_region 2 with fail
  clear f0 f1 f2 f3 f4 f5 f6 f7
  have S2 := Lib.hid (show Sl.Sep w _ [L4.boxR w.heap.size 140 #[.int .i64 kd, .int .i64 n, .string s, .slice a N c], L4.boxR (w.heap.size + 1) 40 #[.int .i64 0, .int .i64 0, .string ⟨#[]⟩, .slice none 0 0], L4.boxR wa.heap.size 40 #[.int .i64 0, .int .i64 0, .string ⟨#[]⟩, .slice none 0 0]] from L4.push_box S1.out 40 #[.int .i64 0, .int .i64 0, .string ⟨#[]⟩, .slice none 0 0] wa.heap.size rfl)
  clear S1
  obtain ⟨g1, hg⟩ : ∃ g', g' = wa.heap.size := ⟨_, rfl⟩
  rw [← hg] at S2 ⊢
  clear hg
  generalize wa.alloc (.cells #[.int .i64 0, .int .i64 0, .string ⟨#[]⟩, .slice none 0 0] 40) = w1 at S2 ⊢
  have f0 : World.cell? _ ⟨w.heap.size, 0, none⟩ = some (.int .i64 kd) := Bag.cell_at S2.out 0 rfl 0 rfl
  have f1 : World.cell? _ ⟨w.heap.size, 1, none⟩ = some (.int .i64 n) := Bag.cell_at S2.out 0 rfl 1 rfl
  have f2 : World.cell? _ ⟨w.heap.size, 2, none⟩ = some (.string s) := Bag.cell_at S2.out 0 rfl 2 rfl
  have f3 : World.cell? _ ⟨w.heap.size, 3, none⟩ = some (.slice a N c) := Bag.cell_at S2.out 0 rfl 3 rfl
  have f4 : World.cell? _ ⟨w.heap.size + 1, 0, none⟩ = some (.int .i64 0) := Bag.cell_at S2.out 1 rfl 0 rfl
  have f5 : World.cell? _ ⟨w.heap.size + 1, 1, none⟩ = some (.int .i64 0) := Bag.cell_at S2.out 1 rfl 1 rfl
  have f6 : World.cell? _ ⟨w.heap.size + 1, 2, none⟩ = some (.string ⟨#[]⟩) := Bag.cell_at S2.out 1 rfl 2 rfl
  have f7 : World.cell? _ ⟨w.heap.size + 1, 3, none⟩ = some (.slice none 0 0) := Bag.cell_at S2.out 1 rfl 3 rfl
  have f8 : World.cell? _ ⟨g1, 0, none⟩ = some (.int .i64 0) := Bag.cell_at S2.out 2 rfl 0 rfl
  have f9 : World.cell? _ ⟨g1, 1, none⟩ = some (.int .i64 0) := Bag.cell_at S2.out 2 rfl 1 rfl
  have f10 : World.cell? _ ⟨g1, 2, none⟩ = some (.string ⟨#[]⟩) := Bag.cell_at S2.out 2 rfl 2 rfl
  have f11 : World.cell? _ ⟨g1, 3, none⟩ = some (.slice none 0 0) := Bag.cell_at S2.out 2 rfl 3 rfl
  go_wp2_with fail
  go_at_call 38
  refine (HTK.out _).mono ?_
  rintro e w2 ⟨rfl, hb⟩
  clear f0 f1 f2 f3 f4 f5 f6 f7 f8 f9 f10 f11
  have S3 := Lib.hid (show Sl.Sep w _ [L4.boxR w.heap.size 140 #[.int .i64 kd, .int .i64 n, .string s, .slice a N c], L4.boxR (w.heap.size + 1) 40 #[.int .i64 0, .int .i64 0, .string ⟨#[]⟩, .slice none 0 0], L4.boxR g1 40 #[.int .i64 0, .int .i64 0, .string ⟨#[]⟩, .slice none 0 0]] from S2.out.keep hb)
  clear S2
  clear hb
  have f0 : World.cell? _ ⟨w.heap.size, 0, none⟩ = some (.int .i64 kd) := Bag.cell_at S3.out 0 rfl 0 rfl
  have f1 : World.cell? _ ⟨w.heap.size, 1, none⟩ = some (.int .i64 n) := Bag.cell_at S3.out 0 rfl 1 rfl
  have f2 : World.cell? _ ⟨w.heap.size, 2, none⟩ = some (.string s) := Bag.cell_at S3.out 0 rfl 2 rfl
  have f3 : World.cell? _ ⟨w.heap.size, 3, none⟩ = some (.slice a N c) := Bag.cell_at S3.out 0 rfl 3 rfl
  have f4 : World.cell? _ ⟨w.heap.size + 1, 0, none⟩ = some (.int .i64 0) := Bag.cell_at S3.out 1 rfl 0 rfl
  have f5 : World.cell? _ ⟨w.heap.size + 1, 1, none⟩ = some (.int .i64 0) := Bag.cell_at S3.out 1 rfl 1 rfl
  have f6 : World.cell? _ ⟨w.heap.size + 1, 2, none⟩ = some (.string ⟨#[]⟩) := Bag.cell_at S3.out 1 rfl 2 rfl
  have f7 : World.cell? _ ⟨w.heap.size + 1, 3, none⟩ = some (.slice none 0 0) := Bag.cell_at S3.out 1 rfl 3 rfl
  have f8 : World.cell? _ ⟨g1, 0, none⟩ = some (.int .i64 0) := Bag.cell_at S3.out 2 rfl 0 rfl
  have f9 : World.cell? _ ⟨g1, 1, none⟩ = some (.int .i64 0) := Bag.cell_at S3.out 2 rfl 1 rfl
  have f10 : World.cell? _ ⟨g1, 2, none⟩ = some (.string ⟨#[]⟩) := Bag.cell_at S3.out 2 rfl 2 rfl
  have f11 : World.cell? _ ⟨g1, 3, none⟩ = some (.slice none 0 0) := Bag.cell_at S3.out 2 rfl 3 rfl
  have z0 := Bag.free_at S3.out 2 rfl 0
  have z1 := Bag.free_at S3.out 2 rfl 1
  have z2 := Bag.free_at S3.out 2 rfl 2
  have z3 := Bag.free_at S3.out 2 rfl 3
  go_upto_region 3 with fail
  clear f0 f1 f2 f3 f4 f5 f6 f7 f8 f9 f10 f11 z0 z1 z2 z3
  have S4 := Lib.hid (show Sl.Sep w _ [L4.boxR w.heap.size 140 #[.int .i64 kd, .int .i64 n, .string s, .slice a N c], L4.boxR (w.heap.size + 1) 40 #[.int .i64 0, .int .i64 0, .string ⟨#[]⟩, .slice none 0 0], L4.boxR g1 40 #[.int .i64 kd, .int .i64 n, .string s, .slice none 0 0]] from L5.put_box5 (L5.put_box5 (L5.put_box5 (S3.out) 2 rfl 0 (.int .i64 kd)) 2 rfl 1 (.int .i64 n)) 2 rfl 2 (.string s))
  clear S3
  have f0 : World.cell? _ ⟨w.heap.size, 0, none⟩ = some (.int .i64 kd) := Bag.cell_at S4.out 0 rfl 0 rfl
  have f1 : World.cell? _ ⟨w.heap.size, 1, none⟩ = some (.int .i64 n) := Bag.cell_at S4.out 0 rfl 1 rfl
  have f2 : World.cell? _ ⟨w.heap.size, 2, none⟩ = some (.string s) := Bag.cell_at S4.out 0 rfl 2 rfl
  have f3 : World.cell? _ ⟨w.heap.size, 3, none⟩ = some (.slice a N c) := Bag.cell_at S4.out 0 rfl 3 rfl
  have f4 : World.cell? _ ⟨w.heap.size + 1, 0, none⟩ = some (.int .i64 0) := Bag.cell_at S4.out 1 rfl 0 rfl
  have f5 : World.cell? _ ⟨w.heap.size + 1, 1, none⟩ = some (.int .i64 0) := Bag.cell_at S4.out 1 rfl 1 rfl
  have f6 : World.cell? _ ⟨w.heap.size + 1, 2, none⟩ = some (.string ⟨#[]⟩) := Bag.cell_at S4.out 1 rfl 2 rfl
  have f7 : World.cell? _ ⟨w.heap.size + 1, 3, none⟩ = some (.slice none 0 0) := Bag.cell_at S4.out 1 rfl 3 rfl
  have f8 : World.cell? _ ⟨g1, 0, none⟩ = some (.int .i64 kd) := Bag.cell_at S4.out 2 rfl 0 rfl
  have f9 : World.cell? _ ⟨g1, 1, none⟩ = some (.int .i64 n) := Bag.cell_at S4.out 2 rfl 1 rfl
  have f10 : World.cell? _ ⟨g1, 2, none⟩ = some (.string s) := Bag.cell_at S4.out 2 rfl 2 rfl
  have f11 : World.cell? _ ⟨g1, 3, none⟩ = some (.slice none 0 0) := Bag.cell_at S4.out 2 rfl 3 rfl
  go_wp2_with fail
  go_at_call 40
  refine (HC.out _ S4.out.old).mono ?_
  rintro e w3 ⟨a1, c1, rfl, ho, hb⟩
  clear f0 f1 f2 f3 f4 f5 f6 f7 f8 f9 f10 f11
  have S5 := Lib.hid (show Sl.Sep w _ [L4.boxR w.heap.size 140 #[.int .i64 kd, .int .i64 n, .string s, .slice a N c], L4.boxR (w.heap.size + 1) 40 #[.int .i64 0, .int .i64 0, .string ⟨#[]⟩, .slice none 0 0], L4.boxR g1 40 #[.int .i64 kd, .int .i64 n, .string s, .slice none 0 0], Sv.ownV 102 2 a1 c1 N (cellsF l)] from Sv.push_own S4.out hb ho)
  clear S4
  clear hb ho
  have f0 : World.cell? _ ⟨w.heap.size, 0, none⟩ = some (.int .i64 kd) := Bag.cell_at S5.out 0 rfl 0 rfl
  have f1 : World.cell? _ ⟨w.heap.size, 1, none⟩ = some (.int .i64 n) := Bag.cell_at S5.out 0 rfl 1 rfl
  have f2 : World.cell? _ ⟨w.heap.size, 2, none⟩ = some (.string s) := Bag.cell_at S5.out 0 rfl 2 rfl
  have f3 : World.cell? _ ⟨w.heap.size, 3, none⟩ = some (.slice a N c) := Bag.cell_at S5.out 0 rfl 3 rfl
  have f4 : World.cell? _ ⟨w.heap.size + 1, 0, none⟩ = some (.int .i64 0) := Bag.cell_at S5.out 1 rfl 0 rfl
  have f5 : World.cell? _ ⟨w.heap.size + 1, 1, none⟩ = some (.int .i64 0) := Bag.cell_at S5.out 1 rfl 1 rfl
  have f6 : World.cell? _ ⟨w.heap.size + 1, 2, none⟩ = some (.string ⟨#[]⟩) := Bag.cell_at S5.out 1 rfl 2 rfl
  have f7 : World.cell? _ ⟨w.heap.size + 1, 3, none⟩ = some (.slice none 0 0) := Bag.cell_at S5.out 1 rfl 3 rfl
  have f8 : World.cell? _ ⟨g1, 0, none⟩ = some (.int .i64 kd) := Bag.cell_at S5.out 2 rfl 0 rfl
  have f9 : World.cell? _ ⟨g1, 1, none⟩ = some (.int .i64 n) := Bag.cell_at S5.out 2 rfl 1 rfl
  have f10 : World.cell? _ ⟨g1, 2, none⟩ = some (.string s) := Bag.cell_at S5.out 2 rfl 2 rfl
  have f11 : World.cell? _ ⟨g1, 3, none⟩ = some (.slice none 0 0) := Bag.cell_at S5.out 2 rfl 3 rfl
  have z0 := Bag.free_at S5.out 2 rfl 0
  have z1 := Bag.free_at S5.out 2 rfl 1
  have z2 := Bag.free_at S5.out 2 rfl 2
  have z3 := Bag.free_at S5.out 2 rfl 3
  go_upto_region 4 with fail
  clear f0 f1 f2 f3 f4 f5 f6 f7 f8 f9 f10 f11 z0 z1 z2 z3
  have S6 := Lib.hid (show Sl.Sep w _ [L4.boxR w.heap.size 140 #[.int .i64 kd, .int .i64 n, .string s, .slice a N c], L4.boxR (w.heap.size + 1) 40 #[.int .i64 0, .int .i64 0, .string ⟨#[]⟩, .slice none 0 0], L4.boxR g1 40 #[.int .i64 kd, .int .i64 n, .string s, .slice a1 N c1], Sv.ownV 102 2 a1 c1 N (cellsF l)] from L5.put_box5 (S5.out) 2 rfl 3 (.slice a1 N c1))
  clear S5
  have f0 : World.cell? _ ⟨w.heap.size, 0, none⟩ = some (.int .i64 kd) := Bag.cell_at S6.out 0 rfl 0 rfl
  have f1 : World.cell? _ ⟨w.heap.size, 1, none⟩ = some (.int .i64 n) := Bag.cell_at S6.out 0 rfl 1 rfl
  have f2 : World.cell? _ ⟨w.heap.size, 2, none⟩ = some (.string s) := Bag.cell_at S6.out 0 rfl 2 rfl
  have f3 : World.cell? _ ⟨w.heap.size, 3, none⟩ = some (.slice a N c) := Bag.cell_at S6.out 0 rfl 3 rfl
  have f4 : World.cell? _ ⟨w.heap.size + 1, 0, none⟩ = some (.int .i64 0) := Bag.cell_at S6.out 1 rfl 0 rfl
  have f5 : World.cell? _ ⟨w.heap.size + 1, 1, none⟩ = some (.int .i64 0) := Bag.cell_at S6.out 1 rfl 1 rfl
  have f6 : World.cell? _ ⟨w.heap.size + 1, 2, none⟩ = some (.string ⟨#[]⟩) := Bag.cell_at S6.out 1 rfl 2 rfl
  have f7 : World.cell? _ ⟨w.heap.size + 1, 3, none⟩ = some (.slice none 0 0) := Bag.cell_at S6.out 1 rfl 3 rfl
  have f8 : World.cell? _ ⟨g1, 0, none⟩ = some (.int .i64 kd) := Bag.cell_at S6.out 2 rfl 0 rfl
  have f9 : World.cell? _ ⟨g1, 1, none⟩ = some (.int .i64 n) := Bag.cell_at S6.out 2 rfl 1 rfl
  have f10 : World.cell? _ ⟨g1, 2, none⟩ = some (.string s) := Bag.cell_at S6.out 2 rfl 2 rfl
  have f11 : World.cell? _ ⟨g1, 3, none⟩ = some (.slice a1 N c1) := Bag.cell_at S6.out 2 rfl 3 rfl
  have z0 := Bag.free_at S6.out 1 rfl 0
  have z1 := Bag.free_at S6.out 1 rfl 1
  have z2 := Bag.free_at S6.out 1 rfl 2
  have z3 := Bag.free_at S6.out 1 rfl 3
  go_wp2_with fail
  clear f0 f1 f2 f3 f4 f5 f6 f7 f8 f9 f10 f11 z0 z1 z2 z3
  have S7 := Lib.hid (show Sl.Sep w _ [L4.boxR w.heap.size 140 #[.int .i64 kd, .int .i64 n, .string s, .slice a N c], L4.boxR (w.heap.size + 1) 40 #[.int .i64 kd, .int .i64 n, .string s, .slice a1 N c1], L4.boxR g1 40 #[.int .i64 kd, .int .i64 n, .string s, .slice a1 N c1], Sv.ownV 102 2 a1 c1 N (cellsF l)] from L5.put_box5 (L5.put_box5 (L5.put_box5 (L5.put_box5 (S6.out) 1 rfl 0 (.int .i64 kd)) 1 rfl 1 (.int .i64 n)) 1 rfl 2 (.string s)) 1 rfl 3 (.slice a1 N c1))
  clear S6
  have f0 : World.cell? _ ⟨w.heap.size + 1, 0, none⟩ = some (.int .i64 kd) := Bag.cell_at S7.out 1 rfl 0 rfl
  have f1 : World.cell? _ ⟨w.heap.size + 1, 1, none⟩ = some (.int .i64 n) := Bag.cell_at S7.out 1 rfl 1 rfl
  have f2 : World.cell? _ ⟨w.heap.size + 1, 2, none⟩ = some (.string s) := Bag.cell_at S7.out 1 rfl 2 rfl
  have f3 : World.cell? _ ⟨w.heap.size + 1, 3, none⟩ = some (.slice a1 N c1) := Bag.cell_at S7.out 1 rfl 3 rfl
  refine bodyPost_ret (v := .agg #[.int .i64 kd, .int .i64 n, .string s, .slice a1 N c1]) (by simp [results, Try.results125, go_sem, *]) rfl ?_
  have hb := Bag.bag_from (Bag.bag_of_one S7.out 3 (r := (LI.mk ⟨kd, n, s⟩ a1 c1 l).row) (by show some _ = some _; rw [HN.out]; rfl)) 3 rfl
  exact ⟨a1, c1, by rw [HN.out], hb, S7.out.old⟩
set_option maxHeartbeats 4000000 in
theorem toItemS_any (a : Option Addr) (c : Nat) (xs : List LI) (hl : xs.length ≤ 1048576) (hf : ∀ x ∈ conI xs, FitI x) (w : World) (hr : Reads w w.heap.size a (cellsI xs)) (hx : RowsRd w w.heap.size (rowsI xs)) :
    Calls Try.prog 92 #[.slice a xs.length c] w (GaveIs w (conI xs)) := by
  obtain ⟨i0, hi1, hi2, hi3, hi4⟩ := itemInfo
  have HI := Lib.hid (And.intro hi1 (And.intro hi2 (And.intro hi3 hi4)))
  clear hi1 hi2 hi3 hi4
  have HR := Lib.hid (fun w' (h : Below w.heap.size w w') => hr.below h)
  have HX := Lib.hid (fun w' (h : Below w.heap.size w w') => (hx.below h).more h.size)
  have HF := Lib.hid hf
  obtain ⟨N, hN⟩ : ∃ n, n = xs.length := ⟨_, rfl⟩
  rw [← hN] at hl ⊢
  have hl' : (N : Int) ≤ 1048576 := by omega
  have HN := Lib.hid hN
  clear hN hr hx hf
  obtain ⟨Z, hZ⟩ : ∃ Z, Z = (madeCells (Value.agg #[.int .i64 0, .int .i64 0, .string ⟨#[]⟩, .slice none 0 0]).cells (N * 4)).toList := ⟨_, rfl⟩
  have HZ := Lib.hid (show Z.length = N * 4 by rw [hZ]; simp [madeCells])
  have HZD := Lib.hid hZ
  clear hZ
  have S1 := Lib.hid (show Sl.Sep w w [] from Sl.Sep.start w)
  go_enter Try.func92, Try.ntmps92
  go_upto_region 2 with (at_make; refine Run.wpList_make_s S1.out rfl _ _ 24 rfl 40 i0 (.agg #[.int .i64 0, .int .i64 0, .string ⟨#[]⟩, .slice none 0 0]) 4 Try.underlying24 HI.out.1 HI.out.2.1 HI.out.2.2.1 _ _ N rfl rfl (by rw [HI.out.2.2.2]; omega) (by unfold maxLen; omega) ?_; intro w1 S')
  obtain ⟨g1, hg⟩ : ∃ g', g' = w.heap.size := ⟨_, rfl⟩
  rw [← hg] at S' ⊢
  clear hg
  have S2 := Lib.hid (show Sl.Sep w _ [Sv.ownV 40 4 (some ⟨g1, 0, none⟩) N N (cellsI [] ++ Z)] from (by have h := S'; rw [← HZD.out] at h; exact h))
  clear S1
  clear S'
  have S3 := Lib.hid (show Sl.Sep w _ [Sv.ownV 40 4 (some ⟨g1, 0, none⟩) N N (cellsI [] ++ Z), Bag.bag (rowsI [])] from Bag.push_bag S2.out (Below.refl _ _) (Bag.BagOwn.nil _ _))
  clear S2
  go_wp2_with fail
  go_loopw [4] (fun i wr => ∃ (k : Nat) (ys : List LI) (Zs : List Value), k ≤ N ∧ i = .int .i64 k ∧ Hid ((conI ys = (conI xs).take k ∧ ys.length = k ∧ Zs.length = (N - k) * 4) ∧ Sl.Sep w wr [Sv.ownV 40 4 (some ⟨g1, 0, none⟩) N N (cellsI ys ++ Zs), Bag.bag (rowsI ys)])) (fun i _ => N - (intOf i).toNat)
  case atStart => exact ⟨0, [], Z, Nat.zero_le _, rfl, And.intro ⟨rfl, rfl, HZ.out⟩ S3.out⟩
  case round =>
    obtain ⟨k, ys, Zs, hk, rfl, hrel⟩ := hrel
    have HC := Lib.hid hrel.out.1
    have S4 := Lib.hid hrel.out.2
    clear hrel S3
    by_cases hlt : (k : Int) < (N : Int)
    · skip
      have hkl : k < xs.length := by have := HN.out; omega
      obtain ⟨ad, x, rfl, hx⟩ := readsI_some (HR.out _ S4.out.old) k hkl
      obtain ⟨⟨kd, n, t⟩, ia, ic, l⟩ := x
      have HK := Lib.hid (fun w' (h : Below w.heap.size w w') => readsI_at (HR.out _ h) k _ hx)
      try dsimp only at HK
      have HFI := Lib.hid (fit_at HF.out hx)
      try dsimp only [LI.con] at HFI
      have HCI := Lib.hid (fun w' (h : Below w.heap.size w w') => toItem_any kd n t ia ic l (fit_at HF.out hx).len w' (((HX.out _ h).at_ (rowsI_mem hx)).reads))
      try dsimp only at HCI
      have HT := Lib.hid (conI_take hx)
      clear hx
      have HL := Lib.hid (show (cellsI ys).length = k * 4 ∧ k * 4 + 4 ≤ (cellsI ys ++ Zs).length ∧ 4 ≤ Zs.length from by have h1 := HC.out.2.1; have h2 := HC.out.2.2; rw [List.length_append, cellsI_length, h1, h2]; omega)
      have f0 : World.cell? _ (ad.add (k * 4)) = some (.int .i64 kd) := (HK.out _ S4.out.old).1
      have f1 : World.cell? _ (⟨(ad.add (k * 4)).block, (ad.add (k * 4)).off + 1, none⟩) = some (.int .i64 n) := (HK.out _ S4.out.old).2.1
      have f2 : World.cell? _ (⟨(ad.add (k * 4)).block, (ad.add (k * 4)).off + 2, none⟩) = some (.string t) := (HK.out _ S4.out.old).2.2.1
      have f3 : World.cell? _ (⟨(ad.add (k * 4)).block, (ad.add (k * 4)).off + 3, none⟩) = some (.slice ia l.length ic) := (HK.out _ S4.out.old).2.2.2
      go_wp2_with fail
      go_at_call 125
      refine (HCI.out _ S4.out.old).mono ?_
      rintro e w2 ⟨a1, c1, rfl, ho, hb⟩
      clear f0 f1 f2 f3
      have S5 := Lib.hid (show Sl.Sep w _ [Sv.ownV 40 4 (some ⟨g1, 0, none⟩) N N (cellsI ys ++ Zs), Bag.bag (rowsI ys), Bag.bag ([(LI.mk ⟨kd, n, t⟩ a1 c1 l).row])] from Bag.push_bag S4.out hb ho)
      clear S4
      clear hb ho
      have q0 := (Sv.own_at S5.out 0 rfl).cell (k * 4) (by have := HL.out.2.1; omega)
      have z0 := (Sv.own_at S5.out 0 rfl).free (k * 4)
      have q1 := (Sv.own_at S5.out 0 rfl).cell (k * 4 + 1) (by have := HL.out.2.1; omega)
      have z1 := (Sv.own_at S5.out 0 rfl).free (k * 4 + 1)
      have q2 := (Sv.own_at S5.out 0 rfl).cell (k * 4 + 2) (by have := HL.out.2.1; omega)
      have z2 := (Sv.own_at S5.out 0 rfl).free (k * 4 + 2)
      have q3 := (Sv.own_at S5.out 0 rfl).cell (k * 4 + 3) (by have := HL.out.2.1; omega)
      have z3 := (Sv.own_at S5.out 0 rfl).free (k * 4 + 3)
      go_wp2_with fail
      clear q0 z0 q1 z1 q2 z2 q3 z3
      have S6 := Lib.hid (show Sl.Sep w (World.setCells w2 g1 (k * 4) [.int .i64 kd, .int .i64 n, .string t, .slice a1 l.length c1]) [Sv.ownV 40 4 (some ⟨g1, 0, none⟩) N N (cellsI (ys ++ [⟨⟨kd, n, t⟩, a1, c1, l⟩]) ++ Zs.drop 4), Bag.bag (rowsI ys), Bag.bag ([(LI.mk ⟨kd, n, t⟩ a1 c1 l).row])] from (by have h := Run.put_run S5.out 0 rfl (k * 4) [.int .i64 kd, .int .i64 n, .string t, .slice a1 l.length c1] (by have := HL.out.2.1; simpa using this); rw [Run.over_at _ _ _ _ HL.out.1 (by have := HL.out.2.2; simpa using this)] at h; rw [cellsI_append, List.append_assoc]; exact h))
      clear S5
      have S7 := Lib.hid (show Sl.Sep w _ [Sv.ownV 40 4 (some ⟨g1, 0, none⟩) N N (cellsI (ys ++ [⟨⟨kd, n, t⟩, a1, c1, l⟩]) ++ Zs.drop 4), Bag.bag (rowsI ys ++ ([(LI.mk ⟨kd, n, t⟩ a1 c1 l).row])), Bag.bag ([])] from Bag.bag_join S6.out 1 2 (by decide) rfl rfl)
      clear S6
      have S8 := Lib.hid (show Sl.Sep w _ [Sv.ownV 40 4 (some ⟨g1, 0, none⟩) N N (cellsI (ys ++ [⟨⟨kd, n, t⟩, a1, c1, l⟩]) ++ Zs.drop 4), Bag.bag (rowsI ys ++ ([(LI.mk ⟨kd, n, t⟩ a1 c1 l).row]))] from Bag.take S7.out [0, 1] (by rfl) (by decide))
      clear S7
      go_roundw
      case rel =>
        refine ⟨k + 1, ys ++ [⟨⟨kd, n, t⟩, a1, c1, l⟩], Zs.drop 4, by omega, by go_num, And.intro ⟨?_, ?_, ?_⟩ ?_⟩
        · rw [HT.out, ← HC.out.1]; exact List.map_append
        · rw [List.length_append, HC.out.2.1]; rfl
        · rw [List.length_drop, HC.out.2.2]; omega
        · rw [rowsI_append]; exact S8.out
      case measure => simp [intOf]; omega
    · skip
      obtain rfl : k = N := by omega
      go_wp2_with fail
      go_ret
      obtain ⟨hc1, hc2, hc3⟩ := HC.out
      have hZs : Zs = [] := List.eq_nil_of_length_eq_zero (by rw [hc3]; omega)
      have hcon : conI ys = conI xs := by rw [hc1, List.take_of_length_le (by have := HN.out; simp; omega)]
      have S90 := Lib.hid (Bag.bag_of_one S4.out 0 (r := rowI (some ⟨g1, 0, none⟩) k ys) (by unfold RowS.res rowI; dsimp only; rw [hZs, List.append_nil, hc2]; rfl))
      have S91 := Lib.hid (Bag.bag_join S90.out 0 1 (by decide) rfl rfl)
      have hb := Bag.bag_from S91.out 0 rfl
      subst hc2
      exact ⟨_, _, ys, rfl, hcon, hb, S91.out.old⟩
set_option maxHeartbeats 4000000 in
theorem toStore_any (y : LS) (hf : FitS y.con) (w : World) (hr : RowsRd w w.heap.size y.rows) :
    Calls Try.prog 34 #[y.v] w (GaveS w y.con) := by
  have HTI := Lib.hid (fun w' (h : Below w.heap.size w w') => toItemS_any y.a y.c y.xs (by have h1 := hf.len; simpa [LS.con] using h1) hf.items w' (((LS.outer hr).below h).more h.size) (((LS.inner hr).below h).more h.size))
  obtain ⟨name, a, c, xs, auto⟩ := y
  have HR := Lib.hid (fun w' (h : Below w.heap.size w w') => LS.outer (hr.below h))
  have HX := Lib.hid (fun w' (h : Below w.heap.size w w') => (LS.inner (hr.below h)).more h.size)
  have HF := Lib.hid hf.items
  have HNM := Lib.hid hf.name
  have hl := hf.len
  simp only [LS.con, conI_length] at hl
  dsimp only [LS.con] at HR HX HF HNM
  try unfold LS.v LS.cells LS.con
  try dsimp only
  obtain ⟨N, hN⟩ : ∃ n, n = xs.length := ⟨_, rfl⟩
  rw [← hN] at hl ⊢
  have hl' : (N : Int) ≤ 1048576 := by omega
  have HN := Lib.hid hN
  clear hN hr hf
  dsimp only at HTI
  rw [← HN.out] at HTI
  have S1 := Lib.hid (show Sl.Sep w ((w.alloc (.cells #[.string name, .slice a N c, .int .i64 auto] 57)).alloc (.cells #[.string ⟨#[]⟩, .slice none 0 0, .int .i64 0] 26)) [L4.boxR w.heap.size 57 #[.string name, .slice a N c, .int .i64 auto], L4.boxR (w.heap.size + 1) 26 #[.string ⟨#[]⟩, .slice none 0 0, .int .i64 0]] from L4.push_box (L4.push_box (Sl.Sep.start w) 57 #[.string name, .slice a N c, .int .i64 auto] (w.heap.size) (by simp)) 26 #[.string ⟨#[]⟩, .slice none 0 0, .int .i64 0] (w.heap.size + 1) (by simp))
  obtain ⟨wa, hwa⟩ : ∃ u, u = ((w.alloc (.cells #[.string name, .slice a N c, .int .i64 auto] 57)).alloc (.cells #[.string ⟨#[]⟩, .slice none 0 0, .int .i64 0] 26)) := ⟨_, rfl⟩
  rw [← hwa] at S1
  go_enter Try.func34, Try.ntmps34
  go_upto_region 1 with fail
  rw [← hwa]
  clear hwa
  have f0 : World.cell? _ ⟨w.heap.size, 0, none⟩ = some (.string name) := Bag.cell_at S1.out 0 rfl 0 rfl
  have f1 : World.cell? _ ⟨w.heap.size, 1, none⟩ = some (.slice a N c) := Bag.cell_at S1.out 0 rfl 1 rfl
  have f2 : World.cell? _ ⟨w.heap.size, 2, none⟩ = some (.int .i64 auto) := Bag.cell_at S1.out 0 rfl 2 rfl
  have f3 : World.cell? _ ⟨w.heap.size + 1, 0, none⟩ = some (.string ⟨#[]⟩) := Bag.cell_at S1.out 1 rfl 0 rfl
  have f4 : World.cell? _ ⟨w.heap.size + 1, 1, none⟩ = some (.slice none 0 0) := Bag.cell_at S1.out 1 rfl 1 rfl
  have f5 : World.cell? _ ⟨w.heap.size + 1, 2, none⟩ = some (.int .i64 0) := Bag.cell_at S1.out 1 rfl 2 rfl
  go_upto_region 2 with fail
  clear f0 f1 f2 f3 f4 f5
  have S2 := Lib.hid (show Sl.Sep w _ [L4.boxR w.heap.size 57 #[.string name, .slice a N c, .int .i64 auto], L4.boxR (w.heap.size + 1) 26 #[.string ⟨#[]⟩, .slice none 0 0, .int .i64 0], L4.boxR wa.heap.size 26 #[.string ⟨#[]⟩, .slice none 0 0, .int .i64 0]] from L4.push_box S1.out 26 #[.string ⟨#[]⟩, .slice none 0 0, .int .i64 0] wa.heap.size rfl)
  clear S1
  obtain ⟨g1, hg⟩ : ∃ g', g' = wa.heap.size := ⟨_, rfl⟩
  rw [← hg] at S2 ⊢
  clear hg
  generalize wa.alloc (.cells #[.string ⟨#[]⟩, .slice none 0 0, .int .i64 0] 26) = w1 at S2 ⊢
  have f0 : World.cell? _ ⟨w.heap.size, 0, none⟩ = some (.string name) := Bag.cell_at S2.out 0 rfl 0 rfl
  have f1 : World.cell? _ ⟨w.heap.size, 1, none⟩ = some (.slice a N c) := Bag.cell_at S2.out 0 rfl 1 rfl
  have f2 : World.cell? _ ⟨w.heap.size, 2, none⟩ = some (.int .i64 auto) := Bag.cell_at S2.out 0 rfl 2 rfl
  have f3 : World.cell? _ ⟨w.heap.size + 1, 0, none⟩ = some (.string ⟨#[]⟩) := Bag.cell_at S2.out 1 rfl 0 rfl
  have f4 : World.cell? _ ⟨w.heap.size + 1, 1, none⟩ = some (.slice none 0 0) := Bag.cell_at S2.out 1 rfl 1 rfl
  have f5 : World.cell? _ ⟨w.heap.size + 1, 2, none⟩ = some (.int .i64 0) := Bag.cell_at S2.out 1 rfl 2 rfl
  have f6 : World.cell? _ ⟨g1, 0, none⟩ = some (.string ⟨#[]⟩) := Bag.cell_at S2.out 2 rfl 0 rfl
  have f7 : World.cell? _ ⟨g1, 1, none⟩ = some (.slice none 0 0) := Bag.cell_at S2.out 2 rfl 1 rfl
  have f8 : World.cell? _ ⟨g1, 2, none⟩ = some (.int .i64 0) := Bag.cell_at S2.out 2 rfl 2 rfl
  have z0 := Bag.free_at S2.out 2 rfl 0
  have z1 := Bag.free_at S2.out 2 rfl 1
  have z2 := Bag.free_at S2.out 2 rfl 2
  go_upto_region 3 with fail
  clear f0 f1 f2 f3 f4 f5 f6 f7 f8 z0 z1 z2
  have S3 := Lib.hid (show Sl.Sep w _ [L4.boxR w.heap.size 57 #[.string name, .slice a N c, .int .i64 auto], L4.boxR (w.heap.size + 1) 26 #[.string ⟨#[]⟩, .slice none 0 0, .int .i64 0], L4.boxR g1 26 #[.string name, .slice none 0 0, .int .i64 0]] from L5.put_box5 (S2.out) 2 rfl 0 (.string name))
  clear S2
  have f0 : World.cell? _ ⟨w.heap.size, 0, none⟩ = some (.string name) := Bag.cell_at S3.out 0 rfl 0 rfl
  have f1 : World.cell? _ ⟨w.heap.size, 1, none⟩ = some (.slice a N c) := Bag.cell_at S3.out 0 rfl 1 rfl
  have f2 : World.cell? _ ⟨w.heap.size, 2, none⟩ = some (.int .i64 auto) := Bag.cell_at S3.out 0 rfl 2 rfl
  have f3 : World.cell? _ ⟨w.heap.size + 1, 0, none⟩ = some (.string ⟨#[]⟩) := Bag.cell_at S3.out 1 rfl 0 rfl
  have f4 : World.cell? _ ⟨w.heap.size + 1, 1, none⟩ = some (.slice none 0 0) := Bag.cell_at S3.out 1 rfl 1 rfl
  have f5 : World.cell? _ ⟨w.heap.size + 1, 2, none⟩ = some (.int .i64 0) := Bag.cell_at S3.out 1 rfl 2 rfl
  have f6 : World.cell? _ ⟨g1, 0, none⟩ = some (.string name) := Bag.cell_at S3.out 2 rfl 0 rfl
  have f7 : World.cell? _ ⟨g1, 1, none⟩ = some (.slice none 0 0) := Bag.cell_at S3.out 2 rfl 1 rfl
  have f8 : World.cell? _ ⟨g1, 2, none⟩ = some (.int .i64 0) := Bag.cell_at S3.out 2 rfl 2 rfl
  go_wp2_with fail
  go_at_call 92
  refine (HTI.out _ S3.out.old).mono ?_
  rintro e w2 ⟨a1, c1, ys, rfl, hcon, ho, hb⟩
  clear f0 f1 f2 f3 f4 f5 f6 f7 f8
  have S4 := Lib.hid (show Sl.Sep w _ [L4.boxR w.heap.size 57 #[.string name, .slice a N c, .int .i64 auto], L4.boxR (w.heap.size + 1) 26 #[.string ⟨#[]⟩, .slice none 0 0, .int .i64 0], L4.boxR g1 26 #[.string name, .slice none 0 0, .int .i64 0], Bag.bag (rowI a1 c1 ys :: rowsI ys)] from Bag.push_bag S3.out hb ho)
  clear S3
  clear hb ho
  have HCON := Lib.hid hcon
  clear hcon
  have f0 : World.cell? _ ⟨w.heap.size, 0, none⟩ = some (.string name) := Bag.cell_at S4.out 0 rfl 0 rfl
  have f1 : World.cell? _ ⟨w.heap.size, 1, none⟩ = some (.slice a N c) := Bag.cell_at S4.out 0 rfl 1 rfl
  have f2 : World.cell? _ ⟨w.heap.size, 2, none⟩ = some (.int .i64 auto) := Bag.cell_at S4.out 0 rfl 2 rfl
  have f3 : World.cell? _ ⟨w.heap.size + 1, 0, none⟩ = some (.string ⟨#[]⟩) := Bag.cell_at S4.out 1 rfl 0 rfl
  have f4 : World.cell? _ ⟨w.heap.size + 1, 1, none⟩ = some (.slice none 0 0) := Bag.cell_at S4.out 1 rfl 1 rfl
  have f5 : World.cell? _ ⟨w.heap.size + 1, 2, none⟩ = some (.int .i64 0) := Bag.cell_at S4.out 1 rfl 2 rfl
  have f6 : World.cell? _ ⟨g1, 0, none⟩ = some (.string name) := Bag.cell_at S4.out 2 rfl 0 rfl
  have f7 : World.cell? _ ⟨g1, 1, none⟩ = some (.slice none 0 0) := Bag.cell_at S4.out 2 rfl 1 rfl
  have f8 : World.cell? _ ⟨g1, 2, none⟩ = some (.int .i64 0) := Bag.cell_at S4.out 2 rfl 2 rfl
  have z0 := Bag.free_at S4.out 2 rfl 0
  have z1 := Bag.free_at S4.out 2 rfl 1
  have z2 := Bag.free_at S4.out 2 rfl 2
  go_upto_region 4 with fail
  clear f0 f1 f2 f3 f4 f5 f6 f7 f8 z0 z1 z2
  have S5 := Lib.hid (show Sl.Sep w _ [L4.boxR w.heap.size 57 #[.string name, .slice a N c, .int .i64 auto], L4.boxR (w.heap.size + 1) 26 #[.string ⟨#[]⟩, .slice none 0 0, .int .i64 0], L4.boxR g1 26 #[.string name, .slice a1 ys.length c1, .int .i64 0], Bag.bag (rowI a1 c1 ys :: rowsI ys)] from L5.put_box5 (S4.out) 2 rfl 1 (.slice a1 ys.length c1))
  clear S4
  have f0 : World.cell? _ ⟨w.heap.size, 0, none⟩ = some (.string name) := Bag.cell_at S5.out 0 rfl 0 rfl
  have f1 : World.cell? _ ⟨w.heap.size, 1, none⟩ = some (.slice a N c) := Bag.cell_at S5.out 0 rfl 1 rfl
  have f2 : World.cell? _ ⟨w.heap.size, 2, none⟩ = some (.int .i64 auto) := Bag.cell_at S5.out 0 rfl 2 rfl
  have f3 : World.cell? _ ⟨w.heap.size + 1, 0, none⟩ = some (.string ⟨#[]⟩) := Bag.cell_at S5.out 1 rfl 0 rfl
  have f4 : World.cell? _ ⟨w.heap.size + 1, 1, none⟩ = some (.slice none 0 0) := Bag.cell_at S5.out 1 rfl 1 rfl
  have f5 : World.cell? _ ⟨w.heap.size + 1, 2, none⟩ = some (.int .i64 0) := Bag.cell_at S5.out 1 rfl 2 rfl
  have f6 : World.cell? _ ⟨g1, 0, none⟩ = some (.string name) := Bag.cell_at S5.out 2 rfl 0 rfl
  have f7 : World.cell? _ ⟨g1, 1, none⟩ = some (.slice a1 ys.length c1) := Bag.cell_at S5.out 2 rfl 1 rfl
  have f8 : World.cell? _ ⟨g1, 2, none⟩ = some (.int .i64 0) := Bag.cell_at S5.out 2 rfl 2 rfl
  have z0 := Bag.free_at S5.out 2 rfl 0
  have z1 := Bag.free_at S5.out 2 rfl 1
  have z2 := Bag.free_at S5.out 2 rfl 2
  go_upto_region 5 with fail
  clear f0 f1 f2 f3 f4 f5 f6 f7 f8 z0 z1 z2
  have S6 := Lib.hid (show Sl.Sep w _ [L4.boxR w.heap.size 57 #[.string name, .slice a N c, .int .i64 auto], L4.boxR (w.heap.size + 1) 26 #[.string ⟨#[]⟩, .slice none 0 0, .int .i64 0], L4.boxR g1 26 #[.string name, .slice a1 ys.length c1, .int .i64 auto], Bag.bag (rowI a1 c1 ys :: rowsI ys)] from L5.put_box5 (S5.out) 2 rfl 2 (.int .i64 auto))
  clear S5
  have f0 : World.cell? _ ⟨w.heap.size, 0, none⟩ = some (.string name) := Bag.cell_at S6.out 0 rfl 0 rfl
  have f1 : World.cell? _ ⟨w.heap.size, 1, none⟩ = some (.slice a N c) := Bag.cell_at S6.out 0 rfl 1 rfl
  have f2 : World.cell? _ ⟨w.heap.size, 2, none⟩ = some (.int .i64 auto) := Bag.cell_at S6.out 0 rfl 2 rfl
  have f3 : World.cell? _ ⟨w.heap.size + 1, 0, none⟩ = some (.string ⟨#[]⟩) := Bag.cell_at S6.out 1 rfl 0 rfl
  have f4 : World.cell? _ ⟨w.heap.size + 1, 1, none⟩ = some (.slice none 0 0) := Bag.cell_at S6.out 1 rfl 1 rfl
  have f5 : World.cell? _ ⟨w.heap.size + 1, 2, none⟩ = some (.int .i64 0) := Bag.cell_at S6.out 1 rfl 2 rfl
  have f6 : World.cell? _ ⟨g1, 0, none⟩ = some (.string name) := Bag.cell_at S6.out 2 rfl 0 rfl
  have f7 : World.cell? _ ⟨g1, 1, none⟩ = some (.slice a1 ys.length c1) := Bag.cell_at S6.out 2 rfl 1 rfl
  have f8 : World.cell? _ ⟨g1, 2, none⟩ = some (.int .i64 auto) := Bag.cell_at S6.out 2 rfl 2 rfl
  have z0 := Bag.free_at S6.out 1 rfl 0
  have z1 := Bag.free_at S6.out 1 rfl 1
  have z2 := Bag.free_at S6.out 1 rfl 2
  go_wp2_with fail
  clear f0 f1 f2 f3 f4 f5 f6 f7 f8 z0 z1 z2
  have S7 := Lib.hid (show Sl.Sep w _ [L4.boxR w.heap.size 57 #[.string name, .slice a N c, .int .i64 auto], L4.boxR (w.heap.size + 1) 26 #[.string name, .slice a1 ys.length c1, .int .i64 auto], L4.boxR g1 26 #[.string name, .slice a1 ys.length c1, .int .i64 auto], Bag.bag (rowI a1 c1 ys :: rowsI ys)] from L5.put_box5 (L5.put_box5 (L5.put_box5 (S6.out) 1 rfl 0 (.string name)) 1 rfl 1 (.slice a1 ys.length c1)) 1 rfl 2 (.int .i64 auto))
  clear S6
  have f0 : World.cell? _ ⟨w.heap.size + 1, 0, none⟩ = some (.string name) := Bag.cell_at S7.out 1 rfl 0 rfl
  have f1 : World.cell? _ ⟨w.heap.size + 1, 1, none⟩ = some (.slice a1 ys.length c1) := Bag.cell_at S7.out 1 rfl 1 rfl
  have f2 : World.cell? _ ⟨w.heap.size + 1, 2, none⟩ = some (.int .i64 auto) := Bag.cell_at S7.out 1 rfl 2 rfl
  refine bodyPost_ret (v := .agg #[.string name, .slice a1 ys.length c1, .int .i64 auto]) (by simp [results, Try.results34, go_sem, *]) rfl ?_
  exact ⟨⟨name, a1, c1, ys, auto⟩, rfl, by unfold LS.con; dsimp only; rw [HCON.out], Bag.bag_from S7.out 3 rfl, S7.out.old⟩
def RoomI (x : It) (u : Int) : Prop := -1 ≤ u ∧ u ≤ 1048576 ∧ (0 ≤ u → FitI x)
def RoomX (xs : List It) (u : Int) : Prop := -1 ≤ u ∧ u ≤ 1048576 ∧ (0 ≤ u → xs.length ≤ 1048576 ∧ ∀ x ∈ xs, FitI x)
def RoomS (s : S6) (u : Int) : Prop := -1 ≤ u ∧ u ≤ 1048576 ∧ (0 ≤ u → FitS s)
set_option maxHeartbeats 2000000 in
theorem szItem_any (kd n : Int) (s : ByteArray) (a : Option Addr) (c : Nat) (l : List F) (q : Int) (hw : WideI ⟨⟨kd, n, s⟩, l⟩) (hq0 : -1 ≤ q) (hq1 : q ≤ 1048576) (w : World) (hr : Reads w w.heap.size a (cellsF l)) :
    Calls Try.prog 124 #[.agg #[.int .i64 kd, .int .i64 n, .string s, .slice a l.length c], .int .i64 q] w fun e w' => ∃ u, e = .returned (.int .i64 u) ∧ RoomI ⟨⟨kd, n, s⟩, l⟩ u ∧ Below w.heap.size w w' := by
  have HSK := Lib.hid (fun w' => L4.szKey_any ⟨kd, n, s⟩ q (show s.size ≤ _ from hw.text) hq0 hq1 w')
  have HSR := Lib.hid (fun (m : Int) (h0 : -1 ≤ m) (h1 : m ≤ 1048576) w' (h : Below w.heap.size w w') => L5.szRecord_any a c l m hw.fields hw.len h0 h1 w' ((hr.below h).more h.size))
  unfold L4.K.v at HSK
  obtain ⟨m, hm⟩ : ∃ m, L4.left q s = m := ⟨_, rfl⟩
  have hmr := L4.left_range q s hq1
  have HMS := Lib.hid (fun h : ¬ m < 0 => L4.left_small (n := q) (s := s) (by rw [hm]; exact h))
  rw [hm] at hmr
  dsimp only at HSK
  rw [hm] at HSK
  obtain ⟨hm0, hm1⟩ := hmr
  obtain ⟨N, hN⟩ : ∃ n, n = l.length := ⟨_, rfl⟩
  rw [← hN] at HSR ⊢
  clear hN hr hm hw
  have S1 := Lib.hid (show Sl.Sep w (w.alloc (.cells #[.int .i64 kd, .int .i64 n, .string s, .slice a N c] 140)) [L4.boxR w.heap.size 140 #[.int .i64 kd, .int .i64 n, .string s, .slice a N c]] from L4.push_box (Sl.Sep.start w) 140 #[.int .i64 kd, .int .i64 n, .string s, .slice a N c] (w.heap.size) (by simp))
  obtain ⟨wa, hwa⟩ : ∃ u, u = (w.alloc (.cells #[.int .i64 kd, .int .i64 n, .string s, .slice a N c] 140)) := ⟨_, rfl⟩
  rw [← hwa] at S1
  go_enter Try.func124, Try.ntmps124
  go_upto_region 1 with fail
  rw [← hwa]
  clear hwa
  have f0 : World.cell? _ ⟨w.heap.size, 0, none⟩ = some (.int .i64 kd) := Bag.cell_at S1.out 0 rfl 0 rfl
  have f1 : World.cell? _ ⟨w.heap.size, 1, none⟩ = some (.int .i64 n) := Bag.cell_at S1.out 0 rfl 1 rfl
  have f2 : World.cell? _ ⟨w.heap.size, 2, none⟩ = some (.string s) := Bag.cell_at S1.out 0 rfl 2 rfl
  have f3 : World.cell? _ ⟨w.heap.size, 3, none⟩ = some (.slice a N c) := Bag.cell_at S1.out 0 rfl 3 rfl
  go_wp2_with fail
  go_at_call 36
  refine (HSK.out _).mono ?_
  rintro e w1 ⟨rfl, hb⟩
  clear f0 f1 f2 f3
  have S2 := Lib.hid (show Sl.Sep w _ [L4.boxR w.heap.size 140 #[.int .i64 kd, .int .i64 n, .string s, .slice a N c]] from S1.out.keep hb)
  clear S1
  clear hb
  have f0 : World.cell? _ ⟨w.heap.size, 0, none⟩ = some (.int .i64 kd) := Bag.cell_at S2.out 0 rfl 0 rfl
  have f1 : World.cell? _ ⟨w.heap.size, 1, none⟩ = some (.int .i64 n) := Bag.cell_at S2.out 0 rfl 1 rfl
  have f2 : World.cell? _ ⟨w.heap.size, 2, none⟩ = some (.string s) := Bag.cell_at S2.out 0 rfl 2 rfl
  have f3 : World.cell? _ ⟨w.heap.size, 3, none⟩ = some (.slice a N c) := Bag.cell_at S2.out 0 rfl 3 rfl
  by_cases hneg : m < 0
  · skip
    go_wp2_with fail
    go_ret
    exact ⟨-1, rfl, ⟨by omega, by omega, fun h => absurd h (by omega)⟩, S2.out.old⟩
  · skip
    go_wp2_with fail
    go_at_call 39
    refine (HSR.out m (by omega) hm1 _ S2.out.old).mono ?_
    rintro e w2 ⟨u, rfl, ro, hb⟩
    clear f0 f1 f2 f3
    have S3 := Lib.hid (show Sl.Sep w _ [L4.boxR w.heap.size 140 #[.int .i64 kd, .int .i64 n, .string s, .slice a N c]] from S2.out.keep hb)
    clear S2
    clear hb
    have f0 : World.cell? _ ⟨w.heap.size, 0, none⟩ = some (.int .i64 kd) := Bag.cell_at S3.out 0 rfl 0 rfl
    have f1 : World.cell? _ ⟨w.heap.size, 1, none⟩ = some (.int .i64 n) := Bag.cell_at S3.out 0 rfl 1 rfl
    have f2 : World.cell? _ ⟨w.heap.size, 2, none⟩ = some (.string s) := Bag.cell_at S3.out 0 rfl 2 rfl
    have f3 : World.cell? _ ⟨w.heap.size, 3, none⟩ = some (.slice a N c) := Bag.cell_at S3.out 0 rfl 3 rfl
    have HRO := Lib.hid ro
    obtain ⟨hu0, hu1, -⟩ := ro
    by_cases hneg2 : u < 0
    · skip
      go_wp2_with fail
      go_ret
      exact ⟨-1, rfl, ⟨by omega, by omega, fun h => absurd h (by omega)⟩, S3.out.old⟩
    · skip
      go_wp2_with fail
      go_ret
      obtain ⟨h1, h2⟩ := HRO.out.out (by omega) hm1
      have h3 := HMS.out (by omega)
      exact ⟨u, rfl, ⟨hu0, hu1, fun _ => ⟨by show s.size ≤ _; omega, h1, h2⟩⟩, S3.out.old⟩
set_option maxHeartbeats 4000000 in
theorem szItemS_any (a : Option Addr) (c : Nat) (xs : List LI) (q : Int) (hw : ∀ x ∈ conI xs, WideI x) (hm : xs.length ≤ maxLen) (hq0 : -1 ≤ q) (hq1 : q ≤ 1048576) (w : World) (hr : Reads w w.heap.size a (cellsI xs)) (hx : RowsRd w w.heap.size (rowsI xs)) :
    Calls Try.prog 91 #[.slice a xs.length c, .int .i64 q] w fun e w' => ∃ u, e = .returned (.int .i64 u) ∧ RoomX (conI xs) u ∧ Below w.heap.size w w' := by
  have HR := Lib.hid (fun w' (h : Below w.heap.size w w') => hr.below h)
  have HX := Lib.hid (fun w' (h : Below w.heap.size w w') => (hx.below h).more h.size)
  have HW := Lib.hid hw
  obtain ⟨N, hN⟩ : ∃ n, n = xs.length := ⟨_, rfl⟩
  rw [← hN] at hm ⊢
  have HN := Lib.hid hN
  have hm' : (N : Int) ≤ 9223372036854775807 := by unfold maxLen at hm; omega
  clear hN hr hx hw hm
  have S1 := Lib.hid (show Sl.Sep w w [] from Sl.Sep.start w)
  by_cases hneg : q - (N : Int) < 0
  · skip
    go_enter Try.func91, Try.ntmps91
    go_wp2_with fail
    go_ret
    exact ⟨-1, rfl, ⟨by omega, by omega, fun h => absurd h (by omega)⟩, Below.refl _ _⟩
  · skip
    go_enter Try.func91, Try.ntmps91
    go_wp2_with fail
    go_loopw [1, 5] (fun lv i wr => ∃ (k : Nat) (m : Int), k ≤ N ∧ i = .int .i64 k ∧ lv = .int .i64 m ∧ 0 ≤ m ∧ m ≤ 1048576 ∧ Hid ((∀ j (hj : j < (conI xs).length), j < k → FitI (conI xs)[j]) ∧ Sl.Sep w wr [])) (fun _ i _ => N - (intOf i).toNat)
    case atStart => exact ⟨0, q - N, Nat.zero_le _, rfl, rfl, by omega, by omega, And.intro (fun j hj h => absurd h (by omega)) S1.out⟩
    case round =>
      obtain ⟨k, m, hk, rfl, rfl, hm0, hm1, hrel⟩ := hrel
      have HA := Lib.hid hrel.out.1
      have S2 := Lib.hid hrel.out.2
      clear hrel S1
      by_cases hlt : (k : Int) < (N : Int)
      · skip
        have hkl : k < xs.length := by have := HN.out; omega
        obtain ⟨ad, x, rfl, hx⟩ := readsI_some (HR.out _ S2.out.old) k hkl
        have HC := Lib.hid (show (conI xs)[k]? = some x.con from by unfold conI; rw [List.getElem?_map, hx]; rfl)
        obtain ⟨⟨kd, n, t⟩, ia, ic, l⟩ := x
        have HK := Lib.hid (fun w' (h : Below w.heap.size w w') => readsI_at (HR.out _ h) k _ hx)
        try dsimp only at HK
        have HSI := Lib.hid (fun w' (h : Below w.heap.size w w') => szItem_any kd n t ia ic l m (HW.out _ (List.mem_of_getElem? HC.out)) (by omega) hm1 w' (((HX.out _ h).at_ (rowsI_mem hx)).reads))
        try dsimp only at HSI
        clear hx
        have f0 : World.cell? _ (ad.add (k * 4)) = some (.int .i64 kd) := (HK.out _ S2.out.old).1
        have f1 : World.cell? _ (⟨(ad.add (k * 4)).block, (ad.add (k * 4)).off + 1, none⟩) = some (.int .i64 n) := (HK.out _ S2.out.old).2.1
        have f2 : World.cell? _ (⟨(ad.add (k * 4)).block, (ad.add (k * 4)).off + 2, none⟩) = some (.string t) := (HK.out _ S2.out.old).2.2.1
        have f3 : World.cell? _ (⟨(ad.add (k * 4)).block, (ad.add (k * 4)).off + 3, none⟩) = some (.slice ia l.length ic) := (HK.out _ S2.out.old).2.2.2
        go_wp2_with fail
        go_at_call 124
        refine (HSI.out _ S2.out.old).mono ?_
        rintro e w1 ⟨u, rfl, ro, hb⟩
        clear f0 f1 f2 f3
        have S3 := Lib.hid (show Sl.Sep w _ [] from S2.out.keep hb)
        clear S2
        clear hb
        have HRO := Lib.hid ro
        obtain ⟨hu0, hu1, -⟩ := ro
        by_cases h0 : u < 0
        · skip
          go_wp2_with fail
          go_ret
          exact ⟨-1, rfl, ⟨by omega, by omega, fun h => absurd h (by omega)⟩, S3.out.old⟩
        · skip
          go_wp2_with fail
          go_roundw
          case rel => exact ⟨k + 1, u, by omega, by go_num, rfl, by omega, hu1, And.intro (fun j hj h => by
            by_cases e : j < k
            · exact HA.out j hj e
            · obtain rfl : j = k := by omega
              rw [(List.getElem?_eq_some_iff.1 HC.out).2]; exact HRO.out.2.2 (by omega)) S3.out⟩
          case measure => simp [intOf]; omega
      · skip
        go_wp2_with fail
        go_ret
        exact ⟨m, rfl, ⟨by omega, hm1, fun _ => ⟨by rw [conI_length, ← HN.out]; omega, fun x hx => by obtain ⟨j, hj, rfl⟩ := List.getElem_of_mem hx; exact HA.out j hj (by rw [conI_length] at hj; have := HN.out; omega)⟩⟩, S2.out.old⟩
set_option maxHeartbeats 4000000 in
theorem szStore_any (y : LS) (q : Int) (hw : WideS y.con) (hq0 : -1 ≤ q) (hq1 : q ≤ 1048576) (w : World) (hr : RowsRd w w.heap.size y.rows) :
    Calls Try.prog 33 #[y.v, .int .i64 q] w fun e w' => ∃ u, e = .returned (.int .i64 u) ∧ RoomS y.con u ∧ Below w.heap.size w w' := by
  have HSI := Lib.hid (fun (m : Int) (h0 : -1 ≤ m) (h1 : m ≤ 1048576) w' (h : Below w.heap.size w w') => szItemS_any y.a y.c y.xs m hw.items (by have h1 := hw.len; simpa [LS.con] using h1) h0 h1 w' (((LS.outer hr).below h).more h.size) (((LS.inner hr).below h).more h.size))
  obtain ⟨name, a, c, xs, auto⟩ := y
  unfold LS.v LS.cells LS.con
  have hs : (name.size : Int) ≤ 9223372036854775807 := by have h : name.size ≤ maxLen := hw.name; unfold maxLen at h; omega
  dsimp only at HSI ⊢
  obtain ⟨N, hN⟩ : ∃ n, n = xs.length := ⟨_, rfl⟩
  rw [← hN] at HSI ⊢
  clear hN hr hw
  have S1 := Lib.hid (show Sl.Sep w (w.alloc (.cells #[.string name, .slice a N c, .int .i64 auto] 57)) [L4.boxR w.heap.size 57 #[.string name, .slice a N c, .int .i64 auto]] from L4.push_box (Sl.Sep.start w) 57 #[.string name, .slice a N c, .int .i64 auto] (w.heap.size) (by simp))
  obtain ⟨wa, hwa⟩ : ∃ u, u = (w.alloc (.cells #[.string name, .slice a N c, .int .i64 auto] 57)) := ⟨_, rfl⟩
  rw [← hwa] at S1
  go_enter Try.func33, Try.ntmps33
  go_upto_region 1 with fail
  rw [← hwa]
  clear hwa
  have f0 : World.cell? _ ⟨w.heap.size, 0, none⟩ = some (.string name) := Bag.cell_at S1.out 0 rfl 0 rfl
  have f1 : World.cell? _ ⟨w.heap.size, 1, none⟩ = some (.slice a N c) := Bag.cell_at S1.out 0 rfl 1 rfl
  have f2 : World.cell? _ ⟨w.heap.size, 2, none⟩ = some (.int .i64 auto) := Bag.cell_at S1.out 0 rfl 2 rfl
  by_cases hneg : q - (name.size : Int) < 0
  · skip
    go_wp2_with fail
    go_ret
    exact ⟨-1, rfl, ⟨by omega, by omega, fun h => absurd h (by omega)⟩, S1.out.old⟩
  · skip
    go_wp2_with fail
    go_at_call 91
    refine (HSI.out (q - name.size) (by omega) (by omega) _ S1.out.old).mono ?_
    rintro e w1 ⟨u, rfl, ro, hb⟩
    clear f0 f1 f2
    have S2 := Lib.hid (show Sl.Sep w _ [L4.boxR w.heap.size 57 #[.string name, .slice a N c, .int .i64 auto]] from S1.out.keep hb)
    clear S1
    clear hb
    have f0 : World.cell? _ ⟨w.heap.size, 0, none⟩ = some (.string name) := Bag.cell_at S2.out 0 rfl 0 rfl
    have f1 : World.cell? _ ⟨w.heap.size, 1, none⟩ = some (.slice a N c) := Bag.cell_at S2.out 0 rfl 1 rfl
    have f2 : World.cell? _ ⟨w.heap.size, 2, none⟩ = some (.int .i64 auto) := Bag.cell_at S2.out 0 rfl 2 rfl
    have HRO := Lib.hid ro
    obtain ⟨hu0, hu1, -⟩ := ro
    by_cases hneg2 : u < 0
    · skip
      go_wp2_with fail
      go_ret
      exact ⟨-1, rfl, ⟨by omega, by omega, fun h => absurd h (by omega)⟩, S2.out.old⟩
    · skip
      go_wp2_with fail
      go_ret
      obtain ⟨h1, h2⟩ := HRO.out.2.2 (by omega)
      exact ⟨u, rfl, ⟨hu0, hu1, fun _ => ⟨by show name.size ≤ _; omega, h1, h2⟩⟩, S2.out.old⟩
end Go.Proofs.Ytkfejjoehgipmaa.L6
