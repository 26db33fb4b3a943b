/-
  The contract of chapter 5's copyRecord of the program. Condition: at most 2^40 fields. (Written by my program gen_l5cp.py.)
-/
import Derived.Test.YtephiilicebdcaaRun
import Derived.Test.YtephiilicebdcaaL5Set
namespace Go.Proofs.Ytephiilicebdcaa.L5
set_option maxRecDepth 100000
open L4 (boxR push_box box_at)
open Go.ChangeShapes Go.WideShapes Go.ChangeAt Go.RowKit Mem Sl Ex L2 Sv Bag Run
set_option linter.unusedVariables false
set_option linter.unusedSimpArgs false

set_option maxHeartbeats 1000000 in
theorem copyRecord_any (a : Option Addr) (c : Nat) (l : List F) (hl : l.length ≤ 1099511627776) (w : World) (hr : Reads w w.heap.size a (cellsF l)) :
    Calls Try.prog 33 #[.agg #[.slice a l.length c]] w fun e w' => ∃ a' c', e = .returned (.agg #[.slice a' l.length c']) ∧ OwnV w' w.heap.size 64 2 a' c' l.length (cellsF l) ∧ Below w.heap.size w w' := by
  obtain ⟨i0, hi, hz0, hz1, hz2⟩ := fieldInfo
  obtain ⟨n, hn⟩ : ∃ n, n = l.length := ⟨_, rfl⟩
  rw [← hn] at hl ⊢
  have HR := Lib.hid (fun w' (h : Below w.heap.size w w') => hr.below h)
  have HC := Lib.hid (show (cellsF l).length = Nat.min n n * 2 by rw [cellsF_length, hn, show Nat.min l.length l.length = l.length from Nat.min_self _])
  have HM := Lib.hid (show (madeCells (Value.agg #[.string ⟨#[]⟩, .int .i64 0]).cells (n * 2)).toList.length = (cellsF l).length by rw [cellsF_length, ← hn]; simp [madeCells])
  have HI := Lib.hid (And.intro hi (And.intro hz0 (And.intro hz1 hz2)))
  have hl' : (n : Int) ≤ 1099511627776 := by omega
  clear hn hr hi hz0 hz1 hz2
  have S1 := Lib.hid (show Sl.Sep w ((w.alloc (.cells #[.slice a n c] 26)).alloc (.cells #[.slice none 0 0] 26)) [L4.boxR w.heap.size 26 #[.slice a n c], L4.boxR (w.heap.size + 1) 26 #[.slice none 0 0]] from L4.push_box (L4.push_box (Sl.Sep.start w) 26 #[.slice a n c] (w.heap.size) (by simp)) 26 #[.slice none 0 0] (w.heap.size + 1) (by simp))
  obtain ⟨wa, hwa⟩ : ∃ u, u = ((w.alloc (.cells #[.slice a n c] 26)).alloc (.cells #[.slice none 0 0] 26)) := ⟨_, rfl⟩
  rw [← hwa] at S1
  go_enter Try.func33, Try.ntmps33
  go_upto_region 1 with fail
  rw [← hwa]
  clear hwa
  have f0 : World.cell? _ ⟨w.heap.size, 0, none⟩ = some (.slice a n c) := Bag.cell_at S1.out 0 rfl 0 rfl
  have f1 : World.cell? _ ⟨w.heap.size + 1, 0, none⟩ = some (.slice none 0 0) := Bag.cell_at S1.out 1 rfl 0 rfl
  go_upto_region 2 with (at_make; refine wpList_make_s S1.out rfl _ _ 24 rfl 64 i0 (.agg #[.string ⟨#[]⟩, .int .i64 0]) 2 Try.underlying24 HI.out.1 HI.out.2.1 HI.out.2.2.1 _ _ n rfl rfl (by rw [HI.out.2.2.2]; omega) (by unfold maxLen; omega) ?_; intro w1 S')
  clear f0 f1
  obtain ⟨g1, hg⟩ : ∃ g', g' = wa.heap.size := ⟨_, rfl⟩
  rw [← hg] at S' ⊢
  clear hg
  have S2 := Lib.hid (show Sl.Sep w _ [L4.boxR w.heap.size 26 #[.slice a n c], L4.boxR (w.heap.size + 1) 26 #[.slice none 0 0], Sv.ownV 64 2 (some ⟨g1, 0, none⟩) n n ((madeCells (Value.agg #[.string ⟨#[]⟩, .int .i64 0]).cells (n * 2)).toList)] from S')
  clear S1
  clear S'
  have f0 : World.cell? _ ⟨w.heap.size, 0, none⟩ = some (.slice a n c) := Bag.cell_at S2.out 0 rfl 0 rfl
  have f1 : World.cell? _ ⟨w.heap.size + 1, 0, none⟩ = some (.slice none 0 0) := Bag.cell_at S2.out 1 rfl 0 rfl
  have hcp := fun ty => run_copy_s (P := Try.prog) S2.out 2 rfl 24 24 ty i0 Try.underlying24 HI.out.1 HI.out.2.2.1 0 n n n c a (cellsF l) HC.out w.heap.size (HR.out _ S2.out.old) (by rw [HM.out]; omega) (cellsF_one l)
  obtain ⟨w2, hw⟩ : ∃ u, u = World.setCells w1 g1 0 (cellsF l) := ⟨_, rfl⟩
  rw [← hw] at hcp
  have HW := Lib.hid hw
  clear hw
  go_upto_region 3 with fail
  clear f0 f1
  have S3 := Lib.hid (show Sl.Sep w _ [L4.boxR w.heap.size 26 #[.slice a n c], L4.boxR (w.heap.size + 1) 26 #[.slice none 0 0], Sv.ownV 64 2 (some ⟨g1, 0, none⟩) n n (cellsF l)] from (by have h := Run.put_run S2.out 2 rfl 0 (cellsF l) (by rw [HM.out]; omega); rw [← HW.out, over_all _ _ HM.out] at h; exact h))
  clear S2
  clear hcp HW
  have f0 : World.cell? _ ⟨w.heap.size, 0, none⟩ = some (.slice a n c) := Bag.cell_at S3.out 0 rfl 0 rfl
  have f1 : World.cell? _ ⟨w.heap.size + 1, 0, none⟩ = some (.slice none 0 0) := Bag.cell_at S3.out 1 rfl 0 rfl
  have z0 := Bag.free_at S3.out 1 rfl 0
  go_wp2_with fail
  clear f0 f1 z0
  have S4 := Lib.hid (show Sl.Sep w _ [L4.boxR w.heap.size 26 #[.slice a n c], L4.boxR (w.heap.size + 1) 26 #[.slice (some ⟨g1, 0, none⟩) n n], Sv.ownV 64 2 (some ⟨g1, 0, none⟩) n n (cellsF l)] from L5.put_box5 (S3.out) 1 rfl 0 (.slice (some ⟨g1, 0, none⟩) n n))
  clear S3
  have f0 : World.cell? _ ⟨w.heap.size + 1, 0, none⟩ = some (.slice (some ⟨g1, 0, none⟩) n n) := Bag.cell_at S4.out 1 rfl 0 rfl
  refine bodyPost_ret (v := .agg #[.slice (some ⟨g1, 0, none⟩) n n]) (by simp [results, Try.results33, go_sem, *]) rfl ?_
  exact ⟨_, _, rfl, Sv.own_from S4.out 2 rfl, S4.out.old⟩
end Go.Proofs.Ytephiilicebdcaa.L5
