/-
  Chapter 5's draws over several things that lie apart: l5Any, DrawSetField, DrawDecodeRecord. No condition but that the code is a slice of bytes of at most 2^62 places. (The regions that draw their order are written by my program gen_sd6.py.)
-/
import Derived.Test.YtephiilicebdcaaSd5
import Derived.Test.YtephiilicebdcaaL5Dec
namespace Go.Proofs.Ytephiilicebdcaa.L5
set_option maxRecDepth 100000
open L4 (boxR push_box box_at)
open Go.ChangeShapes Go.WideShapes Go.ChangeAt Go.RowKit Mem Sl Ex Draw L2 Sv
open Sd (curR at_left below_s once_s new_s str_sg int_sg drew_s cur_on moved put_r let_go drop gave)
set_option linter.unusedVariables false
set_option linter.unusedSimpArgs false

theorem assoc_r {W w : World} {rs ts us : List Res} (h : Sep W w ((rs ++ ts) ++ us)) : Sep W w (rs ++ (ts ++ us)) := by rwa [List.append_assoc] at h
theorem six_strs (j : Nat) (hj : j < 6) : ∃ s : ByteArray, (#[.string ⟨#[100]⟩, .string ⟨#[101]⟩, .string ⟨#[102]⟩, .string ⟨#[103]⟩, .string ⟨#[104]⟩, .string ⟨#[105]⟩] : Array Value)[j]? = some (.string s) ∧ s.size ≤ 1 := by
  match j, hj with
  | 0, _ => exact ⟨_, rfl, by decide⟩
  | 1, _ => exact ⟨_, rfl, by decide⟩
  | 2, _ => exact ⟨_, rfl, by decide⟩
  | 3, _ => exact ⟨_, rfl, by decide⟩
  | 4, _ => exact ⟨_, rfl, by decide⟩
  | 5, _ => exact ⟨_, rfl, by decide⟩
section
variable {W w : World} {rs : List Res} {c : Nat}
set_option maxHeartbeats 16000000 in
theorem any_s (h : Sep W w rs) (i : Nat) (hi : rs[i]? = some (curR W c)) :
    Calls Try.prog 30 #[.pointer (some ⟨c, 0, none⟩)] w fun e w' => ∃ A C l, e = .returned (.agg #[.slice A l.length C]) ∧ Tame l 9 ∧ Sep W w' (rs ++ [ownV 64 2 A C l.length (cellsF l)]) := by
  obtain ⟨i0, hi0, hz0, hz1, hz2⟩ := fieldInfo
  have HF := Lib.hid (And.intro hi0 (And.intro hz0 (And.intro hz1 hz2)))
  have HI := Lib.hid hi
  have S1 := Lib.hid (box_r (none_r h) 26 #[.slice none 0 0] w.heap.size rfl)
  clear h hi hi0 hz0 hz1 hz2
  go_enter Try.func30, Try.ntmps30
  go_wp2_with fail
  go_at_call 44
  refine (rec_s S1.out i (at_left HI.out)).mono ?_
  rintro e w1 ⟨A, C, l, rfl, hT, S2'⟩
  have S2 := Lib.hid (box_r (assoc_r S2') 26 #[.slice A l.length C] w1.heap.size rfl)
  have HT := Lib.hid hT
  clear S1 S2' hT
  go_wp2_with fail
  go_at_call 49
  refine (below_s S2.out i (at_left HI.out) _ (by decide) (by decide)).mono ?_
  rintro e w2 ⟨x, rfl, ⟨hx0, hx1⟩, S3'⟩
  have S3 := Lib.hid S3'
  clear S3' S2
  obtain ⟨g, hg⟩ : ∃ g, g = w1.heap.size := ⟨_, rfl⟩
  rw [← hg] at S3 ⊢
  clear hg
  by_cases e0 : x = 0
  · subst e0
    go_upto_region 4 with fail
    refine wp_region_held_drew (S := (fun _ => True)) (by kernel_rfl) trivial (fun hS => ?_)
    have SD0 := Lib.hid (drew_s S3.out)
    clear S3
    generalize w2.drew = wd at SD0 ⊢
    refine Reg.take_op (i := 0) (v := ?_) rfl (by kernel_rfl) (by kernel_rfl) (by kernel_rfl) (fun _ _ _ h => h) (by rfl) ?_ (by assumption) ?_
    rotate_left
    · (intro w hSw; (try dsimp only at hSw); go_simp; try with_reducible rfl)
    try simp only [Act.put, List.setIfInBounds_toArray, List.set_cons_zero, List.set_cons_succ]
    refine Reg.take_op (i := 2) (v := ?_) rfl (by kernel_rfl) (by kernel_rfl) (by kernel_rfl) (fun _ _ _ h => h) (by rfl) ?_ (by assumption) ?_
    rotate_left
    · (intro w hSw; (try dsimp only at hSw); go_simp; try with_reducible rfl)
    try simp only [Act.put, List.setIfInBounds_toArray, List.set_cons_zero, List.set_cons_succ]
    refine Reg.take_op (i := 5) (v := ?_) rfl (by kernel_rfl) (by kernel_rfl) (by kernel_rfl) (fun _ _ _ h => h) (by rfl) ?_ (by assumption) ?_
    rotate_left
    · (intro w hSw; (try dsimp only at hSw); go_simp; try with_reducible rfl)
    try simp only [Act.put, List.setIfInBounds_toArray, List.set_cons_zero, List.set_cons_succ]
    refine wpAnyH_ready (rs := [1, 3, 6]) (by kernel_rfl) (by simp) ?_
    refine Reg.cons_op (i := 1) rfl (fun K hK => ?_) ?_
    · obtain ⟨r0, r0'⟩ := one_r SD0.out 2 rfl
      go_simp
      clear r0 r0'
      refine hK.out _ _ trivial (fun hS => ?_)
      clear hK K
      try simp only [Act.put, List.setIfInBounds_toArray, List.set_cons_zero, List.set_cons_succ]
      refine wpAnyH_ready (rs := [3, 6]) (by kernel_rfl) (by simp) ?_
      refine Reg.cons_op (i := 3) rfl (fun K hK => ?_) ?_
      · go_simp
        have SD1 := Lib.hid (box_r SD0.out 9 #[.string ⟨#[]⟩, .string ⟨#[65]⟩, .string ⟨#[122, 122, 122, 122, 122, 122, 122, 122, 122]⟩, .string ⟨#[122]⟩, .string ⟨#[97]⟩] wd.heap.size rfl)
        obtain ⟨g3, hg⟩ : ∃ g', g' = wd.heap.size := ⟨_, rfl⟩
        rw [← hg] at SD1 ⊢
        clear hg
        generalize wd.alloc (.cells #[.string ⟨#[]⟩, .string ⟨#[65]⟩, .string ⟨#[122, 122, 122, 122, 122, 122, 122, 122, 122]⟩, .string ⟨#[122]⟩, .string ⟨#[97]⟩] 9) = wq1 at SD1 ⊢
        refine hK.out _ _ trivial (fun hS => ?_)
        clear hK K
        try simp only [Act.put, List.setIfInBounds_toArray, List.set_cons_zero, List.set_cons_succ]
        refine wpAnyH_ready (rs := [4, 6]) (by kernel_rfl) (by simp) ?_
        refine Reg.cons_op (i := 4) rfl (fun K hK => ?_) ?_
        · go_simp
          go_at_call 31
          refine (strB_s SD1.out i (at_left HI.out) (rs.length + 3) (at_r (by rfl)) (by have := (List.getElem?_eq_some_iff.1 HI.out).1; omega) [⟨#[]⟩, ⟨#[65]⟩, ⟨#[122, 122, 122, 122, 122, 122, 122, 122, 122]⟩, ⟨#[122]⟩, ⟨#[97]⟩] rfl (fun s => s.size ≤ 9) (by decide) 5 rfl (by decide) (by decide)).mono ?_
          rintro e wq2 ⟨s, rfl, hs, hS⟩
          have SD2 := Lib.hid hS
          clear hS
          go_wp2_with fail
          refine hK.out _ _ trivial (fun hS => ?_)
          clear hK K
          try simp only [Act.put, List.setIfInBounds_toArray, List.set_cons_zero, List.set_cons_succ]
          refine Reg.one_op (i := 6) rfl (by kernel_rfl) (fun K hK => ?_)
          go_simp
          have SD3 := Lib.hid (box_r SD2.out 3 #[.int .i64 0, .int .i64 (-1), .int .i64 1000000000, .int .i64 1000000001] wq2.heap.size rfl)
          obtain ⟨g4, hg⟩ : ∃ g', g' = wq2.heap.size := ⟨_, rfl⟩
          rw [← hg] at SD3 ⊢
          clear hg
          generalize wq2.alloc (.cells #[.int .i64 0, .int .i64 (-1), .int .i64 1000000000, .int .i64 1000000001] 3) = wq3 at SD3 ⊢
          refine hK.out _ _ trivial (fun hS => ?_)
          clear hK K
          try simp only [Act.put, List.setIfInBounds_toArray, List.set_cons_zero, List.set_cons_succ]
          refine Reg.one_op (i := 7) rfl (by kernel_rfl) (fun K hK => ?_)
          go_simp
          go_at_call 32
          refine (intB_s SD3.out i (at_left HI.out) (rs.length + 4) (at_r (by rfl)) (by have := (List.getElem?_eq_some_iff.1 HI.out).1; omega) [0, -1, 1000000000, 1000000001] rfl (fun _ => True) (by intro _ _; trivial) 4 rfl (by decide) (by decide)).mono ?_
          rintro e wq4 ⟨y, rfl, -, hS⟩
          have SD4 := Lib.hid hS
          clear hS
          go_wp2_with fail
          refine hK.out _ _ trivial (fun hS => ?_)
          clear hK K
          try simp only [Act.put, List.setIfInBounds_toArray, List.set_cons_zero, List.set_cons_succ]
          refine Reg.take_op (i := 8) (v := ?_) rfl (by kernel_rfl) (by kernel_rfl) (by kernel_rfl) (fun _ _ _ h => h) (by rfl) ?_ (by assumption) ?_
          rotate_left
          · (intro w hSw; (try dsimp only at hSw); go_simp; try with_reducible rfl)
          try simp only [Act.put, List.setIfInBounds_toArray, List.set_cons_zero, List.set_cons_succ]
          refine Reg.one_op (i := 9) rfl (by kernel_rfl) (fun K hK => ?_)
          go_simp
          have SD5 := Lib.hid (SD4.out.alloc (.cells #[.string s, .int .i64 y] 64))
          have R2 := Lib.hid (reads_two wq4 s y _ rfl 64)
          obtain ⟨g9, hg⟩ : ∃ g', g' = wq4.heap.size := ⟨_, rfl⟩
          rw [← hg] at R2 ⊢
          clear hg
          generalize wq4.alloc (.cells #[.string s, .int .i64 y] 64) = wq5 at SD5 R2 ⊢
          refine hK.out _ _ trivial (fun hS => ?_)
          clear hK K
          try simp only [Act.put, List.setIfInBounds_toArray, List.set_cons_zero, List.set_cons_succ]
          refine Reg.one_op (i := 10) rfl (by kernel_rfl) (fun K hK => ?_)
          refine step_append_s SD5.out (rs.length + 1) (at_r (by rfl)) rfl _ _ 24 (by rfl) i0 (.agg #[.string ⟨#[]⟩, .int .i64 0]) 24 Try.underlying24 HF.out.1 HF.out.2.1 HF.out.2.2.1 HF.out.2.2.2 rfl (by omega) l.length (by rfl) rfl (g9 + 1) (some ⟨g9, 0, none⟩) 1 1 1 (cellsF [⟨s, y⟩]) (by rfl) rfl R2.out (by simp) (cellsF_one _) (by have := HT.out.1; unfold maxLen; omega) (by have := HT.out.1; omega) ?_
          intro A2 C2 wq6 hS
          have SD6 := Lib.hid (show Sep W wq6 (rs ++ [boxR w.heap.size 26 #[.slice none 0 0], ownV 64 2 A2 C2 (l.length + 1) (cellsF l ++ cellsF [⟨s, y⟩]), boxR g 26 #[.slice A l.length C]]) from by rw [List.set_append_right _ _ (by omega), Nat.add_sub_cancel_left] at hS; exact take_r hS [0, 1, 2] (by rfl) (by decide))
          clear hS
          refine hK.out _ _ trivial (fun hS => ?_)
          clear hK K
          try simp only [Act.put, List.setIfInBounds_toArray, List.set_cons_zero, List.set_cons_succ]
          refine Reg.take_op (i := 11) (v := ?_) rfl (by kernel_rfl) (by kernel_rfl) (by kernel_rfl) (fun _ _ _ h => h) (by rfl) ?_ (by assumption) ?_
          rotate_left
          · (intro w hSw; (try dsimp only at hSw); go_simp; try with_reducible rfl)
          try simp only [Act.put, List.setIfInBounds_toArray, List.set_cons_zero, List.set_cons_succ]
          refine Reg.one_op (i := 12) rfl (by kernel_rfl) (fun K hK => ?_)
          obtain ⟨z0, z1⟩ := one_r SD6.out 2 rfl
          go_simp
          have SD7 := Lib.hid (put_r SD6.out 2 rfl 0 (.slice A2 (l.length + 1) C2))
          clear z0 z1
          refine hK.out _ _ trivial (fun hS => ?_)
          clear hK K
          try simp only [Act.put, List.setIfInBounds_toArray, List.set_cons_zero, List.set_cons_succ]
          refine wpAnyH_done (by kernel_rfl) ?_ _
          have hl := Lib.hid (show l.length + 1 = (l ++ [⟨s, y⟩] : List F).length by simp)
          obtain ⟨q0, q0'⟩ := one_r SD7.out 0 rfl
          obtain ⟨r0, r0'⟩ := one_r SD7.out 2 rfl
          go_wp2_with fail
          refine bodyPost_ret (v := .agg #[.slice A2 (l.length + 1) C2]) (by simp [results, Try.results30, go_sem, q0]) rfl ?_
          refine ⟨A2, C2, l ++ [⟨s, y⟩], by rw [← hl.out], (HT.out.app (by omega) y).mono (by omega), ?_⟩
          rw [← hl.out, cellsF_append]
          exact take_r (put_r SD7.out 0 rfl 0 (.slice A2 (l.length + 1) C2)) [1] (by rfl) (by decide)
        refine Reg.cons_op (i := 6) rfl (fun K hK => ?_) ?_
        · go_simp
          have SD2 := Lib.hid (box_r SD1.out 3 #[.int .i64 0, .int .i64 (-1), .int .i64 1000000000, .int .i64 1000000001] wq1.heap.size rfl)
          obtain ⟨g4, hg⟩ : ∃ g', g' = wq1.heap.size := ⟨_, rfl⟩
          rw [← hg] at SD2 ⊢
          clear hg
          generalize wq1.alloc (.cells #[.int .i64 0, .int .i64 (-1), .int .i64 1000000000, .int .i64 1000000001] 3) = wq2 at SD2 ⊢
          refine hK.out _ _ trivial (fun hS => ?_)
          clear hK K
          try simp only [Act.put, List.setIfInBounds_toArray, List.set_cons_zero, List.set_cons_succ]
          refine Reg.one_op (i := 4) rfl (by kernel_rfl) (fun K hK => ?_)
          go_simp
          go_at_call 31
          refine (strB_s SD2.out i (at_left HI.out) (rs.length + 3) (at_r (by rfl)) (by have := (List.getElem?_eq_some_iff.1 HI.out).1; omega) [⟨#[]⟩, ⟨#[65]⟩, ⟨#[122, 122, 122, 122, 122, 122, 122, 122, 122]⟩, ⟨#[122]⟩, ⟨#[97]⟩] rfl (fun s => s.size ≤ 9) (by decide) 5 rfl (by decide) (by decide)).mono ?_
          rintro e wq3 ⟨s, rfl, hs, hS⟩
          have SD3 := Lib.hid hS
          clear hS
          go_wp2_with fail
          refine hK.out _ _ trivial (fun hS => ?_)
          clear hK K
          try simp only [Act.put, List.setIfInBounds_toArray, List.set_cons_zero, List.set_cons_succ]
          refine Reg.one_op (i := 7) rfl (by kernel_rfl) (fun K hK => ?_)
          go_simp
          go_at_call 32
          refine (intB_s SD3.out i (at_left HI.out) (rs.length + 4) (at_r (by rfl)) (by have := (List.getElem?_eq_some_iff.1 HI.out).1; omega) [0, -1, 1000000000, 1000000001] rfl (fun _ => True) (by intro _ _; trivial) 4 rfl (by decide) (by decide)).mono ?_
          rintro e wq4 ⟨y, rfl, -, hS⟩
          have SD4 := Lib.hid hS
          clear hS
          go_wp2_with fail
          refine hK.out _ _ trivial (fun hS => ?_)
          clear hK K
          try simp only [Act.put, List.setIfInBounds_toArray, List.set_cons_zero, List.set_cons_succ]
          refine Reg.take_op (i := 8) (v := ?_) rfl (by kernel_rfl) (by kernel_rfl) (by kernel_rfl) (fun _ _ _ h => h) (by rfl) ?_ (by assumption) ?_
          rotate_left
          · (intro w hSw; (try dsimp only at hSw); go_simp; try with_reducible rfl)
          try simp only [Act.put, List.setIfInBounds_toArray, List.set_cons_zero, List.set_cons_succ]
          refine Reg.one_op (i := 9) rfl (by kernel_rfl) (fun K hK => ?_)
          go_simp
          have SD5 := Lib.hid (SD4.out.alloc (.cells #[.string s, .int .i64 y] 64))
          have R2 := Lib.hid (reads_two wq4 s y _ rfl 64)
          obtain ⟨g9, hg⟩ : ∃ g', g' = wq4.heap.size := ⟨_, rfl⟩
          rw [← hg] at R2 ⊢
          clear hg
          generalize wq4.alloc (.cells #[.string s, .int .i64 y] 64) = wq5 at SD5 R2 ⊢
          refine hK.out _ _ trivial (fun hS => ?_)
          clear hK K
          try simp only [Act.put, List.setIfInBounds_toArray, List.set_cons_zero, List.set_cons_succ]
          refine Reg.one_op (i := 10) rfl (by kernel_rfl) (fun K hK => ?_)
          refine step_append_s SD5.out (rs.length + 1) (at_r (by rfl)) rfl _ _ 24 (by rfl) i0 (.agg #[.string ⟨#[]⟩, .int .i64 0]) 24 Try.underlying24 HF.out.1 HF.out.2.1 HF.out.2.2.1 HF.out.2.2.2 rfl (by omega) l.length (by rfl) rfl (g9 + 1) (some ⟨g9, 0, none⟩) 1 1 1 (cellsF [⟨s, y⟩]) (by rfl) rfl R2.out (by simp) (cellsF_one _) (by have := HT.out.1; unfold maxLen; omega) (by have := HT.out.1; omega) ?_
          intro A2 C2 wq6 hS
          have SD6 := Lib.hid (show Sep W wq6 (rs ++ [boxR w.heap.size 26 #[.slice none 0 0], ownV 64 2 A2 C2 (l.length + 1) (cellsF l ++ cellsF [⟨s, y⟩]), boxR g 26 #[.slice A l.length C]]) from by rw [List.set_append_right _ _ (by omega), Nat.add_sub_cancel_left] at hS; exact take_r hS [0, 1, 2] (by rfl) (by decide))
          clear hS
          refine hK.out _ _ trivial (fun hS => ?_)
          clear hK K
          try simp only [Act.put, List.setIfInBounds_toArray, List.set_cons_zero, List.set_cons_succ]
          refine Reg.take_op (i := 11) (v := ?_) rfl (by kernel_rfl) (by kernel_rfl) (by kernel_rfl) (fun _ _ _ h => h) (by rfl) ?_ (by assumption) ?_
          rotate_left
          · (intro w hSw; (try dsimp only at hSw); go_simp; try with_reducible rfl)
          try simp only [Act.put, List.setIfInBounds_toArray, List.set_cons_zero, List.set_cons_succ]
          refine Reg.one_op (i := 12) rfl (by kernel_rfl) (fun K hK => ?_)
          obtain ⟨z0, z1⟩ := one_r SD6.out 2 rfl
          go_simp
          have SD7 := Lib.hid (put_r SD6.out 2 rfl 0 (.slice A2 (l.length + 1) C2))
          clear z0 z1
          refine hK.out _ _ trivial (fun hS => ?_)
          clear hK K
          try simp only [Act.put, List.setIfInBounds_toArray, List.set_cons_zero, List.set_cons_succ]
          refine wpAnyH_done (by kernel_rfl) ?_ _
          have hl := Lib.hid (show l.length + 1 = (l ++ [⟨s, y⟩] : List F).length by simp)
          obtain ⟨q0, q0'⟩ := one_r SD7.out 0 rfl
          obtain ⟨r0, r0'⟩ := one_r SD7.out 2 rfl
          go_wp2_with fail
          refine bodyPost_ret (v := .agg #[.slice A2 (l.length + 1) C2]) (by simp [results, Try.results30, go_sem, q0]) rfl ?_
          refine ⟨A2, C2, l ++ [⟨s, y⟩], by rw [← hl.out], (HT.out.app (by omega) y).mono (by omega), ?_⟩
          rw [← hl.out, cellsF_append]
          exact take_r (put_r SD7.out 0 rfl 0 (.slice A2 (l.length + 1) C2)) [1] (by rfl) (by decide)
        exact AllReadyH.nil
      refine Reg.cons_op (i := 6) rfl (fun K hK => ?_) ?_
      · go_simp
        have SD1 := Lib.hid (box_r SD0.out 3 #[.int .i64 0, .int .i64 (-1), .int .i64 1000000000, .int .i64 1000000001] wd.heap.size rfl)
        obtain ⟨g3, hg⟩ : ∃ g', g' = wd.heap.size := ⟨_, rfl⟩
        rw [← hg] at SD1 ⊢
        clear hg
        generalize wd.alloc (.cells #[.int .i64 0, .int .i64 (-1), .int .i64 1000000000, .int .i64 1000000001] 3) = wq1 at SD1 ⊢
        refine hK.out _ _ trivial (fun hS => ?_)
        clear hK K
        try simp only [Act.put, List.setIfInBounds_toArray, List.set_cons_zero, List.set_cons_succ]
        refine Reg.one_op (i := 3) rfl (by kernel_rfl) (fun K hK => ?_)
        go_simp
        have SD2 := Lib.hid (box_r SD1.out 9 #[.string ⟨#[]⟩, .string ⟨#[65]⟩, .string ⟨#[122, 122, 122, 122, 122, 122, 122, 122, 122]⟩, .string ⟨#[122]⟩, .string ⟨#[97]⟩] wq1.heap.size rfl)
        obtain ⟨g4, hg⟩ : ∃ g', g' = wq1.heap.size := ⟨_, rfl⟩
        rw [← hg] at SD2 ⊢
        clear hg
        generalize wq1.alloc (.cells #[.string ⟨#[]⟩, .string ⟨#[65]⟩, .string ⟨#[122, 122, 122, 122, 122, 122, 122, 122, 122]⟩, .string ⟨#[122]⟩, .string ⟨#[97]⟩] 9) = wq2 at SD2 ⊢
        refine hK.out _ _ trivial (fun hS => ?_)
        clear hK K
        try simp only [Act.put, List.setIfInBounds_toArray, List.set_cons_zero, List.set_cons_succ]
        refine Reg.one_op (i := 4) rfl (by kernel_rfl) (fun K hK => ?_)
        go_simp
        go_at_call 31
        refine (strB_s SD2.out i (at_left HI.out) (rs.length + 4) (at_r (by rfl)) (by have := (List.getElem?_eq_some_iff.1 HI.out).1; omega) [⟨#[]⟩, ⟨#[65]⟩, ⟨#[122, 122, 122, 122, 122, 122, 122, 122, 122]⟩, ⟨#[122]⟩, ⟨#[97]⟩] rfl (fun s => s.size ≤ 9) (by decide) 5 rfl (by decide) (by decide)).mono ?_
        rintro e wq3 ⟨s, rfl, hs, hS⟩
        have SD3 := Lib.hid hS
        clear hS
        go_wp2_with fail
        refine hK.out _ _ trivial (fun hS => ?_)
        clear hK K
        try simp only [Act.put, List.setIfInBounds_toArray, List.set_cons_zero, List.set_cons_succ]
        refine Reg.one_op (i := 7) rfl (by kernel_rfl) (fun K hK => ?_)
        go_simp
        go_at_call 32
        refine (intB_s SD3.out i (at_left HI.out) (rs.length + 3) (at_r (by rfl)) (by have := (List.getElem?_eq_some_iff.1 HI.out).1; omega) [0, -1, 1000000000, 1000000001] rfl (fun _ => True) (by intro _ _; trivial) 4 rfl (by decide) (by decide)).mono ?_
        rintro e wq4 ⟨y, rfl, -, hS⟩
        have SD4 := Lib.hid hS
        clear hS
        go_wp2_with fail
        refine hK.out _ _ trivial (fun hS => ?_)
        clear hK K
        try simp only [Act.put, List.setIfInBounds_toArray, List.set_cons_zero, List.set_cons_succ]
        refine Reg.take_op (i := 8) (v := ?_) rfl (by kernel_rfl) (by kernel_rfl) (by kernel_rfl) (fun _ _ _ h => h) (by rfl) ?_ (by assumption) ?_
        rotate_left
        · (intro w hSw; (try dsimp only at hSw); go_simp; try with_reducible rfl)
        try simp only [Act.put, List.setIfInBounds_toArray, List.set_cons_zero, List.set_cons_succ]
        refine Reg.one_op (i := 9) rfl (by kernel_rfl) (fun K hK => ?_)
        go_simp
        have SD5 := Lib.hid (SD4.out.alloc (.cells #[.string s, .int .i64 y] 64))
        have R2 := Lib.hid (reads_two wq4 s y _ rfl 64)
        obtain ⟨g9, hg⟩ : ∃ g', g' = wq4.heap.size := ⟨_, rfl⟩
        rw [← hg] at R2 ⊢
        clear hg
        generalize wq4.alloc (.cells #[.string s, .int .i64 y] 64) = wq5 at SD5 R2 ⊢
        refine hK.out _ _ trivial (fun hS => ?_)
        clear hK K
        try simp only [Act.put, List.setIfInBounds_toArray, List.set_cons_zero, List.set_cons_succ]
        refine Reg.one_op (i := 10) rfl (by kernel_rfl) (fun K hK => ?_)
        refine step_append_s SD5.out (rs.length + 1) (at_r (by rfl)) rfl _ _ 24 (by rfl) i0 (.agg #[.string ⟨#[]⟩, .int .i64 0]) 24 Try.underlying24 HF.out.1 HF.out.2.1 HF.out.2.2.1 HF.out.2.2.2 rfl (by omega) l.length (by rfl) rfl (g9 + 1) (some ⟨g9, 0, none⟩) 1 1 1 (cellsF [⟨s, y⟩]) (by rfl) rfl R2.out (by simp) (cellsF_one _) (by have := HT.out.1; unfold maxLen; omega) (by have := HT.out.1; omega) ?_
        intro A2 C2 wq6 hS
        have SD6 := Lib.hid (show Sep W wq6 (rs ++ [boxR w.heap.size 26 #[.slice none 0 0], ownV 64 2 A2 C2 (l.length + 1) (cellsF l ++ cellsF [⟨s, y⟩]), boxR g 26 #[.slice A l.length C]]) from by rw [List.set_append_right _ _ (by omega), Nat.add_sub_cancel_left] at hS; exact take_r hS [0, 1, 2] (by rfl) (by decide))
        clear hS
        refine hK.out _ _ trivial (fun hS => ?_)
        clear hK K
        try simp only [Act.put, List.setIfInBounds_toArray, List.set_cons_zero, List.set_cons_succ]
        refine Reg.take_op (i := 11) (v := ?_) rfl (by kernel_rfl) (by kernel_rfl) (by kernel_rfl) (fun _ _ _ h => h) (by rfl) ?_ (by assumption) ?_
        rotate_left
        · (intro w hSw; (try dsimp only at hSw); go_simp; try with_reducible rfl)
        try simp only [Act.put, List.setIfInBounds_toArray, List.set_cons_zero, List.set_cons_succ]
        refine Reg.one_op (i := 12) rfl (by kernel_rfl) (fun K hK => ?_)
        obtain ⟨z0, z1⟩ := one_r SD6.out 2 rfl
        go_simp
        have SD7 := Lib.hid (put_r SD6.out 2 rfl 0 (.slice A2 (l.length + 1) C2))
        clear z0 z1
        refine hK.out _ _ trivial (fun hS => ?_)
        clear hK K
        try simp only [Act.put, List.setIfInBounds_toArray, List.set_cons_zero, List.set_cons_succ]
        refine wpAnyH_done (by kernel_rfl) ?_ _
        have hl := Lib.hid (show l.length + 1 = (l ++ [⟨s, y⟩] : List F).length by simp)
        obtain ⟨q0, q0'⟩ := one_r SD7.out 0 rfl
        obtain ⟨r0, r0'⟩ := one_r SD7.out 2 rfl
        go_wp2_with fail
        refine bodyPost_ret (v := .agg #[.slice A2 (l.length + 1) C2]) (by simp [results, Try.results30, go_sem, q0]) rfl ?_
        refine ⟨A2, C2, l ++ [⟨s, y⟩], by rw [← hl.out], (HT.out.app (by omega) y).mono (by omega), ?_⟩
        rw [← hl.out, cellsF_append]
        exact take_r (put_r SD7.out 0 rfl 0 (.slice A2 (l.length + 1) C2)) [1] (by rfl) (by decide)
      exact AllReadyH.nil
    refine Reg.cons_op (i := 3) rfl (fun K hK => ?_) ?_
    · go_simp
      have SD1 := Lib.hid (box_r SD0.out 9 #[.string ⟨#[]⟩, .string ⟨#[65]⟩, .string ⟨#[122, 122, 122, 122, 122, 122, 122, 122, 122]⟩, .string ⟨#[122]⟩, .string ⟨#[97]⟩] wd.heap.size rfl)
      obtain ⟨g3, hg⟩ : ∃ g', g' = wd.heap.size := ⟨_, rfl⟩
      rw [← hg] at SD1 ⊢
      clear hg
      generalize wd.alloc (.cells #[.string ⟨#[]⟩, .string ⟨#[65]⟩, .string ⟨#[122, 122, 122, 122, 122, 122, 122, 122, 122]⟩, .string ⟨#[122]⟩, .string ⟨#[97]⟩] 9) = wq1 at SD1 ⊢
      refine hK.out _ _ trivial (fun hS => ?_)
      clear hK K
      try simp only [Act.put, List.setIfInBounds_toArray, List.set_cons_zero, List.set_cons_succ]
      refine wpAnyH_ready (rs := [1, 4, 6]) (by kernel_rfl) (by simp) ?_
      refine Reg.cons_op (i := 1) rfl (fun K hK => ?_) ?_
      · obtain ⟨r0, r0'⟩ := one_r SD1.out 2 rfl
        go_simp
        clear r0 r0'
        refine hK.out _ _ trivial (fun hS => ?_)
        clear hK K
        try simp only [Act.put, List.setIfInBounds_toArray, List.set_cons_zero, List.set_cons_succ]
        refine wpAnyH_ready (rs := [4, 6]) (by kernel_rfl) (by simp) ?_
        refine Reg.cons_op (i := 4) rfl (fun K hK => ?_) ?_
        · go_simp
          go_at_call 31
          refine (strB_s SD1.out i (at_left HI.out) (rs.length + 3) (at_r (by rfl)) (by have := (List.getElem?_eq_some_iff.1 HI.out).1; omega) [⟨#[]⟩, ⟨#[65]⟩, ⟨#[122, 122, 122, 122, 122, 122, 122, 122, 122]⟩, ⟨#[122]⟩, ⟨#[97]⟩] rfl (fun s => s.size ≤ 9) (by decide) 5 rfl (by decide) (by decide)).mono ?_
          rintro e wq2 ⟨s, rfl, hs, hS⟩
          have SD2 := Lib.hid hS
          clear hS
          go_wp2_with fail
          refine hK.out _ _ trivial (fun hS => ?_)
          clear hK K
          try simp only [Act.put, List.setIfInBounds_toArray, List.set_cons_zero, List.set_cons_succ]
          refine Reg.one_op (i := 6) rfl (by kernel_rfl) (fun K hK => ?_)
          go_simp
          have SD3 := Lib.hid (box_r SD2.out 3 #[.int .i64 0, .int .i64 (-1), .int .i64 1000000000, .int .i64 1000000001] wq2.heap.size rfl)
          obtain ⟨g4, hg⟩ : ∃ g', g' = wq2.heap.size := ⟨_, rfl⟩
          rw [← hg] at SD3 ⊢
          clear hg
          generalize wq2.alloc (.cells #[.int .i64 0, .int .i64 (-1), .int .i64 1000000000, .int .i64 1000000001] 3) = wq3 at SD3 ⊢
          refine hK.out _ _ trivial (fun hS => ?_)
          clear hK K
          try simp only [Act.put, List.setIfInBounds_toArray, List.set_cons_zero, List.set_cons_succ]
          refine Reg.one_op (i := 7) rfl (by kernel_rfl) (fun K hK => ?_)
          go_simp
          go_at_call 32
          refine (intB_s SD3.out i (at_left HI.out) (rs.length + 4) (at_r (by rfl)) (by have := (List.getElem?_eq_some_iff.1 HI.out).1; omega) [0, -1, 1000000000, 1000000001] rfl (fun _ => True) (by intro _ _; trivial) 4 rfl (by decide) (by decide)).mono ?_
          rintro e wq4 ⟨y, rfl, -, hS⟩
          have SD4 := Lib.hid hS
          clear hS
          go_wp2_with fail
          refine hK.out _ _ trivial (fun hS => ?_)
          clear hK K
          try simp only [Act.put, List.setIfInBounds_toArray, List.set_cons_zero, List.set_cons_succ]
          refine Reg.take_op (i := 8) (v := ?_) rfl (by kernel_rfl) (by kernel_rfl) (by kernel_rfl) (fun _ _ _ h => h) (by rfl) ?_ (by assumption) ?_
          rotate_left
          · (intro w hSw; (try dsimp only at hSw); go_simp; try with_reducible rfl)
          try simp only [Act.put, List.setIfInBounds_toArray, List.set_cons_zero, List.set_cons_succ]
          refine Reg.one_op (i := 9) rfl (by kernel_rfl) (fun K hK => ?_)
          go_simp
          have SD5 := Lib.hid (SD4.out.alloc (.cells #[.string s, .int .i64 y] 64))
          have R2 := Lib.hid (reads_two wq4 s y _ rfl 64)
          obtain ⟨g9, hg⟩ : ∃ g', g' = wq4.heap.size := ⟨_, rfl⟩
          rw [← hg] at R2 ⊢
          clear hg
          generalize wq4.alloc (.cells #[.string s, .int .i64 y] 64) = wq5 at SD5 R2 ⊢
          refine hK.out _ _ trivial (fun hS => ?_)
          clear hK K
          try simp only [Act.put, List.setIfInBounds_toArray, List.set_cons_zero, List.set_cons_succ]
          refine Reg.one_op (i := 10) rfl (by kernel_rfl) (fun K hK => ?_)
          refine step_append_s SD5.out (rs.length + 1) (at_r (by rfl)) rfl _ _ 24 (by rfl) i0 (.agg #[.string ⟨#[]⟩, .int .i64 0]) 24 Try.underlying24 HF.out.1 HF.out.2.1 HF.out.2.2.1 HF.out.2.2.2 rfl (by omega) l.length (by rfl) rfl (g9 + 1) (some ⟨g9, 0, none⟩) 1 1 1 (cellsF [⟨s, y⟩]) (by rfl) rfl R2.out (by simp) (cellsF_one _) (by have := HT.out.1; unfold maxLen; omega) (by have := HT.out.1; omega) ?_
          intro A2 C2 wq6 hS
          have SD6 := Lib.hid (show Sep W wq6 (rs ++ [boxR w.heap.size 26 #[.slice none 0 0], ownV 64 2 A2 C2 (l.length + 1) (cellsF l ++ cellsF [⟨s, y⟩]), boxR g 26 #[.slice A l.length C]]) from by rw [List.set_append_right _ _ (by omega), Nat.add_sub_cancel_left] at hS; exact take_r hS [0, 1, 2] (by rfl) (by decide))
          clear hS
          refine hK.out _ _ trivial (fun hS => ?_)
          clear hK K
          try simp only [Act.put, List.setIfInBounds_toArray, List.set_cons_zero, List.set_cons_succ]
          refine Reg.take_op (i := 11) (v := ?_) rfl (by kernel_rfl) (by kernel_rfl) (by kernel_rfl) (fun _ _ _ h => h) (by rfl) ?_ (by assumption) ?_
          rotate_left
          · (intro w hSw; (try dsimp only at hSw); go_simp; try with_reducible rfl)
          try simp only [Act.put, List.setIfInBounds_toArray, List.set_cons_zero, List.set_cons_succ]
          refine Reg.one_op (i := 12) rfl (by kernel_rfl) (fun K hK => ?_)
          obtain ⟨z0, z1⟩ := one_r SD6.out 2 rfl
          go_simp
          have SD7 := Lib.hid (put_r SD6.out 2 rfl 0 (.slice A2 (l.length + 1) C2))
          clear z0 z1
          refine hK.out _ _ trivial (fun hS => ?_)
          clear hK K
          try simp only [Act.put, List.setIfInBounds_toArray, List.set_cons_zero, List.set_cons_succ]
          refine wpAnyH_done (by kernel_rfl) ?_ _
          have hl := Lib.hid (show l.length + 1 = (l ++ [⟨s, y⟩] : List F).length by simp)
          obtain ⟨q0, q0'⟩ := one_r SD7.out 0 rfl
          obtain ⟨r0, r0'⟩ := one_r SD7.out 2 rfl
          go_wp2_with fail
          refine bodyPost_ret (v := .agg #[.slice A2 (l.length + 1) C2]) (by simp [results, Try.results30, go_sem, q0]) rfl ?_
          refine ⟨A2, C2, l ++ [⟨s, y⟩], by rw [← hl.out], (HT.out.app (by omega) y).mono (by omega), ?_⟩
          rw [← hl.out, cellsF_append]
          exact take_r (put_r SD7.out 0 rfl 0 (.slice A2 (l.length + 1) C2)) [1] (by rfl) (by decide)
        refine Reg.cons_op (i := 6) rfl (fun K hK => ?_) ?_
        · go_simp
          have SD2 := Lib.hid (box_r SD1.out 3 #[.int .i64 0, .int .i64 (-1), .int .i64 1000000000, .int .i64 1000000001] wq1.heap.size rfl)
          obtain ⟨g4, hg⟩ : ∃ g', g' = wq1.heap.size := ⟨_, rfl⟩
          rw [← hg] at SD2 ⊢
          clear hg
          generalize wq1.alloc (.cells #[.int .i64 0, .int .i64 (-1), .int .i64 1000000000, .int .i64 1000000001] 3) = wq2 at SD2 ⊢
          refine hK.out _ _ trivial (fun hS => ?_)
          clear hK K
          try simp only [Act.put, List.setIfInBounds_toArray, List.set_cons_zero, List.set_cons_succ]
          refine Reg.one_op (i := 4) rfl (by kernel_rfl) (fun K hK => ?_)
          go_simp
          go_at_call 31
          refine (strB_s SD2.out i (at_left HI.out) (rs.length + 3) (at_r (by rfl)) (by have := (List.getElem?_eq_some_iff.1 HI.out).1; omega) [⟨#[]⟩, ⟨#[65]⟩, ⟨#[122, 122, 122, 122, 122, 122, 122, 122, 122]⟩, ⟨#[122]⟩, ⟨#[97]⟩] rfl (fun s => s.size ≤ 9) (by decide) 5 rfl (by decide) (by decide)).mono ?_
          rintro e wq3 ⟨s, rfl, hs, hS⟩
          have SD3 := Lib.hid hS
          clear hS
          go_wp2_with fail
          refine hK.out _ _ trivial (fun hS => ?_)
          clear hK K
          try simp only [Act.put, List.setIfInBounds_toArray, List.set_cons_zero, List.set_cons_succ]
          refine Reg.one_op (i := 7) rfl (by kernel_rfl) (fun K hK => ?_)
          go_simp
          go_at_call 32
          refine (intB_s SD3.out i (at_left HI.out) (rs.length + 4) (at_r (by rfl)) (by have := (List.getElem?_eq_some_iff.1 HI.out).1; omega) [0, -1, 1000000000, 1000000001] rfl (fun _ => True) (by intro _ _; trivial) 4 rfl (by decide) (by decide)).mono ?_
          rintro e wq4 ⟨y, rfl, -, hS⟩
          have SD4 := Lib.hid hS
          clear hS
          go_wp2_with fail
          refine hK.out _ _ trivial (fun hS => ?_)
          clear hK K
          try simp only [Act.put, List.setIfInBounds_toArray, List.set_cons_zero, List.set_cons_succ]
          refine Reg.take_op (i := 8) (v := ?_) rfl (by kernel_rfl) (by kernel_rfl) (by kernel_rfl) (fun _ _ _ h => h) (by rfl) ?_ (by assumption) ?_
          rotate_left
          · (intro w hSw; (try dsimp only at hSw); go_simp; try with_reducible rfl)
          try simp only [Act.put, List.setIfInBounds_toArray, List.set_cons_zero, List.set_cons_succ]
          refine Reg.one_op (i := 9) rfl (by kernel_rfl) (fun K hK => ?_)
          go_simp
          have SD5 := Lib.hid (SD4.out.alloc (.cells #[.string s, .int .i64 y] 64))
          have R2 := Lib.hid (reads_two wq4 s y _ rfl 64)
          obtain ⟨g9, hg⟩ : ∃ g', g' = wq4.heap.size := ⟨_, rfl⟩
          rw [← hg] at R2 ⊢
          clear hg
          generalize wq4.alloc (.cells #[.string s, .int .i64 y] 64) = wq5 at SD5 R2 ⊢
          refine hK.out _ _ trivial (fun hS => ?_)
          clear hK K
          try simp only [Act.put, List.setIfInBounds_toArray, List.set_cons_zero, List.set_cons_succ]
          refine Reg.one_op (i := 10) rfl (by kernel_rfl) (fun K hK => ?_)
          refine step_append_s SD5.out (rs.length + 1) (at_r (by rfl)) rfl _ _ 24 (by rfl) i0 (.agg #[.string ⟨#[]⟩, .int .i64 0]) 24 Try.underlying24 HF.out.1 HF.out.2.1 HF.out.2.2.1 HF.out.2.2.2 rfl (by omega) l.length (by rfl) rfl (g9 + 1) (some ⟨g9, 0, none⟩) 1 1 1 (cellsF [⟨s, y⟩]) (by rfl) rfl R2.out (by simp) (cellsF_one _) (by have := HT.out.1; unfold maxLen; omega) (by have := HT.out.1; omega) ?_
          intro A2 C2 wq6 hS
          have SD6 := Lib.hid (show Sep W wq6 (rs ++ [boxR w.heap.size 26 #[.slice none 0 0], ownV 64 2 A2 C2 (l.length + 1) (cellsF l ++ cellsF [⟨s, y⟩]), boxR g 26 #[.slice A l.length C]]) from by rw [List.set_append_right _ _ (by omega), Nat.add_sub_cancel_left] at hS; exact take_r hS [0, 1, 2] (by rfl) (by decide))
          clear hS
          refine hK.out _ _ trivial (fun hS => ?_)
          clear hK K
          try simp only [Act.put, List.setIfInBounds_toArray, List.set_cons_zero, List.set_cons_succ]
          refine Reg.take_op (i := 11) (v := ?_) rfl (by kernel_rfl) (by kernel_rfl) (by kernel_rfl) (fun _ _ _ h => h) (by rfl) ?_ (by assumption) ?_
          rotate_left
          · (intro w hSw; (try dsimp only at hSw); go_simp; try with_reducible rfl)
          try simp only [Act.put, List.setIfInBounds_toArray, List.set_cons_zero, List.set_cons_succ]
          refine Reg.one_op (i := 12) rfl (by kernel_rfl) (fun K hK => ?_)
          obtain ⟨z0, z1⟩ := one_r SD6.out 2 rfl
          go_simp
          have SD7 := Lib.hid (put_r SD6.out 2 rfl 0 (.slice A2 (l.length + 1) C2))
          clear z0 z1
          refine hK.out _ _ trivial (fun hS => ?_)
          clear hK K
          try simp only [Act.put, List.setIfInBounds_toArray, List.set_cons_zero, List.set_cons_succ]
          refine wpAnyH_done (by kernel_rfl) ?_ _
          have hl := Lib.hid (show l.length + 1 = (l ++ [⟨s, y⟩] : List F).length by simp)
          obtain ⟨q0, q0'⟩ := one_r SD7.out 0 rfl
          obtain ⟨r0, r0'⟩ := one_r SD7.out 2 rfl
          go_wp2_with fail
          refine bodyPost_ret (v := .agg #[.slice A2 (l.length + 1) C2]) (by simp [results, Try.results30, go_sem, q0]) rfl ?_
          refine ⟨A2, C2, l ++ [⟨s, y⟩], by rw [← hl.out], (HT.out.app (by omega) y).mono (by omega), ?_⟩
          rw [← hl.out, cellsF_append]
          exact take_r (put_r SD7.out 0 rfl 0 (.slice A2 (l.length + 1) C2)) [1] (by rfl) (by decide)
        exact AllReadyH.nil
      refine Reg.cons_op (i := 4) rfl (fun K hK => ?_) ?_
      · go_simp
        go_at_call 31
        refine (strB_s SD1.out i (at_left HI.out) (rs.length + 3) (at_r (by rfl)) (by have := (List.getElem?_eq_some_iff.1 HI.out).1; omega) [⟨#[]⟩, ⟨#[65]⟩, ⟨#[122, 122, 122, 122, 122, 122, 122, 122, 122]⟩, ⟨#[122]⟩, ⟨#[97]⟩] rfl (fun s => s.size ≤ 9) (by decide) 5 rfl (by decide) (by decide)).mono ?_
        rintro e wq2 ⟨s, rfl, hs, hS⟩
        have SD2 := Lib.hid hS
        clear hS
        go_wp2_with fail
        refine hK.out _ _ trivial (fun hS => ?_)
        clear hK K
        try simp only [Act.put, List.setIfInBounds_toArray, List.set_cons_zero, List.set_cons_succ]
        refine wpAnyH_ready (rs := [1, 6]) (by kernel_rfl) (by simp) ?_
        refine Reg.cons_op (i := 1) rfl (fun K hK => ?_) ?_
        · obtain ⟨r0, r0'⟩ := one_r SD2.out 2 rfl
          go_simp
          clear r0 r0'
          refine hK.out _ _ trivial (fun hS => ?_)
          clear hK K
          try simp only [Act.put, List.setIfInBounds_toArray, List.set_cons_zero, List.set_cons_succ]
          refine Reg.one_op (i := 6) rfl (by kernel_rfl) (fun K hK => ?_)
          go_simp
          have SD3 := Lib.hid (box_r SD2.out 3 #[.int .i64 0, .int .i64 (-1), .int .i64 1000000000, .int .i64 1000000001] wq2.heap.size rfl)
          obtain ⟨g4, hg⟩ : ∃ g', g' = wq2.heap.size := ⟨_, rfl⟩
          rw [← hg] at SD3 ⊢
          clear hg
          generalize wq2.alloc (.cells #[.int .i64 0, .int .i64 (-1), .int .i64 1000000000, .int .i64 1000000001] 3) = wq3 at SD3 ⊢
          refine hK.out _ _ trivial (fun hS => ?_)
          clear hK K
          try simp only [Act.put, List.setIfInBounds_toArray, List.set_cons_zero, List.set_cons_succ]
          refine Reg.one_op (i := 7) rfl (by kernel_rfl) (fun K hK => ?_)
          go_simp
          go_at_call 32
          refine (intB_s SD3.out i (at_left HI.out) (rs.length + 4) (at_r (by rfl)) (by have := (List.getElem?_eq_some_iff.1 HI.out).1; omega) [0, -1, 1000000000, 1000000001] rfl (fun _ => True) (by intro _ _; trivial) 4 rfl (by decide) (by decide)).mono ?_
          rintro e wq4 ⟨y, rfl, -, hS⟩
          have SD4 := Lib.hid hS
          clear hS
          go_wp2_with fail
          refine hK.out _ _ trivial (fun hS => ?_)
          clear hK K
          try simp only [Act.put, List.setIfInBounds_toArray, List.set_cons_zero, List.set_cons_succ]
          refine Reg.take_op (i := 8) (v := ?_) rfl (by kernel_rfl) (by kernel_rfl) (by kernel_rfl) (fun _ _ _ h => h) (by rfl) ?_ (by assumption) ?_
          rotate_left
          · (intro w hSw; (try dsimp only at hSw); go_simp; try with_reducible rfl)
          try simp only [Act.put, List.setIfInBounds_toArray, List.set_cons_zero, List.set_cons_succ]
          refine Reg.one_op (i := 9) rfl (by kernel_rfl) (fun K hK => ?_)
          go_simp
          have SD5 := Lib.hid (SD4.out.alloc (.cells #[.string s, .int .i64 y] 64))
          have R2 := Lib.hid (reads_two wq4 s y _ rfl 64)
          obtain ⟨g9, hg⟩ : ∃ g', g' = wq4.heap.size := ⟨_, rfl⟩
          rw [← hg] at R2 ⊢
          clear hg
          generalize wq4.alloc (.cells #[.string s, .int .i64 y] 64) = wq5 at SD5 R2 ⊢
          refine hK.out _ _ trivial (fun hS => ?_)
          clear hK K
          try simp only [Act.put, List.setIfInBounds_toArray, List.set_cons_zero, List.set_cons_succ]
          refine Reg.one_op (i := 10) rfl (by kernel_rfl) (fun K hK => ?_)
          refine step_append_s SD5.out (rs.length + 1) (at_r (by rfl)) rfl _ _ 24 (by rfl) i0 (.agg #[.string ⟨#[]⟩, .int .i64 0]) 24 Try.underlying24 HF.out.1 HF.out.2.1 HF.out.2.2.1 HF.out.2.2.2 rfl (by omega) l.length (by rfl) rfl (g9 + 1) (some ⟨g9, 0, none⟩) 1 1 1 (cellsF [⟨s, y⟩]) (by rfl) rfl R2.out (by simp) (cellsF_one _) (by have := HT.out.1; unfold maxLen; omega) (by have := HT.out.1; omega) ?_
          intro A2 C2 wq6 hS
          have SD6 := Lib.hid (show Sep W wq6 (rs ++ [boxR w.heap.size 26 #[.slice none 0 0], ownV 64 2 A2 C2 (l.length + 1) (cellsF l ++ cellsF [⟨s, y⟩]), boxR g 26 #[.slice A l.length C]]) from by rw [List.set_append_right _ _ (by omega), Nat.add_sub_cancel_left] at hS; exact take_r hS [0, 1, 2] (by rfl) (by decide))
          clear hS
          refine hK.out _ _ trivial (fun hS => ?_)
          clear hK K
          try simp only [Act.put, List.setIfInBounds_toArray, List.set_cons_zero, List.set_cons_succ]
          refine Reg.take_op (i := 11) (v := ?_) rfl (by kernel_rfl) (by kernel_rfl) (by kernel_rfl) (fun _ _ _ h => h) (by rfl) ?_ (by assumption) ?_
          rotate_left
          · (intro w hSw; (try dsimp only at hSw); go_simp; try with_reducible rfl)
          try simp only [Act.put, List.setIfInBounds_toArray, List.set_cons_zero, List.set_cons_succ]
          refine Reg.one_op (i := 12) rfl (by kernel_rfl) (fun K hK => ?_)
          obtain ⟨z0, z1⟩ := one_r SD6.out 2 rfl
          go_simp
          have SD7 := Lib.hid (put_r SD6.out 2 rfl 0 (.slice A2 (l.length + 1) C2))
          clear z0 z1
          refine hK.out _ _ trivial (fun hS => ?_)
          clear hK K
          try simp only [Act.put, List.setIfInBounds_toArray, List.set_cons_zero, List.set_cons_succ]
          refine wpAnyH_done (by kernel_rfl) ?_ _
          have hl := Lib.hid (show l.length + 1 = (l ++ [⟨s, y⟩] : List F).length by simp)
          obtain ⟨q0, q0'⟩ := one_r SD7.out 0 rfl
          obtain ⟨r0, r0'⟩ := one_r SD7.out 2 rfl
          go_wp2_with fail
          refine bodyPost_ret (v := .agg #[.slice A2 (l.length + 1) C2]) (by simp [results, Try.results30, go_sem, q0]) rfl ?_
          refine ⟨A2, C2, l ++ [⟨s, y⟩], by rw [← hl.out], (HT.out.app (by omega) y).mono (by omega), ?_⟩
          rw [← hl.out, cellsF_append]
          exact take_r (put_r SD7.out 0 rfl 0 (.slice A2 (l.length + 1) C2)) [1] (by rfl) (by decide)
        refine Reg.cons_op (i := 6) rfl (fun K hK => ?_) ?_
        · go_simp
          have SD3 := Lib.hid (box_r SD2.out 3 #[.int .i64 0, .int .i64 (-1), .int .i64 1000000000, .int .i64 1000000001] wq2.heap.size rfl)
          obtain ⟨g4, hg⟩ : ∃ g', g' = wq2.heap.size := ⟨_, rfl⟩
          rw [← hg] at SD3 ⊢
          clear hg
          generalize wq2.alloc (.cells #[.int .i64 0, .int .i64 (-1), .int .i64 1000000000, .int .i64 1000000001] 3) = wq3 at SD3 ⊢
          refine hK.out _ _ trivial (fun hS => ?_)
          clear hK K
          try simp only [Act.put, List.setIfInBounds_toArray, List.set_cons_zero, List.set_cons_succ]
          refine wpAnyH_ready (rs := [1, 7]) (by kernel_rfl) (by simp) ?_
          refine Reg.cons_op (i := 1) rfl (fun K hK => ?_) ?_
          · obtain ⟨r0, r0'⟩ := one_r SD3.out 2 rfl
            go_simp
            clear r0 r0'
            refine hK.out _ _ trivial (fun hS => ?_)
            clear hK K
            try simp only [Act.put, List.setIfInBounds_toArray, List.set_cons_zero, List.set_cons_succ]
            refine Reg.one_op (i := 7) rfl (by kernel_rfl) (fun K hK => ?_)
            go_simp
            go_at_call 32
            refine (intB_s SD3.out i (at_left HI.out) (rs.length + 4) (at_r (by rfl)) (by have := (List.getElem?_eq_some_iff.1 HI.out).1; omega) [0, -1, 1000000000, 1000000001] rfl (fun _ => True) (by intro _ _; trivial) 4 rfl (by decide) (by decide)).mono ?_
            rintro e wq4 ⟨y, rfl, -, hS⟩
            have SD4 := Lib.hid hS
            clear hS
            go_wp2_with fail
            refine hK.out _ _ trivial (fun hS => ?_)
            clear hK K
            try simp only [Act.put, List.setIfInBounds_toArray, List.set_cons_zero, List.set_cons_succ]
            refine Reg.take_op (i := 8) (v := ?_) rfl (by kernel_rfl) (by kernel_rfl) (by kernel_rfl) (fun _ _ _ h => h) (by rfl) ?_ (by assumption) ?_
            rotate_left
            · (intro w hSw; (try dsimp only at hSw); go_simp; try with_reducible rfl)
            try simp only [Act.put, List.setIfInBounds_toArray, List.set_cons_zero, List.set_cons_succ]
            refine Reg.one_op (i := 9) rfl (by kernel_rfl) (fun K hK => ?_)
            go_simp
            have SD5 := Lib.hid (SD4.out.alloc (.cells #[.string s, .int .i64 y] 64))
            have R2 := Lib.hid (reads_two wq4 s y _ rfl 64)
            obtain ⟨g9, hg⟩ : ∃ g', g' = wq4.heap.size := ⟨_, rfl⟩
            rw [← hg] at R2 ⊢
            clear hg
            generalize wq4.alloc (.cells #[.string s, .int .i64 y] 64) = wq5 at SD5 R2 ⊢
            refine hK.out _ _ trivial (fun hS => ?_)
            clear hK K
            try simp only [Act.put, List.setIfInBounds_toArray, List.set_cons_zero, List.set_cons_succ]
            refine Reg.one_op (i := 10) rfl (by kernel_rfl) (fun K hK => ?_)
            refine step_append_s SD5.out (rs.length + 1) (at_r (by rfl)) rfl _ _ 24 (by rfl) i0 (.agg #[.string ⟨#[]⟩, .int .i64 0]) 24 Try.underlying24 HF.out.1 HF.out.2.1 HF.out.2.2.1 HF.out.2.2.2 rfl (by omega) l.length (by rfl) rfl (g9 + 1) (some ⟨g9, 0, none⟩) 1 1 1 (cellsF [⟨s, y⟩]) (by rfl) rfl R2.out (by simp) (cellsF_one _) (by have := HT.out.1; unfold maxLen; omega) (by have := HT.out.1; omega) ?_
            intro A2 C2 wq6 hS
            have SD6 := Lib.hid (show Sep W wq6 (rs ++ [boxR w.heap.size 26 #[.slice none 0 0], ownV 64 2 A2 C2 (l.length + 1) (cellsF l ++ cellsF [⟨s, y⟩]), boxR g 26 #[.slice A l.length C]]) from by rw [List.set_append_right _ _ (by omega), Nat.add_sub_cancel_left] at hS; exact take_r hS [0, 1, 2] (by rfl) (by decide))
            clear hS
            refine hK.out _ _ trivial (fun hS => ?_)
            clear hK K
            try simp only [Act.put, List.setIfInBounds_toArray, List.set_cons_zero, List.set_cons_succ]
            refine Reg.take_op (i := 11) (v := ?_) rfl (by kernel_rfl) (by kernel_rfl) (by kernel_rfl) (fun _ _ _ h => h) (by rfl) ?_ (by assumption) ?_
            rotate_left
            · (intro w hSw; (try dsimp only at hSw); go_simp; try with_reducible rfl)
            try simp only [Act.put, List.setIfInBounds_toArray, List.set_cons_zero, List.set_cons_succ]
            refine Reg.one_op (i := 12) rfl (by kernel_rfl) (fun K hK => ?_)
            obtain ⟨z0, z1⟩ := one_r SD6.out 2 rfl
            go_simp
            have SD7 := Lib.hid (put_r SD6.out 2 rfl 0 (.slice A2 (l.length + 1) C2))
            clear z0 z1
            refine hK.out _ _ trivial (fun hS => ?_)
            clear hK K
            try simp only [Act.put, List.setIfInBounds_toArray, List.set_cons_zero, List.set_cons_succ]
            refine wpAnyH_done (by kernel_rfl) ?_ _
            have hl := Lib.hid (show l.length + 1 = (l ++ [⟨s, y⟩] : List F).length by simp)
            obtain ⟨q0, q0'⟩ := one_r SD7.out 0 rfl
            obtain ⟨r0, r0'⟩ := one_r SD7.out 2 rfl
            go_wp2_with fail
            refine bodyPost_ret (v := .agg #[.slice A2 (l.length + 1) C2]) (by simp [results, Try.results30, go_sem, q0]) rfl ?_
            refine ⟨A2, C2, l ++ [⟨s, y⟩], by rw [← hl.out], (HT.out.app (by omega) y).mono (by omega), ?_⟩
            rw [← hl.out, cellsF_append]
            exact take_r (put_r SD7.out 0 rfl 0 (.slice A2 (l.length + 1) C2)) [1] (by rfl) (by decide)
          refine Reg.cons_op (i := 7) rfl (fun K hK => ?_) ?_
          · go_simp
            go_at_call 32
            refine (intB_s SD3.out i (at_left HI.out) (rs.length + 4) (at_r (by rfl)) (by have := (List.getElem?_eq_some_iff.1 HI.out).1; omega) [0, -1, 1000000000, 1000000001] rfl (fun _ => True) (by intro _ _; trivial) 4 rfl (by decide) (by decide)).mono ?_
            rintro e wq4 ⟨y, rfl, -, hS⟩
            have SD4 := Lib.hid hS
            clear hS
            go_wp2_with fail
            refine hK.out _ _ trivial (fun hS => ?_)
            clear hK K
            try simp only [Act.put, List.setIfInBounds_toArray, List.set_cons_zero, List.set_cons_succ]
            refine Reg.take_op (i := 8) (v := ?_) rfl (by kernel_rfl) (by kernel_rfl) (by kernel_rfl) (fun _ _ _ h => h) (by rfl) ?_ (by assumption) ?_
            rotate_left
            · (intro w hSw; (try dsimp only at hSw); go_simp; try with_reducible rfl)
            try simp only [Act.put, List.setIfInBounds_toArray, List.set_cons_zero, List.set_cons_succ]
            refine wpAnyH_ready (rs := [1, 9]) (by kernel_rfl) (by simp) ?_
            refine Reg.cons_op (i := 1) rfl (fun K hK => ?_) ?_
            · obtain ⟨r0, r0'⟩ := one_r SD4.out 2 rfl
              go_simp
              clear r0 r0'
              refine hK.out _ _ trivial (fun hS => ?_)
              clear hK K
              try simp only [Act.put, List.setIfInBounds_toArray, List.set_cons_zero, List.set_cons_succ]
              refine Reg.one_op (i := 9) rfl (by kernel_rfl) (fun K hK => ?_)
              go_simp
              have SD5 := Lib.hid (SD4.out.alloc (.cells #[.string s, .int .i64 y] 64))
              have R2 := Lib.hid (reads_two wq4 s y _ rfl 64)
              obtain ⟨g9, hg⟩ : ∃ g', g' = wq4.heap.size := ⟨_, rfl⟩
              rw [← hg] at R2 ⊢
              clear hg
              generalize wq4.alloc (.cells #[.string s, .int .i64 y] 64) = wq5 at SD5 R2 ⊢
              refine hK.out _ _ trivial (fun hS => ?_)
              clear hK K
              try simp only [Act.put, List.setIfInBounds_toArray, List.set_cons_zero, List.set_cons_succ]
              refine Reg.one_op (i := 10) rfl (by kernel_rfl) (fun K hK => ?_)
              refine step_append_s SD5.out (rs.length + 1) (at_r (by rfl)) rfl _ _ 24 (by rfl) i0 (.agg #[.string ⟨#[]⟩, .int .i64 0]) 24 Try.underlying24 HF.out.1 HF.out.2.1 HF.out.2.2.1 HF.out.2.2.2 rfl (by omega) l.length (by rfl) rfl (g9 + 1) (some ⟨g9, 0, none⟩) 1 1 1 (cellsF [⟨s, y⟩]) (by rfl) rfl R2.out (by simp) (cellsF_one _) (by have := HT.out.1; unfold maxLen; omega) (by have := HT.out.1; omega) ?_
              intro A2 C2 wq6 hS
              have SD6 := Lib.hid (show Sep W wq6 (rs ++ [boxR w.heap.size 26 #[.slice none 0 0], ownV 64 2 A2 C2 (l.length + 1) (cellsF l ++ cellsF [⟨s, y⟩]), boxR g 26 #[.slice A l.length C]]) from by rw [List.set_append_right _ _ (by omega), Nat.add_sub_cancel_left] at hS; exact take_r hS [0, 1, 2] (by rfl) (by decide))
              clear hS
              refine hK.out _ _ trivial (fun hS => ?_)
              clear hK K
              try simp only [Act.put, List.setIfInBounds_toArray, List.set_cons_zero, List.set_cons_succ]
              refine Reg.take_op (i := 11) (v := ?_) rfl (by kernel_rfl) (by kernel_rfl) (by kernel_rfl) (fun _ _ _ h => h) (by rfl) ?_ (by assumption) ?_
              rotate_left
              · (intro w hSw; (try dsimp only at hSw); go_simp; try with_reducible rfl)
              try simp only [Act.put, List.setIfInBounds_toArray, List.set_cons_zero, List.set_cons_succ]
              refine Reg.one_op (i := 12) rfl (by kernel_rfl) (fun K hK => ?_)
              obtain ⟨z0, z1⟩ := one_r SD6.out 2 rfl
              go_simp
              have SD7 := Lib.hid (put_r SD6.out 2 rfl 0 (.slice A2 (l.length + 1) C2))
              clear z0 z1
              refine hK.out _ _ trivial (fun hS => ?_)
              clear hK K
              try simp only [Act.put, List.setIfInBounds_toArray, List.set_cons_zero, List.set_cons_succ]
              refine wpAnyH_done (by kernel_rfl) ?_ _
              have hl := Lib.hid (show l.length + 1 = (l ++ [⟨s, y⟩] : List F).length by simp)
              obtain ⟨q0, q0'⟩ := one_r SD7.out 0 rfl
              obtain ⟨r0, r0'⟩ := one_r SD7.out 2 rfl
              go_wp2_with fail
              refine bodyPost_ret (v := .agg #[.slice A2 (l.length + 1) C2]) (by simp [results, Try.results30, go_sem, q0]) rfl ?_
              refine ⟨A2, C2, l ++ [⟨s, y⟩], by rw [← hl.out], (HT.out.app (by omega) y).mono (by omega), ?_⟩
              rw [← hl.out, cellsF_append]
              exact take_r (put_r SD7.out 0 rfl 0 (.slice A2 (l.length + 1) C2)) [1] (by rfl) (by decide)
            refine Reg.cons_op (i := 9) rfl (fun K hK => ?_) ?_
            · go_simp
              have SD5 := Lib.hid (SD4.out.alloc (.cells #[.string s, .int .i64 y] 64))
              have R2 := Lib.hid (reads_two wq4 s y _ rfl 64)
              obtain ⟨g9, hg⟩ : ∃ g', g' = wq4.heap.size := ⟨_, rfl⟩
              rw [← hg] at R2 ⊢
              clear hg
              generalize wq4.alloc (.cells #[.string s, .int .i64 y] 64) = wq5 at SD5 R2 ⊢
              refine hK.out _ _ trivial (fun hS => ?_)
              clear hK K
              try simp only [Act.put, List.setIfInBounds_toArray, List.set_cons_zero, List.set_cons_succ]
              refine Reg.one_op (i := 1) rfl (by kernel_rfl) (fun K hK => ?_)
              obtain ⟨r0, r0'⟩ := one_r SD5.out 2 rfl
              go_simp
              clear r0 r0'
              refine hK.out _ _ trivial (fun hS => ?_)
              clear hK K
              try simp only [Act.put, List.setIfInBounds_toArray, List.set_cons_zero, List.set_cons_succ]
              refine Reg.one_op (i := 10) rfl (by kernel_rfl) (fun K hK => ?_)
              refine step_append_s SD5.out (rs.length + 1) (at_r (by rfl)) rfl _ _ 24 (by rfl) i0 (.agg #[.string ⟨#[]⟩, .int .i64 0]) 24 Try.underlying24 HF.out.1 HF.out.2.1 HF.out.2.2.1 HF.out.2.2.2 rfl (by omega) l.length (by rfl) rfl (g9 + 1) (some ⟨g9, 0, none⟩) 1 1 1 (cellsF [⟨s, y⟩]) (by rfl) rfl R2.out (by simp) (cellsF_one _) (by have := HT.out.1; unfold maxLen; omega) (by have := HT.out.1; omega) ?_
              intro A2 C2 wq6 hS
              have SD6 := Lib.hid (show Sep W wq6 (rs ++ [boxR w.heap.size 26 #[.slice none 0 0], ownV 64 2 A2 C2 (l.length + 1) (cellsF l ++ cellsF [⟨s, y⟩]), boxR g 26 #[.slice A l.length C]]) from by rw [List.set_append_right _ _ (by omega), Nat.add_sub_cancel_left] at hS; exact take_r hS [0, 1, 2] (by rfl) (by decide))
              clear hS
              refine hK.out _ _ trivial (fun hS => ?_)
              clear hK K
              try simp only [Act.put, List.setIfInBounds_toArray, List.set_cons_zero, List.set_cons_succ]
              refine Reg.take_op (i := 11) (v := ?_) rfl (by kernel_rfl) (by kernel_rfl) (by kernel_rfl) (fun _ _ _ h => h) (by rfl) ?_ (by assumption) ?_
              rotate_left
              · (intro w hSw; (try dsimp only at hSw); go_simp; try with_reducible rfl)
              try simp only [Act.put, List.setIfInBounds_toArray, List.set_cons_zero, List.set_cons_succ]
              refine Reg.one_op (i := 12) rfl (by kernel_rfl) (fun K hK => ?_)
              obtain ⟨z0, z1⟩ := one_r SD6.out 2 rfl
              go_simp
              have SD7 := Lib.hid (put_r SD6.out 2 rfl 0 (.slice A2 (l.length + 1) C2))
              clear z0 z1
              refine hK.out _ _ trivial (fun hS => ?_)
              clear hK K
              try simp only [Act.put, List.setIfInBounds_toArray, List.set_cons_zero, List.set_cons_succ]
              refine wpAnyH_done (by kernel_rfl) ?_ _
              have hl := Lib.hid (show l.length + 1 = (l ++ [⟨s, y⟩] : List F).length by simp)
              obtain ⟨q0, q0'⟩ := one_r SD7.out 0 rfl
              obtain ⟨r0, r0'⟩ := one_r SD7.out 2 rfl
              go_wp2_with fail
              refine bodyPost_ret (v := .agg #[.slice A2 (l.length + 1) C2]) (by simp [results, Try.results30, go_sem, q0]) rfl ?_
              refine ⟨A2, C2, l ++ [⟨s, y⟩], by rw [← hl.out], (HT.out.app (by omega) y).mono (by omega), ?_⟩
              rw [← hl.out, cellsF_append]
              exact take_r (put_r SD7.out 0 rfl 0 (.slice A2 (l.length + 1) C2)) [1] (by rfl) (by decide)
            exact AllReadyH.nil
          exact AllReadyH.nil
        exact AllReadyH.nil
      refine Reg.cons_op (i := 6) rfl (fun K hK => ?_) ?_
      · go_simp
        have SD2 := Lib.hid (box_r SD1.out 3 #[.int .i64 0, .int .i64 (-1), .int .i64 1000000000, .int .i64 1000000001] wq1.heap.size rfl)
        obtain ⟨g4, hg⟩ : ∃ g', g' = wq1.heap.size := ⟨_, rfl⟩
        rw [← hg] at SD2 ⊢
        clear hg
        generalize wq1.alloc (.cells #[.int .i64 0, .int .i64 (-1), .int .i64 1000000000, .int .i64 1000000001] 3) = wq2 at SD2 ⊢
        refine hK.out _ _ trivial (fun hS => ?_)
        clear hK K
        try simp only [Act.put, List.setIfInBounds_toArray, List.set_cons_zero, List.set_cons_succ]
        refine wpAnyH_ready (rs := [1, 4]) (by kernel_rfl) (by simp) ?_
        refine Reg.cons_op (i := 1) rfl (fun K hK => ?_) ?_
        · obtain ⟨r0, r0'⟩ := one_r SD2.out 2 rfl
          go_simp
          clear r0 r0'
          refine hK.out _ _ trivial (fun hS => ?_)
          clear hK K
          try simp only [Act.put, List.setIfInBounds_toArray, List.set_cons_zero, List.set_cons_succ]
          refine Reg.one_op (i := 4) rfl (by kernel_rfl) (fun K hK => ?_)
          go_simp
          go_at_call 31
          refine (strB_s SD2.out i (at_left HI.out) (rs.length + 3) (at_r (by rfl)) (by have := (List.getElem?_eq_some_iff.1 HI.out).1; omega) [⟨#[]⟩, ⟨#[65]⟩, ⟨#[122, 122, 122, 122, 122, 122, 122, 122, 122]⟩, ⟨#[122]⟩, ⟨#[97]⟩] rfl (fun s => s.size ≤ 9) (by decide) 5 rfl (by decide) (by decide)).mono ?_
          rintro e wq3 ⟨s, rfl, hs, hS⟩
          have SD3 := Lib.hid hS
          clear hS
          go_wp2_with fail
          refine hK.out _ _ trivial (fun hS => ?_)
          clear hK K
          try simp only [Act.put, List.setIfInBounds_toArray, List.set_cons_zero, List.set_cons_succ]
          refine Reg.one_op (i := 7) rfl (by kernel_rfl) (fun K hK => ?_)
          go_simp
          go_at_call 32
          refine (intB_s SD3.out i (at_left HI.out) (rs.length + 4) (at_r (by rfl)) (by have := (List.getElem?_eq_some_iff.1 HI.out).1; omega) [0, -1, 1000000000, 1000000001] rfl (fun _ => True) (by intro _ _; trivial) 4 rfl (by decide) (by decide)).mono ?_
          rintro e wq4 ⟨y, rfl, -, hS⟩
          have SD4 := Lib.hid hS
          clear hS
          go_wp2_with fail
          refine hK.out _ _ trivial (fun hS => ?_)
          clear hK K
          try simp only [Act.put, List.setIfInBounds_toArray, List.set_cons_zero, List.set_cons_succ]
          refine Reg.take_op (i := 8) (v := ?_) rfl (by kernel_rfl) (by kernel_rfl) (by kernel_rfl) (fun _ _ _ h => h) (by rfl) ?_ (by assumption) ?_
          rotate_left
          · (intro w hSw; (try dsimp only at hSw); go_simp; try with_reducible rfl)
          try simp only [Act.put, List.setIfInBounds_toArray, List.set_cons_zero, List.set_cons_succ]
          refine Reg.one_op (i := 9) rfl (by kernel_rfl) (fun K hK => ?_)
          go_simp
          have SD5 := Lib.hid (SD4.out.alloc (.cells #[.string s, .int .i64 y] 64))
          have R2 := Lib.hid (reads_two wq4 s y _ rfl 64)
          obtain ⟨g9, hg⟩ : ∃ g', g' = wq4.heap.size := ⟨_, rfl⟩
          rw [← hg] at R2 ⊢
          clear hg
          generalize wq4.alloc (.cells #[.string s, .int .i64 y] 64) = wq5 at SD5 R2 ⊢
          refine hK.out _ _ trivial (fun hS => ?_)
          clear hK K
          try simp only [Act.put, List.setIfInBounds_toArray, List.set_cons_zero, List.set_cons_succ]
          refine Reg.one_op (i := 10) rfl (by kernel_rfl) (fun K hK => ?_)
          refine step_append_s SD5.out (rs.length + 1) (at_r (by rfl)) rfl _ _ 24 (by rfl) i0 (.agg #[.string ⟨#[]⟩, .int .i64 0]) 24 Try.underlying24 HF.out.1 HF.out.2.1 HF.out.2.2.1 HF.out.2.2.2 rfl (by omega) l.length (by rfl) rfl (g9 + 1) (some ⟨g9, 0, none⟩) 1 1 1 (cellsF [⟨s, y⟩]) (by rfl) rfl R2.out (by simp) (cellsF_one _) (by have := HT.out.1; unfold maxLen; omega) (by have := HT.out.1; omega) ?_
          intro A2 C2 wq6 hS
          have SD6 := Lib.hid (show Sep W wq6 (rs ++ [boxR w.heap.size 26 #[.slice none 0 0], ownV 64 2 A2 C2 (l.length + 1) (cellsF l ++ cellsF [⟨s, y⟩]), boxR g 26 #[.slice A l.length C]]) from by rw [List.set_append_right _ _ (by omega), Nat.add_sub_cancel_left] at hS; exact take_r hS [0, 1, 2] (by rfl) (by decide))
          clear hS
          refine hK.out _ _ trivial (fun hS => ?_)
          clear hK K
          try simp only [Act.put, List.setIfInBounds_toArray, List.set_cons_zero, List.set_cons_succ]
          refine Reg.take_op (i := 11) (v := ?_) rfl (by kernel_rfl) (by kernel_rfl) (by kernel_rfl) (fun _ _ _ h => h) (by rfl) ?_ (by assumption) ?_
          rotate_left
          · (intro w hSw; (try dsimp only at hSw); go_simp; try with_reducible rfl)
          try simp only [Act.put, List.setIfInBounds_toArray, List.set_cons_zero, List.set_cons_succ]
          refine Reg.one_op (i := 12) rfl (by kernel_rfl) (fun K hK => ?_)
          obtain ⟨z0, z1⟩ := one_r SD6.out 2 rfl
          go_simp
          have SD7 := Lib.hid (put_r SD6.out 2 rfl 0 (.slice A2 (l.length + 1) C2))
          clear z0 z1
          refine hK.out _ _ trivial (fun hS => ?_)
          clear hK K
          try simp only [Act.put, List.setIfInBounds_toArray, List.set_cons_zero, List.set_cons_succ]
          refine wpAnyH_done (by kernel_rfl) ?_ _
          have hl := Lib.hid (show l.length + 1 = (l ++ [⟨s, y⟩] : List F).length by simp)
          obtain ⟨q0, q0'⟩ := one_r SD7.out 0 rfl
          obtain ⟨r0, r0'⟩ := one_r SD7.out 2 rfl
          go_wp2_with fail
          refine bodyPost_ret (v := .agg #[.slice A2 (l.length + 1) C2]) (by simp [results, Try.results30, go_sem, q0]) rfl ?_
          refine ⟨A2, C2, l ++ [⟨s, y⟩], by rw [← hl.out], (HT.out.app (by omega) y).mono (by omega), ?_⟩
          rw [← hl.out, cellsF_append]
          exact take_r (put_r SD7.out 0 rfl 0 (.slice A2 (l.length + 1) C2)) [1] (by rfl) (by decide)
        refine Reg.cons_op (i := 4) rfl (fun K hK => ?_) ?_
        · go_simp
          go_at_call 31
          refine (strB_s SD2.out i (at_left HI.out) (rs.length + 3) (at_r (by rfl)) (by have := (List.getElem?_eq_some_iff.1 HI.out).1; omega) [⟨#[]⟩, ⟨#[65]⟩, ⟨#[122, 122, 122, 122, 122, 122, 122, 122, 122]⟩, ⟨#[122]⟩, ⟨#[97]⟩] rfl (fun s => s.size ≤ 9) (by decide) 5 rfl (by decide) (by decide)).mono ?_
          rintro e wq3 ⟨s, rfl, hs, hS⟩
          have SD3 := Lib.hid hS
          clear hS
          go_wp2_with fail
          refine hK.out _ _ trivial (fun hS => ?_)
          clear hK K
          try simp only [Act.put, List.setIfInBounds_toArray, List.set_cons_zero, List.set_cons_succ]
          refine wpAnyH_ready (rs := [1, 7]) (by kernel_rfl) (by simp) ?_
          refine Reg.cons_op (i := 1) rfl (fun K hK => ?_) ?_
          · obtain ⟨r0, r0'⟩ := one_r SD3.out 2 rfl
            go_simp
            clear r0 r0'
            refine hK.out _ _ trivial (fun hS => ?_)
            clear hK K
            try simp only [Act.put, List.setIfInBounds_toArray, List.set_cons_zero, List.set_cons_succ]
            refine Reg.one_op (i := 7) rfl (by kernel_rfl) (fun K hK => ?_)
            go_simp
            go_at_call 32
            refine (intB_s SD3.out i (at_left HI.out) (rs.length + 4) (at_r (by rfl)) (by have := (List.getElem?_eq_some_iff.1 HI.out).1; omega) [0, -1, 1000000000, 1000000001] rfl (fun _ => True) (by intro _ _; trivial) 4 rfl (by decide) (by decide)).mono ?_
            rintro e wq4 ⟨y, rfl, -, hS⟩
            have SD4 := Lib.hid hS
            clear hS
            go_wp2_with fail
            refine hK.out _ _ trivial (fun hS => ?_)
            clear hK K
            try simp only [Act.put, List.setIfInBounds_toArray, List.set_cons_zero, List.set_cons_succ]
            refine Reg.take_op (i := 8) (v := ?_) rfl (by kernel_rfl) (by kernel_rfl) (by kernel_rfl) (fun _ _ _ h => h) (by rfl) ?_ (by assumption) ?_
            rotate_left
            · (intro w hSw; (try dsimp only at hSw); go_simp; try with_reducible rfl)
            try simp only [Act.put, List.setIfInBounds_toArray, List.set_cons_zero, List.set_cons_succ]
            refine Reg.one_op (i := 9) rfl (by kernel_rfl) (fun K hK => ?_)
            go_simp
            have SD5 := Lib.hid (SD4.out.alloc (.cells #[.string s, .int .i64 y] 64))
            have R2 := Lib.hid (reads_two wq4 s y _ rfl 64)
            obtain ⟨g9, hg⟩ : ∃ g', g' = wq4.heap.size := ⟨_, rfl⟩
            rw [← hg] at R2 ⊢
            clear hg
            generalize wq4.alloc (.cells #[.string s, .int .i64 y] 64) = wq5 at SD5 R2 ⊢
            refine hK.out _ _ trivial (fun hS => ?_)
            clear hK K
            try simp only [Act.put, List.setIfInBounds_toArray, List.set_cons_zero, List.set_cons_succ]
            refine Reg.one_op (i := 10) rfl (by kernel_rfl) (fun K hK => ?_)
            refine step_append_s SD5.out (rs.length + 1) (at_r (by rfl)) rfl _ _ 24 (by rfl) i0 (.agg #[.string ⟨#[]⟩, .int .i64 0]) 24 Try.underlying24 HF.out.1 HF.out.2.1 HF.out.2.2.1 HF.out.2.2.2 rfl (by omega) l.length (by rfl) rfl (g9 + 1) (some ⟨g9, 0, none⟩) 1 1 1 (cellsF [⟨s, y⟩]) (by rfl) rfl R2.out (by simp) (cellsF_one _) (by have := HT.out.1; unfold maxLen; omega) (by have := HT.out.1; omega) ?_
            intro A2 C2 wq6 hS
            have SD6 := Lib.hid (show Sep W wq6 (rs ++ [boxR w.heap.size 26 #[.slice none 0 0], ownV 64 2 A2 C2 (l.length + 1) (cellsF l ++ cellsF [⟨s, y⟩]), boxR g 26 #[.slice A l.length C]]) from by rw [List.set_append_right _ _ (by omega), Nat.add_sub_cancel_left] at hS; exact take_r hS [0, 1, 2] (by rfl) (by decide))
            clear hS
            refine hK.out _ _ trivial (fun hS => ?_)
            clear hK K
            try simp only [Act.put, List.setIfInBounds_toArray, List.set_cons_zero, List.set_cons_succ]
            refine Reg.take_op (i := 11) (v := ?_) rfl (by kernel_rfl) (by kernel_rfl) (by kernel_rfl) (fun _ _ _ h => h) (by rfl) ?_ (by assumption) ?_
            rotate_left
            · (intro w hSw; (try dsimp only at hSw); go_simp; try with_reducible rfl)
            try simp only [Act.put, List.setIfInBounds_toArray, List.set_cons_zero, List.set_cons_succ]
            refine Reg.one_op (i := 12) rfl (by kernel_rfl) (fun K hK => ?_)
            obtain ⟨z0, z1⟩ := one_r SD6.out 2 rfl
            go_simp
            have SD7 := Lib.hid (put_r SD6.out 2 rfl 0 (.slice A2 (l.length + 1) C2))
            clear z0 z1
            refine hK.out _ _ trivial (fun hS => ?_)
            clear hK K
            try simp only [Act.put, List.setIfInBounds_toArray, List.set_cons_zero, List.set_cons_succ]
            refine wpAnyH_done (by kernel_rfl) ?_ _
            have hl := Lib.hid (show l.length + 1 = (l ++ [⟨s, y⟩] : List F).length by simp)
            obtain ⟨q0, q0'⟩ := one_r SD7.out 0 rfl
            obtain ⟨r0, r0'⟩ := one_r SD7.out 2 rfl
            go_wp2_with fail
            refine bodyPost_ret (v := .agg #[.slice A2 (l.length + 1) C2]) (by simp [results, Try.results30, go_sem, q0]) rfl ?_
            refine ⟨A2, C2, l ++ [⟨s, y⟩], by rw [← hl.out], (HT.out.app (by omega) y).mono (by omega), ?_⟩
            rw [← hl.out, cellsF_append]
            exact take_r (put_r SD7.out 0 rfl 0 (.slice A2 (l.length + 1) C2)) [1] (by rfl) (by decide)
          refine Reg.cons_op (i := 7) rfl (fun K hK => ?_) ?_
          · go_simp
            go_at_call 32
            refine (intB_s SD3.out i (at_left HI.out) (rs.length + 4) (at_r (by rfl)) (by have := (List.getElem?_eq_some_iff.1 HI.out).1; omega) [0, -1, 1000000000, 1000000001] rfl (fun _ => True) (by intro _ _; trivial) 4 rfl (by decide) (by decide)).mono ?_
            rintro e wq4 ⟨y, rfl, -, hS⟩
            have SD4 := Lib.hid hS
            clear hS
            go_wp2_with fail
            refine hK.out _ _ trivial (fun hS => ?_)
            clear hK K
            try simp only [Act.put, List.setIfInBounds_toArray, List.set_cons_zero, List.set_cons_succ]
            refine Reg.take_op (i := 8) (v := ?_) rfl (by kernel_rfl) (by kernel_rfl) (by kernel_rfl) (fun _ _ _ h => h) (by rfl) ?_ (by assumption) ?_
            rotate_left
            · (intro w hSw; (try dsimp only at hSw); go_simp; try with_reducible rfl)
            try simp only [Act.put, List.setIfInBounds_toArray, List.set_cons_zero, List.set_cons_succ]
            refine wpAnyH_ready (rs := [1, 9]) (by kernel_rfl) (by simp) ?_
            refine Reg.cons_op (i := 1) rfl (fun K hK => ?_) ?_
            · obtain ⟨r0, r0'⟩ := one_r SD4.out 2 rfl
              go_simp
              clear r0 r0'
              refine hK.out _ _ trivial (fun hS => ?_)
              clear hK K
              try simp only [Act.put, List.setIfInBounds_toArray, List.set_cons_zero, List.set_cons_succ]
              refine Reg.one_op (i := 9) rfl (by kernel_rfl) (fun K hK => ?_)
              go_simp
              have SD5 := Lib.hid (SD4.out.alloc (.cells #[.string s, .int .i64 y] 64))
              have R2 := Lib.hid (reads_two wq4 s y _ rfl 64)
              obtain ⟨g9, hg⟩ : ∃ g', g' = wq4.heap.size := ⟨_, rfl⟩
              rw [← hg] at R2 ⊢
              clear hg
              generalize wq4.alloc (.cells #[.string s, .int .i64 y] 64) = wq5 at SD5 R2 ⊢
              refine hK.out _ _ trivial (fun hS => ?_)
              clear hK K
              try simp only [Act.put, List.setIfInBounds_toArray, List.set_cons_zero, List.set_cons_succ]
              refine Reg.one_op (i := 10) rfl (by kernel_rfl) (fun K hK => ?_)
              refine step_append_s SD5.out (rs.length + 1) (at_r (by rfl)) rfl _ _ 24 (by rfl) i0 (.agg #[.string ⟨#[]⟩, .int .i64 0]) 24 Try.underlying24 HF.out.1 HF.out.2.1 HF.out.2.2.1 HF.out.2.2.2 rfl (by omega) l.length (by rfl) rfl (g9 + 1) (some ⟨g9, 0, none⟩) 1 1 1 (cellsF [⟨s, y⟩]) (by rfl) rfl R2.out (by simp) (cellsF_one _) (by have := HT.out.1; unfold maxLen; omega) (by have := HT.out.1; omega) ?_
              intro A2 C2 wq6 hS
              have SD6 := Lib.hid (show Sep W wq6 (rs ++ [boxR w.heap.size 26 #[.slice none 0 0], ownV 64 2 A2 C2 (l.length + 1) (cellsF l ++ cellsF [⟨s, y⟩]), boxR g 26 #[.slice A l.length C]]) from by rw [List.set_append_right _ _ (by omega), Nat.add_sub_cancel_left] at hS; exact take_r hS [0, 1, 2] (by rfl) (by decide))
              clear hS
              refine hK.out _ _ trivial (fun hS => ?_)
              clear hK K
              try simp only [Act.put, List.setIfInBounds_toArray, List.set_cons_zero, List.set_cons_succ]
              refine Reg.take_op (i := 11) (v := ?_) rfl (by kernel_rfl) (by kernel_rfl) (by kernel_rfl) (fun _ _ _ h => h) (by rfl) ?_ (by assumption) ?_
              rotate_left
              · (intro w hSw; (try dsimp only at hSw); go_simp; try with_reducible rfl)
              try simp only [Act.put, List.setIfInBounds_toArray, List.set_cons_zero, List.set_cons_succ]
              refine Reg.one_op (i := 12) rfl (by kernel_rfl) (fun K hK => ?_)
              obtain ⟨z0, z1⟩ := one_r SD6.out 2 rfl
              go_simp
              have SD7 := Lib.hid (put_r SD6.out 2 rfl 0 (.slice A2 (l.length + 1) C2))
              clear z0 z1
              refine hK.out _ _ trivial (fun hS => ?_)
              clear hK K
              try simp only [Act.put, List.setIfInBounds_toArray, List.set_cons_zero, List.set_cons_succ]
              refine wpAnyH_done (by kernel_rfl) ?_ _
              have hl := Lib.hid (show l.length + 1 = (l ++ [⟨s, y⟩] : List F).length by simp)
              obtain ⟨q0, q0'⟩ := one_r SD7.out 0 rfl
              obtain ⟨r0, r0'⟩ := one_r SD7.out 2 rfl
              go_wp2_with fail
              refine bodyPost_ret (v := .agg #[.slice A2 (l.length + 1) C2]) (by simp [results, Try.results30, go_sem, q0]) rfl ?_
              refine ⟨A2, C2, l ++ [⟨s, y⟩], by rw [← hl.out], (HT.out.app (by omega) y).mono (by omega), ?_⟩
              rw [← hl.out, cellsF_append]
              exact take_r (put_r SD7.out 0 rfl 0 (.slice A2 (l.length + 1) C2)) [1] (by rfl) (by decide)
            refine Reg.cons_op (i := 9) rfl (fun K hK => ?_) ?_
            · go_simp
              have SD5 := Lib.hid (SD4.out.alloc (.cells #[.string s, .int .i64 y] 64))
              have R2 := Lib.hid (reads_two wq4 s y _ rfl 64)
              obtain ⟨g9, hg⟩ : ∃ g', g' = wq4.heap.size := ⟨_, rfl⟩
              rw [← hg] at R2 ⊢
              clear hg
              generalize wq4.alloc (.cells #[.string s, .int .i64 y] 64) = wq5 at SD5 R2 ⊢
              refine hK.out _ _ trivial (fun hS => ?_)
              clear hK K
              try simp only [Act.put, List.setIfInBounds_toArray, List.set_cons_zero, List.set_cons_succ]
              refine Reg.one_op (i := 1) rfl (by kernel_rfl) (fun K hK => ?_)
              obtain ⟨r0, r0'⟩ := one_r SD5.out 2 rfl
              go_simp
              clear r0 r0'
              refine hK.out _ _ trivial (fun hS => ?_)
              clear hK K
              try simp only [Act.put, List.setIfInBounds_toArray, List.set_cons_zero, List.set_cons_succ]
              refine Reg.one_op (i := 10) rfl (by kernel_rfl) (fun K hK => ?_)
              refine step_append_s SD5.out (rs.length + 1) (at_r (by rfl)) rfl _ _ 24 (by rfl) i0 (.agg #[.string ⟨#[]⟩, .int .i64 0]) 24 Try.underlying24 HF.out.1 HF.out.2.1 HF.out.2.2.1 HF.out.2.2.2 rfl (by omega) l.length (by rfl) rfl (g9 + 1) (some ⟨g9, 0, none⟩) 1 1 1 (cellsF [⟨s, y⟩]) (by rfl) rfl R2.out (by simp) (cellsF_one _) (by have := HT.out.1; unfold maxLen; omega) (by have := HT.out.1; omega) ?_
              intro A2 C2 wq6 hS
              have SD6 := Lib.hid (show Sep W wq6 (rs ++ [boxR w.heap.size 26 #[.slice none 0 0], ownV 64 2 A2 C2 (l.length + 1) (cellsF l ++ cellsF [⟨s, y⟩]), boxR g 26 #[.slice A l.length C]]) from by rw [List.set_append_right _ _ (by omega), Nat.add_sub_cancel_left] at hS; exact take_r hS [0, 1, 2] (by rfl) (by decide))
              clear hS
              refine hK.out _ _ trivial (fun hS => ?_)
              clear hK K
              try simp only [Act.put, List.setIfInBounds_toArray, List.set_cons_zero, List.set_cons_succ]
              refine Reg.take_op (i := 11) (v := ?_) rfl (by kernel_rfl) (by kernel_rfl) (by kernel_rfl) (fun _ _ _ h => h) (by rfl) ?_ (by assumption) ?_
              rotate_left
              · (intro w hSw; (try dsimp only at hSw); go_simp; try with_reducible rfl)
              try simp only [Act.put, List.setIfInBounds_toArray, List.set_cons_zero, List.set_cons_succ]
              refine Reg.one_op (i := 12) rfl (by kernel_rfl) (fun K hK => ?_)
              obtain ⟨z0, z1⟩ := one_r SD6.out 2 rfl
              go_simp
              have SD7 := Lib.hid (put_r SD6.out 2 rfl 0 (.slice A2 (l.length + 1) C2))
              clear z0 z1
              refine hK.out _ _ trivial (fun hS => ?_)
              clear hK K
              try simp only [Act.put, List.setIfInBounds_toArray, List.set_cons_zero, List.set_cons_succ]
              refine wpAnyH_done (by kernel_rfl) ?_ _
              have hl := Lib.hid (show l.length + 1 = (l ++ [⟨s, y⟩] : List F).length by simp)
              obtain ⟨q0, q0'⟩ := one_r SD7.out 0 rfl
              obtain ⟨r0, r0'⟩ := one_r SD7.out 2 rfl
              go_wp2_with fail
              refine bodyPost_ret (v := .agg #[.slice A2 (l.length + 1) C2]) (by simp [results, Try.results30, go_sem, q0]) rfl ?_
              refine ⟨A2, C2, l ++ [⟨s, y⟩], by rw [← hl.out], (HT.out.app (by omega) y).mono (by omega), ?_⟩
              rw [← hl.out, cellsF_append]
              exact take_r (put_r SD7.out 0 rfl 0 (.slice A2 (l.length + 1) C2)) [1] (by rfl) (by decide)
            exact AllReadyH.nil
          exact AllReadyH.nil
        exact AllReadyH.nil
      exact AllReadyH.nil
    refine Reg.cons_op (i := 6) rfl (fun K hK => ?_) ?_
    · go_simp
      have SD1 := Lib.hid (box_r SD0.out 3 #[.int .i64 0, .int .i64 (-1), .int .i64 1000000000, .int .i64 1000000001] wd.heap.size rfl)
      obtain ⟨g3, hg⟩ : ∃ g', g' = wd.heap.size := ⟨_, rfl⟩
      rw [← hg] at SD1 ⊢
      clear hg
      generalize wd.alloc (.cells #[.int .i64 0, .int .i64 (-1), .int .i64 1000000000, .int .i64 1000000001] 3) = wq1 at SD1 ⊢
      refine hK.out _ _ trivial (fun hS => ?_)
      clear hK K
      try simp only [Act.put, List.setIfInBounds_toArray, List.set_cons_zero, List.set_cons_succ]
      refine wpAnyH_ready (rs := [1, 3]) (by kernel_rfl) (by simp) ?_
      refine Reg.cons_op (i := 1) rfl (fun K hK => ?_) ?_
      · obtain ⟨r0, r0'⟩ := one_r SD1.out 2 rfl
        go_simp
        clear r0 r0'
        refine hK.out _ _ trivial (fun hS => ?_)
        clear hK K
        try simp only [Act.put, List.setIfInBounds_toArray, List.set_cons_zero, List.set_cons_succ]
        refine Reg.one_op (i := 3) rfl (by kernel_rfl) (fun K hK => ?_)
        go_simp
        have SD2 := Lib.hid (box_r SD1.out 9 #[.string ⟨#[]⟩, .string ⟨#[65]⟩, .string ⟨#[122, 122, 122, 122, 122, 122, 122, 122, 122]⟩, .string ⟨#[122]⟩, .string ⟨#[97]⟩] wq1.heap.size rfl)
        obtain ⟨g4, hg⟩ : ∃ g', g' = wq1.heap.size := ⟨_, rfl⟩
        rw [← hg] at SD2 ⊢
        clear hg
        generalize wq1.alloc (.cells #[.string ⟨#[]⟩, .string ⟨#[65]⟩, .string ⟨#[122, 122, 122, 122, 122, 122, 122, 122, 122]⟩, .string ⟨#[122]⟩, .string ⟨#[97]⟩] 9) = wq2 at SD2 ⊢
        refine hK.out _ _ trivial (fun hS => ?_)
        clear hK K
        try simp only [Act.put, List.setIfInBounds_toArray, List.set_cons_zero, List.set_cons_succ]
        refine Reg.one_op (i := 4) rfl (by kernel_rfl) (fun K hK => ?_)
        go_simp
        go_at_call 31
        refine (strB_s SD2.out i (at_left HI.out) (rs.length + 4) (at_r (by rfl)) (by have := (List.getElem?_eq_some_iff.1 HI.out).1; omega) [⟨#[]⟩, ⟨#[65]⟩, ⟨#[122, 122, 122, 122, 122, 122, 122, 122, 122]⟩, ⟨#[122]⟩, ⟨#[97]⟩] rfl (fun s => s.size ≤ 9) (by decide) 5 rfl (by decide) (by decide)).mono ?_
        rintro e wq3 ⟨s, rfl, hs, hS⟩
        have SD3 := Lib.hid hS
        clear hS
        go_wp2_with fail
        refine hK.out _ _ trivial (fun hS => ?_)
        clear hK K
        try simp only [Act.put, List.setIfInBounds_toArray, List.set_cons_zero, List.set_cons_succ]
        refine Reg.one_op (i := 7) rfl (by kernel_rfl) (fun K hK => ?_)
        go_simp
        go_at_call 32
        refine (intB_s SD3.out i (at_left HI.out) (rs.length + 3) (at_r (by rfl)) (by have := (List.getElem?_eq_some_iff.1 HI.out).1; omega) [0, -1, 1000000000, 1000000001] rfl (fun _ => True) (by intro _ _; trivial) 4 rfl (by decide) (by decide)).mono ?_
        rintro e wq4 ⟨y, rfl, -, hS⟩
        have SD4 := Lib.hid hS
        clear hS
        go_wp2_with fail
        refine hK.out _ _ trivial (fun hS => ?_)
        clear hK K
        try simp only [Act.put, List.setIfInBounds_toArray, List.set_cons_zero, List.set_cons_succ]
        refine Reg.take_op (i := 8) (v := ?_) rfl (by kernel_rfl) (by kernel_rfl) (by kernel_rfl) (fun _ _ _ h => h) (by rfl) ?_ (by assumption) ?_
        rotate_left
        · (intro w hSw; (try dsimp only at hSw); go_simp; try with_reducible rfl)
        try simp only [Act.put, List.setIfInBounds_toArray, List.set_cons_zero, List.set_cons_succ]
        refine Reg.one_op (i := 9) rfl (by kernel_rfl) (fun K hK => ?_)
        go_simp
        have SD5 := Lib.hid (SD4.out.alloc (.cells #[.string s, .int .i64 y] 64))
        have R2 := Lib.hid (reads_two wq4 s y _ rfl 64)
        obtain ⟨g9, hg⟩ : ∃ g', g' = wq4.heap.size := ⟨_, rfl⟩
        rw [← hg] at R2 ⊢
        clear hg
        generalize wq4.alloc (.cells #[.string s, .int .i64 y] 64) = wq5 at SD5 R2 ⊢
        refine hK.out _ _ trivial (fun hS => ?_)
        clear hK K
        try simp only [Act.put, List.setIfInBounds_toArray, List.set_cons_zero, List.set_cons_succ]
        refine Reg.one_op (i := 10) rfl (by kernel_rfl) (fun K hK => ?_)
        refine step_append_s SD5.out (rs.length + 1) (at_r (by rfl)) rfl _ _ 24 (by rfl) i0 (.agg #[.string ⟨#[]⟩, .int .i64 0]) 24 Try.underlying24 HF.out.1 HF.out.2.1 HF.out.2.2.1 HF.out.2.2.2 rfl (by omega) l.length (by rfl) rfl (g9 + 1) (some ⟨g9, 0, none⟩) 1 1 1 (cellsF [⟨s, y⟩]) (by rfl) rfl R2.out (by simp) (cellsF_one _) (by have := HT.out.1; unfold maxLen; omega) (by have := HT.out.1; omega) ?_
        intro A2 C2 wq6 hS
        have SD6 := Lib.hid (show Sep W wq6 (rs ++ [boxR w.heap.size 26 #[.slice none 0 0], ownV 64 2 A2 C2 (l.length + 1) (cellsF l ++ cellsF [⟨s, y⟩]), boxR g 26 #[.slice A l.length C]]) from by rw [List.set_append_right _ _ (by omega), Nat.add_sub_cancel_left] at hS; exact take_r hS [0, 1, 2] (by rfl) (by decide))
        clear hS
        refine hK.out _ _ trivial (fun hS => ?_)
        clear hK K
        try simp only [Act.put, List.setIfInBounds_toArray, List.set_cons_zero, List.set_cons_succ]
        refine Reg.take_op (i := 11) (v := ?_) rfl (by kernel_rfl) (by kernel_rfl) (by kernel_rfl) (fun _ _ _ h => h) (by rfl) ?_ (by assumption) ?_
        rotate_left
        · (intro w hSw; (try dsimp only at hSw); go_simp; try with_reducible rfl)
        try simp only [Act.put, List.setIfInBounds_toArray, List.set_cons_zero, List.set_cons_succ]
        refine Reg.one_op (i := 12) rfl (by kernel_rfl) (fun K hK => ?_)
        obtain ⟨z0, z1⟩ := one_r SD6.out 2 rfl
        go_simp
        have SD7 := Lib.hid (put_r SD6.out 2 rfl 0 (.slice A2 (l.length + 1) C2))
        clear z0 z1
        refine hK.out _ _ trivial (fun hS => ?_)
        clear hK K
        try simp only [Act.put, List.setIfInBounds_toArray, List.set_cons_zero, List.set_cons_succ]
        refine wpAnyH_done (by kernel_rfl) ?_ _
        have hl := Lib.hid (show l.length + 1 = (l ++ [⟨s, y⟩] : List F).length by simp)
        obtain ⟨q0, q0'⟩ := one_r SD7.out 0 rfl
        obtain ⟨r0, r0'⟩ := one_r SD7.out 2 rfl
        go_wp2_with fail
        refine bodyPost_ret (v := .agg #[.slice A2 (l.length + 1) C2]) (by simp [results, Try.results30, go_sem, q0]) rfl ?_
        refine ⟨A2, C2, l ++ [⟨s, y⟩], by rw [← hl.out], (HT.out.app (by omega) y).mono (by omega), ?_⟩
        rw [← hl.out, cellsF_append]
        exact take_r (put_r SD7.out 0 rfl 0 (.slice A2 (l.length + 1) C2)) [1] (by rfl) (by decide)
      refine Reg.cons_op (i := 3) rfl (fun K hK => ?_) ?_
      · go_simp
        have SD2 := Lib.hid (box_r SD1.out 9 #[.string ⟨#[]⟩, .string ⟨#[65]⟩, .string ⟨#[122, 122, 122, 122, 122, 122, 122, 122, 122]⟩, .string ⟨#[122]⟩, .string ⟨#[97]⟩] wq1.heap.size rfl)
        obtain ⟨g4, hg⟩ : ∃ g', g' = wq1.heap.size := ⟨_, rfl⟩
        rw [← hg] at SD2 ⊢
        clear hg
        generalize wq1.alloc (.cells #[.string ⟨#[]⟩, .string ⟨#[65]⟩, .string ⟨#[122, 122, 122, 122, 122, 122, 122, 122, 122]⟩, .string ⟨#[122]⟩, .string ⟨#[97]⟩] 9) = wq2 at SD2 ⊢
        refine hK.out _ _ trivial (fun hS => ?_)
        clear hK K
        try simp only [Act.put, List.setIfInBounds_toArray, List.set_cons_zero, List.set_cons_succ]
        refine wpAnyH_ready (rs := [1, 4]) (by kernel_rfl) (by simp) ?_
        refine Reg.cons_op (i := 1) rfl (fun K hK => ?_) ?_
        · obtain ⟨r0, r0'⟩ := one_r SD2.out 2 rfl
          go_simp
          clear r0 r0'
          refine hK.out _ _ trivial (fun hS => ?_)
          clear hK K
          try simp only [Act.put, List.setIfInBounds_toArray, List.set_cons_zero, List.set_cons_succ]
          refine Reg.one_op (i := 4) rfl (by kernel_rfl) (fun K hK => ?_)
          go_simp
          go_at_call 31
          refine (strB_s SD2.out i (at_left HI.out) (rs.length + 4) (at_r (by rfl)) (by have := (List.getElem?_eq_some_iff.1 HI.out).1; omega) [⟨#[]⟩, ⟨#[65]⟩, ⟨#[122, 122, 122, 122, 122, 122, 122, 122, 122]⟩, ⟨#[122]⟩, ⟨#[97]⟩] rfl (fun s => s.size ≤ 9) (by decide) 5 rfl (by decide) (by decide)).mono ?_
          rintro e wq3 ⟨s, rfl, hs, hS⟩
          have SD3 := Lib.hid hS
          clear hS
          go_wp2_with fail
          refine hK.out _ _ trivial (fun hS => ?_)
          clear hK K
          try simp only [Act.put, List.setIfInBounds_toArray, List.set_cons_zero, List.set_cons_succ]
          refine Reg.one_op (i := 7) rfl (by kernel_rfl) (fun K hK => ?_)
          go_simp
          go_at_call 32
          refine (intB_s SD3.out i (at_left HI.out) (rs.length + 3) (at_r (by rfl)) (by have := (List.getElem?_eq_some_iff.1 HI.out).1; omega) [0, -1, 1000000000, 1000000001] rfl (fun _ => True) (by intro _ _; trivial) 4 rfl (by decide) (by decide)).mono ?_
          rintro e wq4 ⟨y, rfl, -, hS⟩
          have SD4 := Lib.hid hS
          clear hS
          go_wp2_with fail
          refine hK.out _ _ trivial (fun hS => ?_)
          clear hK K
          try simp only [Act.put, List.setIfInBounds_toArray, List.set_cons_zero, List.set_cons_succ]
          refine Reg.take_op (i := 8) (v := ?_) rfl (by kernel_rfl) (by kernel_rfl) (by kernel_rfl) (fun _ _ _ h => h) (by rfl) ?_ (by assumption) ?_
          rotate_left
          · (intro w hSw; (try dsimp only at hSw); go_simp; try with_reducible rfl)
          try simp only [Act.put, List.setIfInBounds_toArray, List.set_cons_zero, List.set_cons_succ]
          refine Reg.one_op (i := 9) rfl (by kernel_rfl) (fun K hK => ?_)
          go_simp
          have SD5 := Lib.hid (SD4.out.alloc (.cells #[.string s, .int .i64 y] 64))
          have R2 := Lib.hid (reads_two wq4 s y _ rfl 64)
          obtain ⟨g9, hg⟩ : ∃ g', g' = wq4.heap.size := ⟨_, rfl⟩
          rw [← hg] at R2 ⊢
          clear hg
          generalize wq4.alloc (.cells #[.string s, .int .i64 y] 64) = wq5 at SD5 R2 ⊢
          refine hK.out _ _ trivial (fun hS => ?_)
          clear hK K
          try simp only [Act.put, List.setIfInBounds_toArray, List.set_cons_zero, List.set_cons_succ]
          refine Reg.one_op (i := 10) rfl (by kernel_rfl) (fun K hK => ?_)
          refine step_append_s SD5.out (rs.length + 1) (at_r (by rfl)) rfl _ _ 24 (by rfl) i0 (.agg #[.string ⟨#[]⟩, .int .i64 0]) 24 Try.underlying24 HF.out.1 HF.out.2.1 HF.out.2.2.1 HF.out.2.2.2 rfl (by omega) l.length (by rfl) rfl (g9 + 1) (some ⟨g9, 0, none⟩) 1 1 1 (cellsF [⟨s, y⟩]) (by rfl) rfl R2.out (by simp) (cellsF_one _) (by have := HT.out.1; unfold maxLen; omega) (by have := HT.out.1; omega) ?_
          intro A2 C2 wq6 hS
          have SD6 := Lib.hid (show Sep W wq6 (rs ++ [boxR w.heap.size 26 #[.slice none 0 0], ownV 64 2 A2 C2 (l.length + 1) (cellsF l ++ cellsF [⟨s, y⟩]), boxR g 26 #[.slice A l.length C]]) from by rw [List.set_append_right _ _ (by omega), Nat.add_sub_cancel_left] at hS; exact take_r hS [0, 1, 2] (by rfl) (by decide))
          clear hS
          refine hK.out _ _ trivial (fun hS => ?_)
          clear hK K
          try simp only [Act.put, List.setIfInBounds_toArray, List.set_cons_zero, List.set_cons_succ]
          refine Reg.take_op (i := 11) (v := ?_) rfl (by kernel_rfl) (by kernel_rfl) (by kernel_rfl) (fun _ _ _ h => h) (by rfl) ?_ (by assumption) ?_
          rotate_left
          · (intro w hSw; (try dsimp only at hSw); go_simp; try with_reducible rfl)
          try simp only [Act.put, List.setIfInBounds_toArray, List.set_cons_zero, List.set_cons_succ]
          refine Reg.one_op (i := 12) rfl (by kernel_rfl) (fun K hK => ?_)
          obtain ⟨z0, z1⟩ := one_r SD6.out 2 rfl
          go_simp
          have SD7 := Lib.hid (put_r SD6.out 2 rfl 0 (.slice A2 (l.length + 1) C2))
          clear z0 z1
          refine hK.out _ _ trivial (fun hS => ?_)
          clear hK K
          try simp only [Act.put, List.setIfInBounds_toArray, List.set_cons_zero, List.set_cons_succ]
          refine wpAnyH_done (by kernel_rfl) ?_ _
          have hl := Lib.hid (show l.length + 1 = (l ++ [⟨s, y⟩] : List F).length by simp)
          obtain ⟨q0, q0'⟩ := one_r SD7.out 0 rfl
          obtain ⟨r0, r0'⟩ := one_r SD7.out 2 rfl
          go_wp2_with fail
          refine bodyPost_ret (v := .agg #[.slice A2 (l.length + 1) C2]) (by simp [results, Try.results30, go_sem, q0]) rfl ?_
          refine ⟨A2, C2, l ++ [⟨s, y⟩], by rw [← hl.out], (HT.out.app (by omega) y).mono (by omega), ?_⟩
          rw [← hl.out, cellsF_append]
          exact take_r (put_r SD7.out 0 rfl 0 (.slice A2 (l.length + 1) C2)) [1] (by rfl) (by decide)
        refine Reg.cons_op (i := 4) rfl (fun K hK => ?_) ?_
        · go_simp
          go_at_call 31
          refine (strB_s SD2.out i (at_left HI.out) (rs.length + 4) (at_r (by rfl)) (by have := (List.getElem?_eq_some_iff.1 HI.out).1; omega) [⟨#[]⟩, ⟨#[65]⟩, ⟨#[122, 122, 122, 122, 122, 122, 122, 122, 122]⟩, ⟨#[122]⟩, ⟨#[97]⟩] rfl (fun s => s.size ≤ 9) (by decide) 5 rfl (by decide) (by decide)).mono ?_
          rintro e wq3 ⟨s, rfl, hs, hS⟩
          have SD3 := Lib.hid hS
          clear hS
          go_wp2_with fail
          refine hK.out _ _ trivial (fun hS => ?_)
          clear hK K
          try simp only [Act.put, List.setIfInBounds_toArray, List.set_cons_zero, List.set_cons_succ]
          refine wpAnyH_ready (rs := [1, 7]) (by kernel_rfl) (by simp) ?_
          refine Reg.cons_op (i := 1) rfl (fun K hK => ?_) ?_
          · obtain ⟨r0, r0'⟩ := one_r SD3.out 2 rfl
            go_simp
            clear r0 r0'
            refine hK.out _ _ trivial (fun hS => ?_)
            clear hK K
            try simp only [Act.put, List.setIfInBounds_toArray, List.set_cons_zero, List.set_cons_succ]
            refine Reg.one_op (i := 7) rfl (by kernel_rfl) (fun K hK => ?_)
            go_simp
            go_at_call 32
            refine (intB_s SD3.out i (at_left HI.out) (rs.length + 3) (at_r (by rfl)) (by have := (List.getElem?_eq_some_iff.1 HI.out).1; omega) [0, -1, 1000000000, 1000000001] rfl (fun _ => True) (by intro _ _; trivial) 4 rfl (by decide) (by decide)).mono ?_
            rintro e wq4 ⟨y, rfl, -, hS⟩
            have SD4 := Lib.hid hS
            clear hS
            go_wp2_with fail
            refine hK.out _ _ trivial (fun hS => ?_)
            clear hK K
            try simp only [Act.put, List.setIfInBounds_toArray, List.set_cons_zero, List.set_cons_succ]
            refine Reg.take_op (i := 8) (v := ?_) rfl (by kernel_rfl) (by kernel_rfl) (by kernel_rfl) (fun _ _ _ h => h) (by rfl) ?_ (by assumption) ?_
            rotate_left
            · (intro w hSw; (try dsimp only at hSw); go_simp; try with_reducible rfl)
            try simp only [Act.put, List.setIfInBounds_toArray, List.set_cons_zero, List.set_cons_succ]
            refine Reg.one_op (i := 9) rfl (by kernel_rfl) (fun K hK => ?_)
            go_simp
            have SD5 := Lib.hid (SD4.out.alloc (.cells #[.string s, .int .i64 y] 64))
            have R2 := Lib.hid (reads_two wq4 s y _ rfl 64)
            obtain ⟨g9, hg⟩ : ∃ g', g' = wq4.heap.size := ⟨_, rfl⟩
            rw [← hg] at R2 ⊢
            clear hg
            generalize wq4.alloc (.cells #[.string s, .int .i64 y] 64) = wq5 at SD5 R2 ⊢
            refine hK.out _ _ trivial (fun hS => ?_)
            clear hK K
            try simp only [Act.put, List.setIfInBounds_toArray, List.set_cons_zero, List.set_cons_succ]
            refine Reg.one_op (i := 10) rfl (by kernel_rfl) (fun K hK => ?_)
            refine step_append_s SD5.out (rs.length + 1) (at_r (by rfl)) rfl _ _ 24 (by rfl) i0 (.agg #[.string ⟨#[]⟩, .int .i64 0]) 24 Try.underlying24 HF.out.1 HF.out.2.1 HF.out.2.2.1 HF.out.2.2.2 rfl (by omega) l.length (by rfl) rfl (g9 + 1) (some ⟨g9, 0, none⟩) 1 1 1 (cellsF [⟨s, y⟩]) (by rfl) rfl R2.out (by simp) (cellsF_one _) (by have := HT.out.1; unfold maxLen; omega) (by have := HT.out.1; omega) ?_
            intro A2 C2 wq6 hS
            have SD6 := Lib.hid (show Sep W wq6 (rs ++ [boxR w.heap.size 26 #[.slice none 0 0], ownV 64 2 A2 C2 (l.length + 1) (cellsF l ++ cellsF [⟨s, y⟩]), boxR g 26 #[.slice A l.length C]]) from by rw [List.set_append_right _ _ (by omega), Nat.add_sub_cancel_left] at hS; exact take_r hS [0, 1, 2] (by rfl) (by decide))
            clear hS
            refine hK.out _ _ trivial (fun hS => ?_)
            clear hK K
            try simp only [Act.put, List.setIfInBounds_toArray, List.set_cons_zero, List.set_cons_succ]
            refine Reg.take_op (i := 11) (v := ?_) rfl (by kernel_rfl) (by kernel_rfl) (by kernel_rfl) (fun _ _ _ h => h) (by rfl) ?_ (by assumption) ?_
            rotate_left
            · (intro w hSw; (try dsimp only at hSw); go_simp; try with_reducible rfl)
            try simp only [Act.put, List.setIfInBounds_toArray, List.set_cons_zero, List.set_cons_succ]
            refine Reg.one_op (i := 12) rfl (by kernel_rfl) (fun K hK => ?_)
            obtain ⟨z0, z1⟩ := one_r SD6.out 2 rfl
            go_simp
            have SD7 := Lib.hid (put_r SD6.out 2 rfl 0 (.slice A2 (l.length + 1) C2))
            clear z0 z1
            refine hK.out _ _ trivial (fun hS => ?_)
            clear hK K
            try simp only [Act.put, List.setIfInBounds_toArray, List.set_cons_zero, List.set_cons_succ]
            refine wpAnyH_done (by kernel_rfl) ?_ _
            have hl := Lib.hid (show l.length + 1 = (l ++ [⟨s, y⟩] : List F).length by simp)
            obtain ⟨q0, q0'⟩ := one_r SD7.out 0 rfl
            obtain ⟨r0, r0'⟩ := one_r SD7.out 2 rfl
            go_wp2_with fail
            refine bodyPost_ret (v := .agg #[.slice A2 (l.length + 1) C2]) (by simp [results, Try.results30, go_sem, q0]) rfl ?_
            refine ⟨A2, C2, l ++ [⟨s, y⟩], by rw [← hl.out], (HT.out.app (by omega) y).mono (by omega), ?_⟩
            rw [← hl.out, cellsF_append]
            exact take_r (put_r SD7.out 0 rfl 0 (.slice A2 (l.length + 1) C2)) [1] (by rfl) (by decide)
          refine Reg.cons_op (i := 7) rfl (fun K hK => ?_) ?_
          · go_simp
            go_at_call 32
            refine (intB_s SD3.out i (at_left HI.out) (rs.length + 3) (at_r (by rfl)) (by have := (List.getElem?_eq_some_iff.1 HI.out).1; omega) [0, -1, 1000000000, 1000000001] rfl (fun _ => True) (by intro _ _; trivial) 4 rfl (by decide) (by decide)).mono ?_
            rintro e wq4 ⟨y, rfl, -, hS⟩
            have SD4 := Lib.hid hS
            clear hS
            go_wp2_with fail
            refine hK.out _ _ trivial (fun hS => ?_)
            clear hK K
            try simp only [Act.put, List.setIfInBounds_toArray, List.set_cons_zero, List.set_cons_succ]
            refine Reg.take_op (i := 8) (v := ?_) rfl (by kernel_rfl) (by kernel_rfl) (by kernel_rfl) (fun _ _ _ h => h) (by rfl) ?_ (by assumption) ?_
            rotate_left
            · (intro w hSw; (try dsimp only at hSw); go_simp; try with_reducible rfl)
            try simp only [Act.put, List.setIfInBounds_toArray, List.set_cons_zero, List.set_cons_succ]
            refine wpAnyH_ready (rs := [1, 9]) (by kernel_rfl) (by simp) ?_
            refine Reg.cons_op (i := 1) rfl (fun K hK => ?_) ?_
            · obtain ⟨r0, r0'⟩ := one_r SD4.out 2 rfl
              go_simp
              clear r0 r0'
              refine hK.out _ _ trivial (fun hS => ?_)
              clear hK K
              try simp only [Act.put, List.setIfInBounds_toArray, List.set_cons_zero, List.set_cons_succ]
              refine Reg.one_op (i := 9) rfl (by kernel_rfl) (fun K hK => ?_)
              go_simp
              have SD5 := Lib.hid (SD4.out.alloc (.cells #[.string s, .int .i64 y] 64))
              have R2 := Lib.hid (reads_two wq4 s y _ rfl 64)
              obtain ⟨g9, hg⟩ : ∃ g', g' = wq4.heap.size := ⟨_, rfl⟩
              rw [← hg] at R2 ⊢
              clear hg
              generalize wq4.alloc (.cells #[.string s, .int .i64 y] 64) = wq5 at SD5 R2 ⊢
              refine hK.out _ _ trivial (fun hS => ?_)
              clear hK K
              try simp only [Act.put, List.setIfInBounds_toArray, List.set_cons_zero, List.set_cons_succ]
              refine Reg.one_op (i := 10) rfl (by kernel_rfl) (fun K hK => ?_)
              refine step_append_s SD5.out (rs.length + 1) (at_r (by rfl)) rfl _ _ 24 (by rfl) i0 (.agg #[.string ⟨#[]⟩, .int .i64 0]) 24 Try.underlying24 HF.out.1 HF.out.2.1 HF.out.2.2.1 HF.out.2.2.2 rfl (by omega) l.length (by rfl) rfl (g9 + 1) (some ⟨g9, 0, none⟩) 1 1 1 (cellsF [⟨s, y⟩]) (by rfl) rfl R2.out (by simp) (cellsF_one _) (by have := HT.out.1; unfold maxLen; omega) (by have := HT.out.1; omega) ?_
              intro A2 C2 wq6 hS
              have SD6 := Lib.hid (show Sep W wq6 (rs ++ [boxR w.heap.size 26 #[.slice none 0 0], ownV 64 2 A2 C2 (l.length + 1) (cellsF l ++ cellsF [⟨s, y⟩]), boxR g 26 #[.slice A l.length C]]) from by rw [List.set_append_right _ _ (by omega), Nat.add_sub_cancel_left] at hS; exact take_r hS [0, 1, 2] (by rfl) (by decide))
              clear hS
              refine hK.out _ _ trivial (fun hS => ?_)
              clear hK K
              try simp only [Act.put, List.setIfInBounds_toArray, List.set_cons_zero, List.set_cons_succ]
              refine Reg.take_op (i := 11) (v := ?_) rfl (by kernel_rfl) (by kernel_rfl) (by kernel_rfl) (fun _ _ _ h => h) (by rfl) ?_ (by assumption) ?_
              rotate_left
              · (intro w hSw; (try dsimp only at hSw); go_simp; try with_reducible rfl)
              try simp only [Act.put, List.setIfInBounds_toArray, List.set_cons_zero, List.set_cons_succ]
              refine Reg.one_op (i := 12) rfl (by kernel_rfl) (fun K hK => ?_)
              obtain ⟨z0, z1⟩ := one_r SD6.out 2 rfl
              go_simp
              have SD7 := Lib.hid (put_r SD6.out 2 rfl 0 (.slice A2 (l.length + 1) C2))
              clear z0 z1
              refine hK.out _ _ trivial (fun hS => ?_)
              clear hK K
              try simp only [Act.put, List.setIfInBounds_toArray, List.set_cons_zero, List.set_cons_succ]
              refine wpAnyH_done (by kernel_rfl) ?_ _
              have hl := Lib.hid (show l.length + 1 = (l ++ [⟨s, y⟩] : List F).length by simp)
              obtain ⟨q0, q0'⟩ := one_r SD7.out 0 rfl
              obtain ⟨r0, r0'⟩ := one_r SD7.out 2 rfl
              go_wp2_with fail
              refine bodyPost_ret (v := .agg #[.slice A2 (l.length + 1) C2]) (by simp [results, Try.results30, go_sem, q0]) rfl ?_
              refine ⟨A2, C2, l ++ [⟨s, y⟩], by rw [← hl.out], (HT.out.app (by omega) y).mono (by omega), ?_⟩
              rw [← hl.out, cellsF_append]
              exact take_r (put_r SD7.out 0 rfl 0 (.slice A2 (l.length + 1) C2)) [1] (by rfl) (by decide)
            refine Reg.cons_op (i := 9) rfl (fun K hK => ?_) ?_
            · go_simp
              have SD5 := Lib.hid (SD4.out.alloc (.cells #[.string s, .int .i64 y] 64))
              have R2 := Lib.hid (reads_two wq4 s y _ rfl 64)
              obtain ⟨g9, hg⟩ : ∃ g', g' = wq4.heap.size := ⟨_, rfl⟩
              rw [← hg] at R2 ⊢
              clear hg
              generalize wq4.alloc (.cells #[.string s, .int .i64 y] 64) = wq5 at SD5 R2 ⊢
              refine hK.out _ _ trivial (fun hS => ?_)
              clear hK K
              try simp only [Act.put, List.setIfInBounds_toArray, List.set_cons_zero, List.set_cons_succ]
              refine Reg.one_op (i := 1) rfl (by kernel_rfl) (fun K hK => ?_)
              obtain ⟨r0, r0'⟩ := one_r SD5.out 2 rfl
              go_simp
              clear r0 r0'
              refine hK.out _ _ trivial (fun hS => ?_)
              clear hK K
              try simp only [Act.put, List.setIfInBounds_toArray, List.set_cons_zero, List.set_cons_succ]
              refine Reg.one_op (i := 10) rfl (by kernel_rfl) (fun K hK => ?_)
              refine step_append_s SD5.out (rs.length + 1) (at_r (by rfl)) rfl _ _ 24 (by rfl) i0 (.agg #[.string ⟨#[]⟩, .int .i64 0]) 24 Try.underlying24 HF.out.1 HF.out.2.1 HF.out.2.2.1 HF.out.2.2.2 rfl (by omega) l.length (by rfl) rfl (g9 + 1) (some ⟨g9, 0, none⟩) 1 1 1 (cellsF [⟨s, y⟩]) (by rfl) rfl R2.out (by simp) (cellsF_one _) (by have := HT.out.1; unfold maxLen; omega) (by have := HT.out.1; omega) ?_
              intro A2 C2 wq6 hS
              have SD6 := Lib.hid (show Sep W wq6 (rs ++ [boxR w.heap.size 26 #[.slice none 0 0], ownV 64 2 A2 C2 (l.length + 1) (cellsF l ++ cellsF [⟨s, y⟩]), boxR g 26 #[.slice A l.length C]]) from by rw [List.set_append_right _ _ (by omega), Nat.add_sub_cancel_left] at hS; exact take_r hS [0, 1, 2] (by rfl) (by decide))
              clear hS
              refine hK.out _ _ trivial (fun hS => ?_)
              clear hK K
              try simp only [Act.put, List.setIfInBounds_toArray, List.set_cons_zero, List.set_cons_succ]
              refine Reg.take_op (i := 11) (v := ?_) rfl (by kernel_rfl) (by kernel_rfl) (by kernel_rfl) (fun _ _ _ h => h) (by rfl) ?_ (by assumption) ?_
              rotate_left
              · (intro w hSw; (try dsimp only at hSw); go_simp; try with_reducible rfl)
              try simp only [Act.put, List.setIfInBounds_toArray, List.set_cons_zero, List.set_cons_succ]
              refine Reg.one_op (i := 12) rfl (by kernel_rfl) (fun K hK => ?_)
              obtain ⟨z0, z1⟩ := one_r SD6.out 2 rfl
              go_simp
              have SD7 := Lib.hid (put_r SD6.out 2 rfl 0 (.slice A2 (l.length + 1) C2))
              clear z0 z1
              refine hK.out _ _ trivial (fun hS => ?_)
              clear hK K
              try simp only [Act.put, List.setIfInBounds_toArray, List.set_cons_zero, List.set_cons_succ]
              refine wpAnyH_done (by kernel_rfl) ?_ _
              have hl := Lib.hid (show l.length + 1 = (l ++ [⟨s, y⟩] : List F).length by simp)
              obtain ⟨q0, q0'⟩ := one_r SD7.out 0 rfl
              obtain ⟨r0, r0'⟩ := one_r SD7.out 2 rfl
              go_wp2_with fail
              refine bodyPost_ret (v := .agg #[.slice A2 (l.length + 1) C2]) (by simp [results, Try.results30, go_sem, q0]) rfl ?_
              refine ⟨A2, C2, l ++ [⟨s, y⟩], by rw [← hl.out], (HT.out.app (by omega) y).mono (by omega), ?_⟩
              rw [← hl.out, cellsF_append]
              exact take_r (put_r SD7.out 0 rfl 0 (.slice A2 (l.length + 1) C2)) [1] (by rfl) (by decide)
            exact AllReadyH.nil
          exact AllReadyH.nil
        exact AllReadyH.nil
      exact AllReadyH.nil
    exact AllReadyH.nil
  · have e0' : (x == 0) = false := by simp [e0]
    by_cases e1 : x = 1
    · subst e1
      have S4 := Lib.hid (box_r S3.out 9 #[.string ⟨#[100]⟩, .string ⟨#[101]⟩, .string ⟨#[102]⟩, .string ⟨#[103]⟩, .string ⟨#[104]⟩, .string ⟨#[105]⟩] w2.heap.size rfl)
      go_wp2_with fail
      go_loopw [28] (fun v wr => ∃ j : Nat, j ≤ 6 ∧ v = .int .i64 j ∧ Hid (∃ A C l, Tame l (3 + j) ∧ Sep W wr (rs ++ [boxR w.heap.size 26 #[.slice none 0 0], ownV 64 2 A C l.length (cellsF l), boxR g 26 #[.slice A l.length C], boxR w2.heap.size 9 #[.string ⟨#[100]⟩, .string ⟨#[101]⟩, .string ⟨#[102]⟩, .string ⟨#[103]⟩, .string ⟨#[104]⟩, .string ⟨#[105]⟩]]))) (fun v _ => 6 - (intOf v).toNat)
      case atStart => exact ⟨0, by omega, rfl, A, C, l, HT.out, S4.out⟩
      case round =>
        obtain ⟨j, hj, rfl, hrel⟩ := hrel
        clear S4 S3 HT
        obtain ⟨A, C, l, hT, S⟩ := hrel.out
        have S5 := Lib.hid S
        have HT := Lib.hid hT
        clear S hT hrel
        by_cases hlt : (j : Int) < 6
        · obtain ⟨s, hs0, hs⟩ := six_strs j (by omega)
          have hc : wr.cell? ⟨w2.heap.size, j, none⟩ = some (.string s) := by rw [(box_at S5.out (rs.length + 3) (at_r rfl)).cell]; exact hs0
          obtain ⟨r0, r0'⟩ := one_r S5.out 2 rfl
          have HSet := Lib.hid (specSetField_any A C l s 1 (by have := HT.out.1; omega) HT.out.2 (by omega) wr (own_r S5.out 1 rfl).reads (own_r S5.out 1 rfl).cap (own_zero (own_r S5.out 1 rfl)))
          have HT2 := Lib.hid (HT.out.set (show s.size ≤ 281474976710656 by omega) 1)
          clear hs0
          go_wp2_with fail
          go_at_call 11
          refine HSet.out.mono ?_
          rintro e w4 h8
          obtain ⟨A2, C2, rfl, ho, hb⟩ := h8
          have S6 := Lib.hid (push_r S5.out hb ho)
          clear ho hb r0 r0' hc HSet
          obtain ⟨r0, r0'⟩ := one_r S6.out 2 rfl
          have S7 := Lib.hid (take_r (us := [boxR w.heap.size 26 #[.slice none 0 0], ownV 64 2 A2 C2 (setL l s 1).length (cellsF (setL l s 1)), boxR g 26 #[.slice A2 (setL l s 1).length C2], boxR w2.heap.size 9 #[.string ⟨#[100]⟩, .string ⟨#[101]⟩, .string ⟨#[102]⟩, .string ⟨#[103]⟩, .string ⟨#[104]⟩, .string ⟨#[105]⟩]]) (put_r S6.out 2 rfl 0 (.slice A2 (setL l s 1).length C2)) [0, 4, 2, 3] (by rfl) (by decide))
          go_wp2_with fail
          go_roundw
          case rel => exact ⟨j + 1, by omega, by go_num, A2, C2, setL l s 1, HT2.out, S7.out⟩
          case measure => simp [intOf]; omega
        · obtain rfl : j = 6 := by omega
          obtain ⟨q0, q0'⟩ := one_r S5.out 0 rfl
          obtain ⟨r0, r0'⟩ := one_r S5.out 2 rfl
          go_wp2_with fail
          refine bodyPost_ret (v := .agg #[.slice A l.length C]) (by simp [results, Try.results30, go_sem, q0]) rfl ?_
          exact ⟨A, C, l, rfl, HT.out, take_r (put_r S5.out 0 rfl 0 (.slice A l.length C)) [1] (by rfl) (by decide)⟩
    · have e1' : (x == 1) = false := by simp [e1]
      obtain ⟨q0, q0'⟩ := one_r S3.out 0 rfl
      obtain ⟨r0, r0'⟩ := one_r S3.out 2 rfl
      go_wp2_with fail
      refine bodyPost_ret (v := .agg #[.slice A l.length C]) (by simp [results, Try.results30, go_sem, q0]) rfl ?_
      exact ⟨A, C, l, rfl, HT.out.mono (by omega), take_r (put_r S3.out 0 rfl 0 (.slice A l.length C)) [1] (by rfl) (by decide)⟩
end
end Go.Proofs.Ytephiilicebdcaa.L5
