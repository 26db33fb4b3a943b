/-
  What the law FnIndexes needs, laid by my program lawpack.py, part 4: the texts Sd6, Run, Rst, L6Dr, L7Sc, L7Ds, L5Cp, L6Ia, L4Im2, L4Im1, L4Im3, L4Arr, L4Im4, one behind the other; each begins with its own words.
-/
import Derived.Test.YtmnedjhfibmcnaaFnIndexesP3
set_option linter.unusedSimpArgs false
/-
  Chapter 5's draws over several things that lie apart: l5Any, DrawSetField, DrawDecodeRecord. No condition but that the code is a slice of bytes of at most 2^62 places. (The regions that draw their order are written by my program gen_sd6.py.)
-/
namespace Go.Proofs.Ytmnedjhfibmcnaa.L5
set_option maxRecDepth 100000
open L4 (boxR push_box box_at)
open Go.ChangeShapes Go.WideShapes Go.ChangeAt Go.RowKit Mem Sl Ex Draw L2 Sv
open Sd (curR at_left below_s once_s new_s str_sg int_sg drew_s cur_on moved put_r let_go drop gave)
set_option linter.unusedVariables false
set_option linter.unusedSimpArgs false

theorem assoc_r {W w : World} {rs ts us : List Res} (h : Sep W w ((rs ++ ts) ++ us)) : Sep W w (rs ++ (ts ++ us)) := by rwa [List.append_assoc] at h
theorem six_strs (j : Nat) (hj : j < 6) : ∃ s : ByteArray, (#[.string ⟨#[100]⟩, .string ⟨#[101]⟩, .string ⟨#[102]⟩, .string ⟨#[103]⟩, .string ⟨#[104]⟩, .string ⟨#[105]⟩] : Array Value)[j]? = some (.string s) ∧ s.size ≤ 1 := by
  match j, hj with
  | 0, _ => exact ⟨_, rfl, by decide⟩
  | 1, _ => exact ⟨_, rfl, by decide⟩
  | 2, _ => exact ⟨_, rfl, by decide⟩
  | 3, _ => exact ⟨_, rfl, by decide⟩
  | 4, _ => exact ⟨_, rfl, by decide⟩
  | 5, _ => exact ⟨_, rfl, by decide⟩
section
variable {W w : World} {rs : List Res} {c : Nat}
set_option maxHeartbeats 16000000 in
theorem any_s (h : Sep W w rs) (i : Nat) (hi : rs[i]? = some (curR W c)) :
    Calls Try.prog 112 #[.pointer (some ⟨c, 0, none⟩)] w fun e w' => ∃ A C l, e = .returned (.agg #[.slice A l.length C]) ∧ Tame l 9 ∧ Sep W w' (rs ++ [ownV 107 2 A C l.length (cellsF l)]) := by
  obtain ⟨i0, hi0, hz0, hz1, hz2⟩ := fieldInfo
  have HF := Lib.hid (And.intro hi0 (And.intro hz0 (And.intro hz1 hz2)))
  have HI := Lib.hid hi
  have S1 := Lib.hid (box_r (none_r h) 41 #[.slice none 0 0] w.heap.size rfl)
  clear h hi hi0 hz0 hz1 hz2
  go_enter Try.func112, Try.ntmps112
  go_wp2_with fail
  go_at_call 135
  refine (rec_s S1.out i (at_left HI.out)).mono ?_
  rintro e w1 ⟨A, C, l, rfl, hT, S2'⟩
  have S2 := Lib.hid (box_r (assoc_r S2') 41 #[.slice A l.length C] w1.heap.size rfl)
  have HT := Lib.hid hT
  clear S1 S2' hT
  go_wp2_with fail
  go_at_call 108
  refine (below_s S2.out i (at_left HI.out) _ (by decide) (by decide)).mono ?_
  rintro e w2 ⟨x, rfl, ⟨hx0, hx1⟩, S3'⟩
  have S3 := Lib.hid S3'
  clear S3' S2
  obtain ⟨g, hg⟩ : ∃ g, g = w1.heap.size := ⟨_, rfl⟩
  rw [← hg] at S3 ⊢
  clear hg
  by_cases e0 : x = 0
  · subst e0
    go_upto_region 4 with fail
    refine wp_region_held_drew (S := (fun _ => True)) (by kernel_rfl) trivial (fun hS => ?_)
    have SD0 := Lib.hid (drew_s S3.out)
    clear S3
    generalize w2.drew = wd at SD0 ⊢
    refine tk 0 rfl ?_
    try simp only [zp0, zp1, zp2, zp3, zp4]
    refine tk 2 rfl ?_
    try simp only [zp0, zp1, zp2, zp3, zp4]
    refine tk 5 rfl ?_
    try simp only [zp0, zp1, zp2, zp3, zp4]
    refine wpAnyH_ready (rs := [1, 3, 6]) (by kernel_rfl) (by simp) ?_
    refine Reg.cons_op (i := 1) rfl (fun K hK => ?_) ?_
    · obtain ⟨r0, r0'⟩ := one_r SD0.out 2 rfl
      go_simp
      clear r0 r0'
      refine hK.out _ _ trivial (fun hS => ?_)
      clear hK K
      try simp only [zp0, zp1, zp2, zp3, zp4]
      refine wpAnyH_ready (rs := [3, 6]) (by kernel_rfl) (by simp) ?_
      refine Reg.cons_op (i := 3) rfl (fun K hK => ?_) ?_
      · go_simp
        have SD1 := Lib.hid (box_r SD0.out 9 #[.string ⟨#[]⟩, .string ⟨#[65]⟩, .string ⟨#[122, 122, 122, 122, 122, 122, 122, 122, 122]⟩, .string ⟨#[122]⟩, .string ⟨#[97]⟩] wd.heap.size rfl)
        obtain ⟨g3, hg⟩ : ∃ g', g' = wd.heap.size := ⟨_, rfl⟩
        rw [← hg] at SD1 ⊢
        clear hg
        generalize wd.alloc (.cells #[.string ⟨#[]⟩, .string ⟨#[65]⟩, .string ⟨#[122, 122, 122, 122, 122, 122, 122, 122, 122]⟩, .string ⟨#[122]⟩, .string ⟨#[97]⟩] 9) = wq1 at SD1 ⊢
        refine hK.out _ _ trivial (fun hS => ?_)
        clear hK K
        try simp only [zp0, zp1, zp2, zp3, zp4]
        refine wpAnyH_ready (rs := [4, 6]) (by kernel_rfl) (by simp) ?_
        refine Reg.cons_op (i := 4) rfl (fun K hK => ?_) ?_
        · go_simp
          go_at_call 109
          refine (strB_s SD1.out i (at_left HI.out) (rs.length + 3) (at_r (by rfl)) (by have := (List.getElem?_eq_some_iff.1 HI.out).1; omega) [⟨#[]⟩, ⟨#[65]⟩, ⟨#[122, 122, 122, 122, 122, 122, 122, 122, 122]⟩, ⟨#[122]⟩, ⟨#[97]⟩] rfl (fun s => s.size ≤ 9) (by decide) 5 rfl (by decide) (by decide)).mono ?_
          rintro e wq2 ⟨s, rfl, hs, hS⟩
          have SD2 := Lib.hid hS
          clear hS
          go_wp2_with fail
          refine hK.out _ _ trivial (fun hS => ?_)
          clear hK K
          try simp only [zp0, zp1, zp2, zp3, zp4]
          refine Reg.one_op (i := 6) rfl (by kernel_rfl) (fun K hK => ?_)
          go_simp
          have SD3 := Lib.hid (box_r SD2.out 3 #[.int .i64 0, .int .i64 (-1), .int .i64 1000000000, .int .i64 1000000001] wq2.heap.size rfl)
          obtain ⟨g4, hg⟩ : ∃ g', g' = wq2.heap.size := ⟨_, rfl⟩
          rw [← hg] at SD3 ⊢
          clear hg
          generalize wq2.alloc (.cells #[.int .i64 0, .int .i64 (-1), .int .i64 1000000000, .int .i64 1000000001] 3) = wq3 at SD3 ⊢
          refine hK.out _ _ trivial (fun hS => ?_)
          clear hK K
          try simp only [zp0, zp1, zp2, zp3, zp4]
          refine Reg.one_op (i := 7) rfl (by kernel_rfl) (fun K hK => ?_)
          go_simp
          go_at_call 110
          refine (intB_s SD3.out i (at_left HI.out) (rs.length + 4) (at_r (by rfl)) (by have := (List.getElem?_eq_some_iff.1 HI.out).1; omega) [0, -1, 1000000000, 1000000001] rfl (fun _ => True) (by intro _ _; trivial) 4 rfl (by decide) (by decide)).mono ?_
          rintro e wq4 ⟨y, rfl, -, hS⟩
          have SD4 := Lib.hid hS
          clear hS
          go_wp2_with fail
          refine hK.out _ _ trivial (fun hS => ?_)
          clear hK K
          try simp only [zp0, zp1, zp2, zp3, zp4]
          refine tk 8 rfl ?_
          try simp only [zp0, zp1, zp2, zp3, zp4]
          refine Reg.one_op (i := 9) rfl (by kernel_rfl) (fun K hK => ?_)
          go_simp
          have SD5 := Lib.hid (SD4.out.alloc (.cells #[.string s, .int .i64 y] 107))
          have R2 := Lib.hid (reads_two wq4 s y _ rfl 107)
          obtain ⟨g9, hg⟩ : ∃ g', g' = wq4.heap.size := ⟨_, rfl⟩
          rw [← hg] at R2 ⊢
          clear hg
          generalize wq4.alloc (.cells #[.string s, .int .i64 y] 107) = wq5 at SD5 R2 ⊢
          refine hK.out _ _ trivial (fun hS => ?_)
          clear hK K
          try simp only [zp0, zp1, zp2, zp3, zp4]
          refine Reg.one_op (i := 10) rfl (by kernel_rfl) (fun K hK => ?_)
          refine step_append_s SD5.out (rs.length + 1) (at_r (by rfl)) rfl _ _ 39 (by rfl) i0 (.agg #[.string ⟨#[]⟩, .int .i64 0]) 24 Try.underlying39 HF.out.1 HF.out.2.1 HF.out.2.2.1 HF.out.2.2.2 rfl (by omega) l.length (by rfl) rfl (g9 + 1) (some ⟨g9, 0, none⟩) 1 1 1 (cellsF [⟨s, y⟩]) (by rfl) rfl R2.out (by simp) (cellsF_one _) (by have := HT.out.1; unfold maxLen; omega) (by have := HT.out.1; omega) ?_
          intro A2 C2 wq6 hS
          have SD6 := Lib.hid (show Sep W wq6 (rs ++ [boxR w.heap.size 41 #[.slice none 0 0], ownV 107 2 A2 C2 (l.length + 1) (cellsF l ++ cellsF [⟨s, y⟩]), boxR g 41 #[.slice A l.length C]]) from by rw [List.set_append_right _ _ (by omega), Nat.add_sub_cancel_left] at hS; exact take_r hS [0, 1, 2] (by rfl) (by decide))
          clear hS
          refine hK.out _ _ trivial (fun hS => ?_)
          clear hK K
          try simp only [zp0, zp1, zp2, zp3, zp4]
          refine tk 11 rfl ?_
          try simp only [zp0, zp1, zp2, zp3, zp4]
          refine Reg.one_op (i := 12) rfl (by kernel_rfl) (fun K hK => ?_)
          obtain ⟨z0, z1⟩ := one_r SD6.out 2 rfl
          go_simp
          have SD7 := Lib.hid (put_r SD6.out 2 rfl 0 (.slice A2 (l.length + 1) C2))
          clear z0 z1
          refine hK.out _ _ trivial (fun hS => ?_)
          clear hK K
          try simp only [zp0, zp1, zp2, zp3, zp4]
          refine wpAnyH_done (by kernel_rfl) ?_ _
          have hl := Lib.hid (show l.length + 1 = (l ++ [⟨s, y⟩] : List F).length by simp)
          obtain ⟨q0, q0'⟩ := one_r SD7.out 0 rfl
          obtain ⟨r0, r0'⟩ := one_r SD7.out 2 rfl
          go_wp2_with fail
          refine bodyPost_ret (v := .agg #[.slice A2 (l.length + 1) C2]) (by simp [results, Try.results112, go_sem, q0]) rfl ?_
          refine ⟨A2, C2, l ++ [⟨s, y⟩], by rw [← hl.out], (HT.out.app (by omega) y).mono (by omega), ?_⟩
          rw [← hl.out, cellsF_append]
          exact take_r (put_r SD7.out 0 rfl 0 (.slice A2 (l.length + 1) C2)) [1] (by rfl) (by decide)
        refine Reg.cons_op (i := 6) rfl (fun K hK => ?_) ?_
        · go_simp
          have SD2 := Lib.hid (box_r SD1.out 3 #[.int .i64 0, .int .i64 (-1), .int .i64 1000000000, .int .i64 1000000001] wq1.heap.size rfl)
          obtain ⟨g4, hg⟩ : ∃ g', g' = wq1.heap.size := ⟨_, rfl⟩
          rw [← hg] at SD2 ⊢
          clear hg
          generalize wq1.alloc (.cells #[.int .i64 0, .int .i64 (-1), .int .i64 1000000000, .int .i64 1000000001] 3) = wq2 at SD2 ⊢
          refine hK.out _ _ trivial (fun hS => ?_)
          clear hK K
          try simp only [zp0, zp1, zp2, zp3, zp4]
          refine Reg.one_op (i := 4) rfl (by kernel_rfl) (fun K hK => ?_)
          go_simp
          go_at_call 109
          refine (strB_s SD2.out i (at_left HI.out) (rs.length + 3) (at_r (by rfl)) (by have := (List.getElem?_eq_some_iff.1 HI.out).1; omega) [⟨#[]⟩, ⟨#[65]⟩, ⟨#[122, 122, 122, 122, 122, 122, 122, 122, 122]⟩, ⟨#[122]⟩, ⟨#[97]⟩] rfl (fun s => s.size ≤ 9) (by decide) 5 rfl (by decide) (by decide)).mono ?_
          rintro e wq3 ⟨s, rfl, hs, hS⟩
          have SD3 := Lib.hid hS
          clear hS
          go_wp2_with fail
          refine hK.out _ _ trivial (fun hS => ?_)
          clear hK K
          try simp only [zp0, zp1, zp2, zp3, zp4]
          refine Reg.one_op (i := 7) rfl (by kernel_rfl) (fun K hK => ?_)
          go_simp
          go_at_call 110
          refine (intB_s SD3.out i (at_left HI.out) (rs.length + 4) (at_r (by rfl)) (by have := (List.getElem?_eq_some_iff.1 HI.out).1; omega) [0, -1, 1000000000, 1000000001] rfl (fun _ => True) (by intro _ _; trivial) 4 rfl (by decide) (by decide)).mono ?_
          rintro e wq4 ⟨y, rfl, -, hS⟩
          have SD4 := Lib.hid hS
          clear hS
          go_wp2_with fail
          refine hK.out _ _ trivial (fun hS => ?_)
          clear hK K
          try simp only [zp0, zp1, zp2, zp3, zp4]
          refine tk 8 rfl ?_
          try simp only [zp0, zp1, zp2, zp3, zp4]
          refine Reg.one_op (i := 9) rfl (by kernel_rfl) (fun K hK => ?_)
          go_simp
          have SD5 := Lib.hid (SD4.out.alloc (.cells #[.string s, .int .i64 y] 107))
          have R2 := Lib.hid (reads_two wq4 s y _ rfl 107)
          obtain ⟨g9, hg⟩ : ∃ g', g' = wq4.heap.size := ⟨_, rfl⟩
          rw [← hg] at R2 ⊢
          clear hg
          generalize wq4.alloc (.cells #[.string s, .int .i64 y] 107) = wq5 at SD5 R2 ⊢
          refine hK.out _ _ trivial (fun hS => ?_)
          clear hK K
          try simp only [zp0, zp1, zp2, zp3, zp4]
          refine Reg.one_op (i := 10) rfl (by kernel_rfl) (fun K hK => ?_)
          refine step_append_s SD5.out (rs.length + 1) (at_r (by rfl)) rfl _ _ 39 (by rfl) i0 (.agg #[.string ⟨#[]⟩, .int .i64 0]) 24 Try.underlying39 HF.out.1 HF.out.2.1 HF.out.2.2.1 HF.out.2.2.2 rfl (by omega) l.length (by rfl) rfl (g9 + 1) (some ⟨g9, 0, none⟩) 1 1 1 (cellsF [⟨s, y⟩]) (by rfl) rfl R2.out (by simp) (cellsF_one _) (by have := HT.out.1; unfold maxLen; omega) (by have := HT.out.1; omega) ?_
          intro A2 C2 wq6 hS
          have SD6 := Lib.hid (show Sep W wq6 (rs ++ [boxR w.heap.size 41 #[.slice none 0 0], ownV 107 2 A2 C2 (l.length + 1) (cellsF l ++ cellsF [⟨s, y⟩]), boxR g 41 #[.slice A l.length C]]) from by rw [List.set_append_right _ _ (by omega), Nat.add_sub_cancel_left] at hS; exact take_r hS [0, 1, 2] (by rfl) (by decide))
          clear hS
          refine hK.out _ _ trivial (fun hS => ?_)
          clear hK K
          try simp only [zp0, zp1, zp2, zp3, zp4]
          refine tk 11 rfl ?_
          try simp only [zp0, zp1, zp2, zp3, zp4]
          refine Reg.one_op (i := 12) rfl (by kernel_rfl) (fun K hK => ?_)
          obtain ⟨z0, z1⟩ := one_r SD6.out 2 rfl
          go_simp
          have SD7 := Lib.hid (put_r SD6.out 2 rfl 0 (.slice A2 (l.length + 1) C2))
          clear z0 z1
          refine hK.out _ _ trivial (fun hS => ?_)
          clear hK K
          try simp only [zp0, zp1, zp2, zp3, zp4]
          refine wpAnyH_done (by kernel_rfl) ?_ _
          have hl := Lib.hid (show l.length + 1 = (l ++ [⟨s, y⟩] : List F).length by simp)
          obtain ⟨q0, q0'⟩ := one_r SD7.out 0 rfl
          obtain ⟨r0, r0'⟩ := one_r SD7.out 2 rfl
          go_wp2_with fail
          refine bodyPost_ret (v := .agg #[.slice A2 (l.length + 1) C2]) (by simp [results, Try.results112, go_sem, q0]) rfl ?_
          refine ⟨A2, C2, l ++ [⟨s, y⟩], by rw [← hl.out], (HT.out.app (by omega) y).mono (by omega), ?_⟩
          rw [← hl.out, cellsF_append]
          exact take_r (put_r SD7.out 0 rfl 0 (.slice A2 (l.length + 1) C2)) [1] (by rfl) (by decide)
        exact AllReadyH.nil
      refine Reg.cons_op (i := 6) rfl (fun K hK => ?_) ?_
      · go_simp
        have SD1 := Lib.hid (box_r SD0.out 3 #[.int .i64 0, .int .i64 (-1), .int .i64 1000000000, .int .i64 1000000001] wd.heap.size rfl)
        obtain ⟨g3, hg⟩ : ∃ g', g' = wd.heap.size := ⟨_, rfl⟩
        rw [← hg] at SD1 ⊢
        clear hg
        generalize wd.alloc (.cells #[.int .i64 0, .int .i64 (-1), .int .i64 1000000000, .int .i64 1000000001] 3) = wq1 at SD1 ⊢
        refine hK.out _ _ trivial (fun hS => ?_)
        clear hK K
        try simp only [zp0, zp1, zp2, zp3, zp4]
        refine Reg.one_op (i := 3) rfl (by kernel_rfl) (fun K hK => ?_)
        go_simp
        have SD2 := Lib.hid (box_r SD1.out 9 #[.string ⟨#[]⟩, .string ⟨#[65]⟩, .string ⟨#[122, 122, 122, 122, 122, 122, 122, 122, 122]⟩, .string ⟨#[122]⟩, .string ⟨#[97]⟩] wq1.heap.size rfl)
        obtain ⟨g4, hg⟩ : ∃ g', g' = wq1.heap.size := ⟨_, rfl⟩
        rw [← hg] at SD2 ⊢
        clear hg
        generalize wq1.alloc (.cells #[.string ⟨#[]⟩, .string ⟨#[65]⟩, .string ⟨#[122, 122, 122, 122, 122, 122, 122, 122, 122]⟩, .string ⟨#[122]⟩, .string ⟨#[97]⟩] 9) = wq2 at SD2 ⊢
        refine hK.out _ _ trivial (fun hS => ?_)
        clear hK K
        try simp only [zp0, zp1, zp2, zp3, zp4]
        refine Reg.one_op (i := 4) rfl (by kernel_rfl) (fun K hK => ?_)
        go_simp
        go_at_call 109
        refine (strB_s SD2.out i (at_left HI.out) (rs.length + 4) (at_r (by rfl)) (by have := (List.getElem?_eq_some_iff.1 HI.out).1; omega) [⟨#[]⟩, ⟨#[65]⟩, ⟨#[122, 122, 122, 122, 122, 122, 122, 122, 122]⟩, ⟨#[122]⟩, ⟨#[97]⟩] rfl (fun s => s.size ≤ 9) (by decide) 5 rfl (by decide) (by decide)).mono ?_
        rintro e wq3 ⟨s, rfl, hs, hS⟩
        have SD3 := Lib.hid hS
        clear hS
        go_wp2_with fail
        refine hK.out _ _ trivial (fun hS => ?_)
        clear hK K
        try simp only [zp0, zp1, zp2, zp3, zp4]
        refine Reg.one_op (i := 7) rfl (by kernel_rfl) (fun K hK => ?_)
        go_simp
        go_at_call 110
        refine (intB_s SD3.out i (at_left HI.out) (rs.length + 3) (at_r (by rfl)) (by have := (List.getElem?_eq_some_iff.1 HI.out).1; omega) [0, -1, 1000000000, 1000000001] rfl (fun _ => True) (by intro _ _; trivial) 4 rfl (by decide) (by decide)).mono ?_
        rintro e wq4 ⟨y, rfl, -, hS⟩
        have SD4 := Lib.hid hS
        clear hS
        go_wp2_with fail
        refine hK.out _ _ trivial (fun hS => ?_)
        clear hK K
        try simp only [zp0, zp1, zp2, zp3, zp4]
        refine tk 8 rfl ?_
        try simp only [zp0, zp1, zp2, zp3, zp4]
        refine Reg.one_op (i := 9) rfl (by kernel_rfl) (fun K hK => ?_)
        go_simp
        have SD5 := Lib.hid (SD4.out.alloc (.cells #[.string s, .int .i64 y] 107))
        have R2 := Lib.hid (reads_two wq4 s y _ rfl 107)
        obtain ⟨g9, hg⟩ : ∃ g', g' = wq4.heap.size := ⟨_, rfl⟩
        rw [← hg] at R2 ⊢
        clear hg
        generalize wq4.alloc (.cells #[.string s, .int .i64 y] 107) = wq5 at SD5 R2 ⊢
        refine hK.out _ _ trivial (fun hS => ?_)
        clear hK K
        try simp only [zp0, zp1, zp2, zp3, zp4]
        refine Reg.one_op (i := 10) rfl (by kernel_rfl) (fun K hK => ?_)
        refine step_append_s SD5.out (rs.length + 1) (at_r (by rfl)) rfl _ _ 39 (by rfl) i0 (.agg #[.string ⟨#[]⟩, .int .i64 0]) 24 Try.underlying39 HF.out.1 HF.out.2.1 HF.out.2.2.1 HF.out.2.2.2 rfl (by omega) l.length (by rfl) rfl (g9 + 1) (some ⟨g9, 0, none⟩) 1 1 1 (cellsF [⟨s, y⟩]) (by rfl) rfl R2.out (by simp) (cellsF_one _) (by have := HT.out.1; unfold maxLen; omega) (by have := HT.out.1; omega) ?_
        intro A2 C2 wq6 hS
        have SD6 := Lib.hid (show Sep W wq6 (rs ++ [boxR w.heap.size 41 #[.slice none 0 0], ownV 107 2 A2 C2 (l.length + 1) (cellsF l ++ cellsF [⟨s, y⟩]), boxR g 41 #[.slice A l.length C]]) from by rw [List.set_append_right _ _ (by omega), Nat.add_sub_cancel_left] at hS; exact take_r hS [0, 1, 2] (by rfl) (by decide))
        clear hS
        refine hK.out _ _ trivial (fun hS => ?_)
        clear hK K
        try simp only [zp0, zp1, zp2, zp3, zp4]
        refine tk 11 rfl ?_
        try simp only [zp0, zp1, zp2, zp3, zp4]
        refine Reg.one_op (i := 12) rfl (by kernel_rfl) (fun K hK => ?_)
        obtain ⟨z0, z1⟩ := one_r SD6.out 2 rfl
        go_simp
        have SD7 := Lib.hid (put_r SD6.out 2 rfl 0 (.slice A2 (l.length + 1) C2))
        clear z0 z1
        refine hK.out _ _ trivial (fun hS => ?_)
        clear hK K
        try simp only [zp0, zp1, zp2, zp3, zp4]
        refine wpAnyH_done (by kernel_rfl) ?_ _
        have hl := Lib.hid (show l.length + 1 = (l ++ [⟨s, y⟩] : List F).length by simp)
        obtain ⟨q0, q0'⟩ := one_r SD7.out 0 rfl
        obtain ⟨r0, r0'⟩ := one_r SD7.out 2 rfl
        go_wp2_with fail
        refine bodyPost_ret (v := .agg #[.slice A2 (l.length + 1) C2]) (by simp [results, Try.results112, go_sem, q0]) rfl ?_
        refine ⟨A2, C2, l ++ [⟨s, y⟩], by rw [← hl.out], (HT.out.app (by omega) y).mono (by omega), ?_⟩
        rw [← hl.out, cellsF_append]
        exact take_r (put_r SD7.out 0 rfl 0 (.slice A2 (l.length + 1) C2)) [1] (by rfl) (by decide)
      exact AllReadyH.nil
    refine Reg.cons_op (i := 3) rfl (fun K hK => ?_) ?_
    · go_simp
      have SD1 := Lib.hid (box_r SD0.out 9 #[.string ⟨#[]⟩, .string ⟨#[65]⟩, .string ⟨#[122, 122, 122, 122, 122, 122, 122, 122, 122]⟩, .string ⟨#[122]⟩, .string ⟨#[97]⟩] wd.heap.size rfl)
      obtain ⟨g3, hg⟩ : ∃ g', g' = wd.heap.size := ⟨_, rfl⟩
      rw [← hg] at SD1 ⊢
      clear hg
      generalize wd.alloc (.cells #[.string ⟨#[]⟩, .string ⟨#[65]⟩, .string ⟨#[122, 122, 122, 122, 122, 122, 122, 122, 122]⟩, .string ⟨#[122]⟩, .string ⟨#[97]⟩] 9) = wq1 at SD1 ⊢
      refine hK.out _ _ trivial (fun hS => ?_)
      clear hK K
      try simp only [zp0, zp1, zp2, zp3, zp4]
      refine wpAnyH_ready (rs := [1, 4, 6]) (by kernel_rfl) (by simp) ?_
      refine Reg.cons_op (i := 1) rfl (fun K hK => ?_) ?_
      · obtain ⟨r0, r0'⟩ := one_r SD1.out 2 rfl
        go_simp
        clear r0 r0'
        refine hK.out _ _ trivial (fun hS => ?_)
        clear hK K
        try simp only [zp0, zp1, zp2, zp3, zp4]
        refine wpAnyH_ready (rs := [4, 6]) (by kernel_rfl) (by simp) ?_
        refine Reg.cons_op (i := 4) rfl (fun K hK => ?_) ?_
        · go_simp
          go_at_call 109
          refine (strB_s SD1.out i (at_left HI.out) (rs.length + 3) (at_r (by rfl)) (by have := (List.getElem?_eq_some_iff.1 HI.out).1; omega) [⟨#[]⟩, ⟨#[65]⟩, ⟨#[122, 122, 122, 122, 122, 122, 122, 122, 122]⟩, ⟨#[122]⟩, ⟨#[97]⟩] rfl (fun s => s.size ≤ 9) (by decide) 5 rfl (by decide) (by decide)).mono ?_
          rintro e wq2 ⟨s, rfl, hs, hS⟩
          have SD2 := Lib.hid hS
          clear hS
          go_wp2_with fail
          refine hK.out _ _ trivial (fun hS => ?_)
          clear hK K
          try simp only [zp0, zp1, zp2, zp3, zp4]
          refine Reg.one_op (i := 6) rfl (by kernel_rfl) (fun K hK => ?_)
          go_simp
          have SD3 := Lib.hid (box_r SD2.out 3 #[.int .i64 0, .int .i64 (-1), .int .i64 1000000000, .int .i64 1000000001] wq2.heap.size rfl)
          obtain ⟨g4, hg⟩ : ∃ g', g' = wq2.heap.size := ⟨_, rfl⟩
          rw [← hg] at SD3 ⊢
          clear hg
          generalize wq2.alloc (.cells #[.int .i64 0, .int .i64 (-1), .int .i64 1000000000, .int .i64 1000000001] 3) = wq3 at SD3 ⊢
          refine hK.out _ _ trivial (fun hS => ?_)
          clear hK K
          try simp only [zp0, zp1, zp2, zp3, zp4]
          refine Reg.one_op (i := 7) rfl (by kernel_rfl) (fun K hK => ?_)
          go_simp
          go_at_call 110
          refine (intB_s SD3.out i (at_left HI.out) (rs.length + 4) (at_r (by rfl)) (by have := (List.getElem?_eq_some_iff.1 HI.out).1; omega) [0, -1, 1000000000, 1000000001] rfl (fun _ => True) (by intro _ _; trivial) 4 rfl (by decide) (by decide)).mono ?_
          rintro e wq4 ⟨y, rfl, -, hS⟩
          have SD4 := Lib.hid hS
          clear hS
          go_wp2_with fail
          refine hK.out _ _ trivial (fun hS => ?_)
          clear hK K
          try simp only [zp0, zp1, zp2, zp3, zp4]
          refine tk 8 rfl ?_
          try simp only [zp0, zp1, zp2, zp3, zp4]
          refine Reg.one_op (i := 9) rfl (by kernel_rfl) (fun K hK => ?_)
          go_simp
          have SD5 := Lib.hid (SD4.out.alloc (.cells #[.string s, .int .i64 y] 107))
          have R2 := Lib.hid (reads_two wq4 s y _ rfl 107)
          obtain ⟨g9, hg⟩ : ∃ g', g' = wq4.heap.size := ⟨_, rfl⟩
          rw [← hg] at R2 ⊢
          clear hg
          generalize wq4.alloc (.cells #[.string s, .int .i64 y] 107) = wq5 at SD5 R2 ⊢
          refine hK.out _ _ trivial (fun hS => ?_)
          clear hK K
          try simp only [zp0, zp1, zp2, zp3, zp4]
          refine Reg.one_op (i := 10) rfl (by kernel_rfl) (fun K hK => ?_)
          refine step_append_s SD5.out (rs.length + 1) (at_r (by rfl)) rfl _ _ 39 (by rfl) i0 (.agg #[.string ⟨#[]⟩, .int .i64 0]) 24 Try.underlying39 HF.out.1 HF.out.2.1 HF.out.2.2.1 HF.out.2.2.2 rfl (by omega) l.length (by rfl) rfl (g9 + 1) (some ⟨g9, 0, none⟩) 1 1 1 (cellsF [⟨s, y⟩]) (by rfl) rfl R2.out (by simp) (cellsF_one _) (by have := HT.out.1; unfold maxLen; omega) (by have := HT.out.1; omega) ?_
          intro A2 C2 wq6 hS
          have SD6 := Lib.hid (show Sep W wq6 (rs ++ [boxR w.heap.size 41 #[.slice none 0 0], ownV 107 2 A2 C2 (l.length + 1) (cellsF l ++ cellsF [⟨s, y⟩]), boxR g 41 #[.slice A l.length C]]) from by rw [List.set_append_right _ _ (by omega), Nat.add_sub_cancel_left] at hS; exact take_r hS [0, 1, 2] (by rfl) (by decide))
          clear hS
          refine hK.out _ _ trivial (fun hS => ?_)
          clear hK K
          try simp only [zp0, zp1, zp2, zp3, zp4]
          refine tk 11 rfl ?_
          try simp only [zp0, zp1, zp2, zp3, zp4]
          refine Reg.one_op (i := 12) rfl (by kernel_rfl) (fun K hK => ?_)
          obtain ⟨z0, z1⟩ := one_r SD6.out 2 rfl
          go_simp
          have SD7 := Lib.hid (put_r SD6.out 2 rfl 0 (.slice A2 (l.length + 1) C2))
          clear z0 z1
          refine hK.out _ _ trivial (fun hS => ?_)
          clear hK K
          try simp only [zp0, zp1, zp2, zp3, zp4]
          refine wpAnyH_done (by kernel_rfl) ?_ _
          have hl := Lib.hid (show l.length + 1 = (l ++ [⟨s, y⟩] : List F).length by simp)
          obtain ⟨q0, q0'⟩ := one_r SD7.out 0 rfl
          obtain ⟨r0, r0'⟩ := one_r SD7.out 2 rfl
          go_wp2_with fail
          refine bodyPost_ret (v := .agg #[.slice A2 (l.length + 1) C2]) (by simp [results, Try.results112, go_sem, q0]) rfl ?_
          refine ⟨A2, C2, l ++ [⟨s, y⟩], by rw [← hl.out], (HT.out.app (by omega) y).mono (by omega), ?_⟩
          rw [← hl.out, cellsF_append]
          exact take_r (put_r SD7.out 0 rfl 0 (.slice A2 (l.length + 1) C2)) [1] (by rfl) (by decide)
        refine Reg.cons_op (i := 6) rfl (fun K hK => ?_) ?_
        · go_simp
          have SD2 := Lib.hid (box_r SD1.out 3 #[.int .i64 0, .int .i64 (-1), .int .i64 1000000000, .int .i64 1000000001] wq1.heap.size rfl)
          obtain ⟨g4, hg⟩ : ∃ g', g' = wq1.heap.size := ⟨_, rfl⟩
          rw [← hg] at SD2 ⊢
          clear hg
          generalize wq1.alloc (.cells #[.int .i64 0, .int .i64 (-1), .int .i64 1000000000, .int .i64 1000000001] 3) = wq2 at SD2 ⊢
          refine hK.out _ _ trivial (fun hS => ?_)
          clear hK K
          try simp only [zp0, zp1, zp2, zp3, zp4]
          refine Reg.one_op (i := 4) rfl (by kernel_rfl) (fun K hK => ?_)
          go_simp
          go_at_call 109
          refine (strB_s SD2.out i (at_left HI.out) (rs.length + 3) (at_r (by rfl)) (by have := (List.getElem?_eq_some_iff.1 HI.out).1; omega) [⟨#[]⟩, ⟨#[65]⟩, ⟨#[122, 122, 122, 122, 122, 122, 122, 122, 122]⟩, ⟨#[122]⟩, ⟨#[97]⟩] rfl (fun s => s.size ≤ 9) (by decide) 5 rfl (by decide) (by decide)).mono ?_
          rintro e wq3 ⟨s, rfl, hs, hS⟩
          have SD3 := Lib.hid hS
          clear hS
          go_wp2_with fail
          refine hK.out _ _ trivial (fun hS => ?_)
          clear hK K
          try simp only [zp0, zp1, zp2, zp3, zp4]
          refine Reg.one_op (i := 7) rfl (by kernel_rfl) (fun K hK => ?_)
          go_simp
          go_at_call 110
          refine (intB_s SD3.out i (at_left HI.out) (rs.length + 4) (at_r (by rfl)) (by have := (List.getElem?_eq_some_iff.1 HI.out).1; omega) [0, -1, 1000000000, 1000000001] rfl (fun _ => True) (by intro _ _; trivial) 4 rfl (by decide) (by decide)).mono ?_
          rintro e wq4 ⟨y, rfl, -, hS⟩
          have SD4 := Lib.hid hS
          clear hS
          go_wp2_with fail
          refine hK.out _ _ trivial (fun hS => ?_)
          clear hK K
          try simp only [zp0, zp1, zp2, zp3, zp4]
          refine tk 8 rfl ?_
          try simp only [zp0, zp1, zp2, zp3, zp4]
          refine Reg.one_op (i := 9) rfl (by kernel_rfl) (fun K hK => ?_)
          go_simp
          have SD5 := Lib.hid (SD4.out.alloc (.cells #[.string s, .int .i64 y] 107))
          have R2 := Lib.hid (reads_two wq4 s y _ rfl 107)
          obtain ⟨g9, hg⟩ : ∃ g', g' = wq4.heap.size := ⟨_, rfl⟩
          rw [← hg] at R2 ⊢
          clear hg
          generalize wq4.alloc (.cells #[.string s, .int .i64 y] 107) = wq5 at SD5 R2 ⊢
          refine hK.out _ _ trivial (fun hS => ?_)
          clear hK K
          try simp only [zp0, zp1, zp2, zp3, zp4]
          refine Reg.one_op (i := 10) rfl (by kernel_rfl) (fun K hK => ?_)
          refine step_append_s SD5.out (rs.length + 1) (at_r (by rfl)) rfl _ _ 39 (by rfl) i0 (.agg #[.string ⟨#[]⟩, .int .i64 0]) 24 Try.underlying39 HF.out.1 HF.out.2.1 HF.out.2.2.1 HF.out.2.2.2 rfl (by omega) l.length (by rfl) rfl (g9 + 1) (some ⟨g9, 0, none⟩) 1 1 1 (cellsF [⟨s, y⟩]) (by rfl) rfl R2.out (by simp) (cellsF_one _) (by have := HT.out.1; unfold maxLen; omega) (by have := HT.out.1; omega) ?_
          intro A2 C2 wq6 hS
          have SD6 := Lib.hid (show Sep W wq6 (rs ++ [boxR w.heap.size 41 #[.slice none 0 0], ownV 107 2 A2 C2 (l.length + 1) (cellsF l ++ cellsF [⟨s, y⟩]), boxR g 41 #[.slice A l.length C]]) from by rw [List.set_append_right _ _ (by omega), Nat.add_sub_cancel_left] at hS; exact take_r hS [0, 1, 2] (by rfl) (by decide))
          clear hS
          refine hK.out _ _ trivial (fun hS => ?_)
          clear hK K
          try simp only [zp0, zp1, zp2, zp3, zp4]
          refine tk 11 rfl ?_
          try simp only [zp0, zp1, zp2, zp3, zp4]
          refine Reg.one_op (i := 12) rfl (by kernel_rfl) (fun K hK => ?_)
          obtain ⟨z0, z1⟩ := one_r SD6.out 2 rfl
          go_simp
          have SD7 := Lib.hid (put_r SD6.out 2 rfl 0 (.slice A2 (l.length + 1) C2))
          clear z0 z1
          refine hK.out _ _ trivial (fun hS => ?_)
          clear hK K
          try simp only [zp0, zp1, zp2, zp3, zp4]
          refine wpAnyH_done (by kernel_rfl) ?_ _
          have hl := Lib.hid (show l.length + 1 = (l ++ [⟨s, y⟩] : List F).length by simp)
          obtain ⟨q0, q0'⟩ := one_r SD7.out 0 rfl
          obtain ⟨r0, r0'⟩ := one_r SD7.out 2 rfl
          go_wp2_with fail
          refine bodyPost_ret (v := .agg #[.slice A2 (l.length + 1) C2]) (by simp [results, Try.results112, go_sem, q0]) rfl ?_
          refine ⟨A2, C2, l ++ [⟨s, y⟩], by rw [← hl.out], (HT.out.app (by omega) y).mono (by omega), ?_⟩
          rw [← hl.out, cellsF_append]
          exact take_r (put_r SD7.out 0 rfl 0 (.slice A2 (l.length + 1) C2)) [1] (by rfl) (by decide)
        exact AllReadyH.nil
      refine Reg.cons_op (i := 4) rfl (fun K hK => ?_) ?_
      · go_simp
        go_at_call 109
        refine (strB_s SD1.out i (at_left HI.out) (rs.length + 3) (at_r (by rfl)) (by have := (List.getElem?_eq_some_iff.1 HI.out).1; omega) [⟨#[]⟩, ⟨#[65]⟩, ⟨#[122, 122, 122, 122, 122, 122, 122, 122, 122]⟩, ⟨#[122]⟩, ⟨#[97]⟩] rfl (fun s => s.size ≤ 9) (by decide) 5 rfl (by decide) (by decide)).mono ?_
        rintro e wq2 ⟨s, rfl, hs, hS⟩
        have SD2 := Lib.hid hS
        clear hS
        go_wp2_with fail
        refine hK.out _ _ trivial (fun hS => ?_)
        clear hK K
        try simp only [zp0, zp1, zp2, zp3, zp4]
        refine wpAnyH_ready (rs := [1, 6]) (by kernel_rfl) (by simp) ?_
        refine Reg.cons_op (i := 1) rfl (fun K hK => ?_) ?_
        · obtain ⟨r0, r0'⟩ := one_r SD2.out 2 rfl
          go_simp
          clear r0 r0'
          refine hK.out _ _ trivial (fun hS => ?_)
          clear hK K
          try simp only [zp0, zp1, zp2, zp3, zp4]
          refine Reg.one_op (i := 6) rfl (by kernel_rfl) (fun K hK => ?_)
          go_simp
          have SD3 := Lib.hid (box_r SD2.out 3 #[.int .i64 0, .int .i64 (-1), .int .i64 1000000000, .int .i64 1000000001] wq2.heap.size rfl)
          obtain ⟨g4, hg⟩ : ∃ g', g' = wq2.heap.size := ⟨_, rfl⟩
          rw [← hg] at SD3 ⊢
          clear hg
          generalize wq2.alloc (.cells #[.int .i64 0, .int .i64 (-1), .int .i64 1000000000, .int .i64 1000000001] 3) = wq3 at SD3 ⊢
          refine hK.out _ _ trivial (fun hS => ?_)
          clear hK K
          try simp only [zp0, zp1, zp2, zp3, zp4]
          refine Reg.one_op (i := 7) rfl (by kernel_rfl) (fun K hK => ?_)
          go_simp
          go_at_call 110
          refine (intB_s SD3.out i (at_left HI.out) (rs.length + 4) (at_r (by rfl)) (by have := (List.getElem?_eq_some_iff.1 HI.out).1; omega) [0, -1, 1000000000, 1000000001] rfl (fun _ => True) (by intro _ _; trivial) 4 rfl (by decide) (by decide)).mono ?_
          rintro e wq4 ⟨y, rfl, -, hS⟩
          have SD4 := Lib.hid hS
          clear hS
          go_wp2_with fail
          refine hK.out _ _ trivial (fun hS => ?_)
          clear hK K
          try simp only [zp0, zp1, zp2, zp3, zp4]
          refine tk 8 rfl ?_
          try simp only [zp0, zp1, zp2, zp3, zp4]
          refine Reg.one_op (i := 9) rfl (by kernel_rfl) (fun K hK => ?_)
          go_simp
          have SD5 := Lib.hid (SD4.out.alloc (.cells #[.string s, .int .i64 y] 107))
          have R2 := Lib.hid (reads_two wq4 s y _ rfl 107)
          obtain ⟨g9, hg⟩ : ∃ g', g' = wq4.heap.size := ⟨_, rfl⟩
          rw [← hg] at R2 ⊢
          clear hg
          generalize wq4.alloc (.cells #[.string s, .int .i64 y] 107) = wq5 at SD5 R2 ⊢
          refine hK.out _ _ trivial (fun hS => ?_)
          clear hK K
          try simp only [zp0, zp1, zp2, zp3, zp4]
          refine Reg.one_op (i := 10) rfl (by kernel_rfl) (fun K hK => ?_)
          refine step_append_s SD5.out (rs.length + 1) (at_r (by rfl)) rfl _ _ 39 (by rfl) i0 (.agg #[.string ⟨#[]⟩, .int .i64 0]) 24 Try.underlying39 HF.out.1 HF.out.2.1 HF.out.2.2.1 HF.out.2.2.2 rfl (by omega) l.length (by rfl) rfl (g9 + 1) (some ⟨g9, 0, none⟩) 1 1 1 (cellsF [⟨s, y⟩]) (by rfl) rfl R2.out (by simp) (cellsF_one _) (by have := HT.out.1; unfold maxLen; omega) (by have := HT.out.1; omega) ?_
          intro A2 C2 wq6 hS
          have SD6 := Lib.hid (show Sep W wq6 (rs ++ [boxR w.heap.size 41 #[.slice none 0 0], ownV 107 2 A2 C2 (l.length + 1) (cellsF l ++ cellsF [⟨s, y⟩]), boxR g 41 #[.slice A l.length C]]) from by rw [List.set_append_right _ _ (by omega), Nat.add_sub_cancel_left] at hS; exact take_r hS [0, 1, 2] (by rfl) (by decide))
          clear hS
          refine hK.out _ _ trivial (fun hS => ?_)
          clear hK K
          try simp only [zp0, zp1, zp2, zp3, zp4]
          refine tk 11 rfl ?_
          try simp only [zp0, zp1, zp2, zp3, zp4]
          refine Reg.one_op (i := 12) rfl (by kernel_rfl) (fun K hK => ?_)
          obtain ⟨z0, z1⟩ := one_r SD6.out 2 rfl
          go_simp
          have SD7 := Lib.hid (put_r SD6.out 2 rfl 0 (.slice A2 (l.length + 1) C2))
          clear z0 z1
          refine hK.out _ _ trivial (fun hS => ?_)
          clear hK K
          try simp only [zp0, zp1, zp2, zp3, zp4]
          refine wpAnyH_done (by kernel_rfl) ?_ _
          have hl := Lib.hid (show l.length + 1 = (l ++ [⟨s, y⟩] : List F).length by simp)
          obtain ⟨q0, q0'⟩ := one_r SD7.out 0 rfl
          obtain ⟨r0, r0'⟩ := one_r SD7.out 2 rfl
          go_wp2_with fail
          refine bodyPost_ret (v := .agg #[.slice A2 (l.length + 1) C2]) (by simp [results, Try.results112, go_sem, q0]) rfl ?_
          refine ⟨A2, C2, l ++ [⟨s, y⟩], by rw [← hl.out], (HT.out.app (by omega) y).mono (by omega), ?_⟩
          rw [← hl.out, cellsF_append]
          exact take_r (put_r SD7.out 0 rfl 0 (.slice A2 (l.length + 1) C2)) [1] (by rfl) (by decide)
        refine Reg.cons_op (i := 6) rfl (fun K hK => ?_) ?_
        · go_simp
          have SD3 := Lib.hid (box_r SD2.out 3 #[.int .i64 0, .int .i64 (-1), .int .i64 1000000000, .int .i64 1000000001] wq2.heap.size rfl)
          obtain ⟨g4, hg⟩ : ∃ g', g' = wq2.heap.size := ⟨_, rfl⟩
          rw [← hg] at SD3 ⊢
          clear hg
          generalize wq2.alloc (.cells #[.int .i64 0, .int .i64 (-1), .int .i64 1000000000, .int .i64 1000000001] 3) = wq3 at SD3 ⊢
          refine hK.out _ _ trivial (fun hS => ?_)
          clear hK K
          try simp only [zp0, zp1, zp2, zp3, zp4]
          refine wpAnyH_ready (rs := [1, 7]) (by kernel_rfl) (by simp) ?_
          refine Reg.cons_op (i := 1) rfl (fun K hK => ?_) ?_
          · obtain ⟨r0, r0'⟩ := one_r SD3.out 2 rfl
            go_simp
            clear r0 r0'
            refine hK.out _ _ trivial (fun hS => ?_)
            clear hK K
            try simp only [zp0, zp1, zp2, zp3, zp4]
            refine Reg.one_op (i := 7) rfl (by kernel_rfl) (fun K hK => ?_)
            go_simp
            go_at_call 110
            refine (intB_s SD3.out i (at_left HI.out) (rs.length + 4) (at_r (by rfl)) (by have := (List.getElem?_eq_some_iff.1 HI.out).1; omega) [0, -1, 1000000000, 1000000001] rfl (fun _ => True) (by intro _ _; trivial) 4 rfl (by decide) (by decide)).mono ?_
            rintro e wq4 ⟨y, rfl, -, hS⟩
            have SD4 := Lib.hid hS
            clear hS
            go_wp2_with fail
            refine hK.out _ _ trivial (fun hS => ?_)
            clear hK K
            try simp only [zp0, zp1, zp2, zp3, zp4]
            refine tk 8 rfl ?_
            try simp only [zp0, zp1, zp2, zp3, zp4]
            refine Reg.one_op (i := 9) rfl (by kernel_rfl) (fun K hK => ?_)
            go_simp
            have SD5 := Lib.hid (SD4.out.alloc (.cells #[.string s, .int .i64 y] 107))
            have R2 := Lib.hid (reads_two wq4 s y _ rfl 107)
            obtain ⟨g9, hg⟩ : ∃ g', g' = wq4.heap.size := ⟨_, rfl⟩
            rw [← hg] at R2 ⊢
            clear hg
            generalize wq4.alloc (.cells #[.string s, .int .i64 y] 107) = wq5 at SD5 R2 ⊢
            refine hK.out _ _ trivial (fun hS => ?_)
            clear hK K
            try simp only [zp0, zp1, zp2, zp3, zp4]
            refine Reg.one_op (i := 10) rfl (by kernel_rfl) (fun K hK => ?_)
            refine step_append_s SD5.out (rs.length + 1) (at_r (by rfl)) rfl _ _ 39 (by rfl) i0 (.agg #[.string ⟨#[]⟩, .int .i64 0]) 24 Try.underlying39 HF.out.1 HF.out.2.1 HF.out.2.2.1 HF.out.2.2.2 rfl (by omega) l.length (by rfl) rfl (g9 + 1) (some ⟨g9, 0, none⟩) 1 1 1 (cellsF [⟨s, y⟩]) (by rfl) rfl R2.out (by simp) (cellsF_one _) (by have := HT.out.1; unfold maxLen; omega) (by have := HT.out.1; omega) ?_
            intro A2 C2 wq6 hS
            have SD6 := Lib.hid (show Sep W wq6 (rs ++ [boxR w.heap.size 41 #[.slice none 0 0], ownV 107 2 A2 C2 (l.length + 1) (cellsF l ++ cellsF [⟨s, y⟩]), boxR g 41 #[.slice A l.length C]]) from by rw [List.set_append_right _ _ (by omega), Nat.add_sub_cancel_left] at hS; exact take_r hS [0, 1, 2] (by rfl) (by decide))
            clear hS
            refine hK.out _ _ trivial (fun hS => ?_)
            clear hK K
            try simp only [zp0, zp1, zp2, zp3, zp4]
            refine tk 11 rfl ?_
            try simp only [zp0, zp1, zp2, zp3, zp4]
            refine Reg.one_op (i := 12) rfl (by kernel_rfl) (fun K hK => ?_)
            obtain ⟨z0, z1⟩ := one_r SD6.out 2 rfl
            go_simp
            have SD7 := Lib.hid (put_r SD6.out 2 rfl 0 (.slice A2 (l.length + 1) C2))
            clear z0 z1
            refine hK.out _ _ trivial (fun hS => ?_)
            clear hK K
            try simp only [zp0, zp1, zp2, zp3, zp4]
            refine wpAnyH_done (by kernel_rfl) ?_ _
            have hl := Lib.hid (show l.length + 1 = (l ++ [⟨s, y⟩] : List F).length by simp)
            obtain ⟨q0, q0'⟩ := one_r SD7.out 0 rfl
            obtain ⟨r0, r0'⟩ := one_r SD7.out 2 rfl
            go_wp2_with fail
            refine bodyPost_ret (v := .agg #[.slice A2 (l.length + 1) C2]) (by simp [results, Try.results112, go_sem, q0]) rfl ?_
            refine ⟨A2, C2, l ++ [⟨s, y⟩], by rw [← hl.out], (HT.out.app (by omega) y).mono (by omega), ?_⟩
            rw [← hl.out, cellsF_append]
            exact take_r (put_r SD7.out 0 rfl 0 (.slice A2 (l.length + 1) C2)) [1] (by rfl) (by decide)
          refine Reg.cons_op (i := 7) rfl (fun K hK => ?_) ?_
          · go_simp
            go_at_call 110
            refine (intB_s SD3.out i (at_left HI.out) (rs.length + 4) (at_r (by rfl)) (by have := (List.getElem?_eq_some_iff.1 HI.out).1; omega) [0, -1, 1000000000, 1000000001] rfl (fun _ => True) (by intro _ _; trivial) 4 rfl (by decide) (by decide)).mono ?_
            rintro e wq4 ⟨y, rfl, -, hS⟩
            have SD4 := Lib.hid hS
            clear hS
            go_wp2_with fail
            refine hK.out _ _ trivial (fun hS => ?_)
            clear hK K
            try simp only [zp0, zp1, zp2, zp3, zp4]
            refine tk 8 rfl ?_
            try simp only [zp0, zp1, zp2, zp3, zp4]
            refine wpAnyH_ready (rs := [1, 9]) (by kernel_rfl) (by simp) ?_
            refine Reg.cons_op (i := 1) rfl (fun K hK => ?_) ?_
            · obtain ⟨r0, r0'⟩ := one_r SD4.out 2 rfl
              go_simp
              clear r0 r0'
              refine hK.out _ _ trivial (fun hS => ?_)
              clear hK K
              try simp only [zp0, zp1, zp2, zp3, zp4]
              refine Reg.one_op (i := 9) rfl (by kernel_rfl) (fun K hK => ?_)
              go_simp
              have SD5 := Lib.hid (SD4.out.alloc (.cells #[.string s, .int .i64 y] 107))
              have R2 := Lib.hid (reads_two wq4 s y _ rfl 107)
              obtain ⟨g9, hg⟩ : ∃ g', g' = wq4.heap.size := ⟨_, rfl⟩
              rw [← hg] at R2 ⊢
              clear hg
              generalize wq4.alloc (.cells #[.string s, .int .i64 y] 107) = wq5 at SD5 R2 ⊢
              refine hK.out _ _ trivial (fun hS => ?_)
              clear hK K
              try simp only [zp0, zp1, zp2, zp3, zp4]
              refine Reg.one_op (i := 10) rfl (by kernel_rfl) (fun K hK => ?_)
              refine step_append_s SD5.out (rs.length + 1) (at_r (by rfl)) rfl _ _ 39 (by rfl) i0 (.agg #[.string ⟨#[]⟩, .int .i64 0]) 24 Try.underlying39 HF.out.1 HF.out.2.1 HF.out.2.2.1 HF.out.2.2.2 rfl (by omega) l.length (by rfl) rfl (g9 + 1) (some ⟨g9, 0, none⟩) 1 1 1 (cellsF [⟨s, y⟩]) (by rfl) rfl R2.out (by simp) (cellsF_one _) (by have := HT.out.1; unfold maxLen; omega) (by have := HT.out.1; omega) ?_
              intro A2 C2 wq6 hS
              have SD6 := Lib.hid (show Sep W wq6 (rs ++ [boxR w.heap.size 41 #[.slice none 0 0], ownV 107 2 A2 C2 (l.length + 1) (cellsF l ++ cellsF [⟨s, y⟩]), boxR g 41 #[.slice A l.length C]]) from by rw [List.set_append_right _ _ (by omega), Nat.add_sub_cancel_left] at hS; exact take_r hS [0, 1, 2] (by rfl) (by decide))
              clear hS
              refine hK.out _ _ trivial (fun hS => ?_)
              clear hK K
              try simp only [zp0, zp1, zp2, zp3, zp4]
              refine tk 11 rfl ?_
              try simp only [zp0, zp1, zp2, zp3, zp4]
              refine Reg.one_op (i := 12) rfl (by kernel_rfl) (fun K hK => ?_)
              obtain ⟨z0, z1⟩ := one_r SD6.out 2 rfl
              go_simp
              have SD7 := Lib.hid (put_r SD6.out 2 rfl 0 (.slice A2 (l.length + 1) C2))
              clear z0 z1
              refine hK.out _ _ trivial (fun hS => ?_)
              clear hK K
              try simp only [zp0, zp1, zp2, zp3, zp4]
              refine wpAnyH_done (by kernel_rfl) ?_ _
              have hl := Lib.hid (show l.length + 1 = (l ++ [⟨s, y⟩] : List F).length by simp)
              obtain ⟨q0, q0'⟩ := one_r SD7.out 0 rfl
              obtain ⟨r0, r0'⟩ := one_r SD7.out 2 rfl
              go_wp2_with fail
              refine bodyPost_ret (v := .agg #[.slice A2 (l.length + 1) C2]) (by simp [results, Try.results112, go_sem, q0]) rfl ?_
              refine ⟨A2, C2, l ++ [⟨s, y⟩], by rw [← hl.out], (HT.out.app (by omega) y).mono (by omega), ?_⟩
              rw [← hl.out, cellsF_append]
              exact take_r (put_r SD7.out 0 rfl 0 (.slice A2 (l.length + 1) C2)) [1] (by rfl) (by decide)
            refine Reg.cons_op (i := 9) rfl (fun K hK => ?_) ?_
            · go_simp
              have SD5 := Lib.hid (SD4.out.alloc (.cells #[.string s, .int .i64 y] 107))
              have R2 := Lib.hid (reads_two wq4 s y _ rfl 107)
              obtain ⟨g9, hg⟩ : ∃ g', g' = wq4.heap.size := ⟨_, rfl⟩
              rw [← hg] at R2 ⊢
              clear hg
              generalize wq4.alloc (.cells #[.string s, .int .i64 y] 107) = wq5 at SD5 R2 ⊢
              refine hK.out _ _ trivial (fun hS => ?_)
              clear hK K
              try simp only [zp0, zp1, zp2, zp3, zp4]
              refine Reg.one_op (i := 1) rfl (by kernel_rfl) (fun K hK => ?_)
              obtain ⟨r0, r0'⟩ := one_r SD5.out 2 rfl
              go_simp
              clear r0 r0'
              refine hK.out _ _ trivial (fun hS => ?_)
              clear hK K
              try simp only [zp0, zp1, zp2, zp3, zp4]
              refine Reg.one_op (i := 10) rfl (by kernel_rfl) (fun K hK => ?_)
              refine step_append_s SD5.out (rs.length + 1) (at_r (by rfl)) rfl _ _ 39 (by rfl) i0 (.agg #[.string ⟨#[]⟩, .int .i64 0]) 24 Try.underlying39 HF.out.1 HF.out.2.1 HF.out.2.2.1 HF.out.2.2.2 rfl (by omega) l.length (by rfl) rfl (g9 + 1) (some ⟨g9, 0, none⟩) 1 1 1 (cellsF [⟨s, y⟩]) (by rfl) rfl R2.out (by simp) (cellsF_one _) (by have := HT.out.1; unfold maxLen; omega) (by have := HT.out.1; omega) ?_
              intro A2 C2 wq6 hS
              have SD6 := Lib.hid (show Sep W wq6 (rs ++ [boxR w.heap.size 41 #[.slice none 0 0], ownV 107 2 A2 C2 (l.length + 1) (cellsF l ++ cellsF [⟨s, y⟩]), boxR g 41 #[.slice A l.length C]]) from by rw [List.set_append_right _ _ (by omega), Nat.add_sub_cancel_left] at hS; exact take_r hS [0, 1, 2] (by rfl) (by decide))
              clear hS
              refine hK.out _ _ trivial (fun hS => ?_)
              clear hK K
              try simp only [zp0, zp1, zp2, zp3, zp4]
              refine tk 11 rfl ?_
              try simp only [zp0, zp1, zp2, zp3, zp4]
              refine Reg.one_op (i := 12) rfl (by kernel_rfl) (fun K hK => ?_)
              obtain ⟨z0, z1⟩ := one_r SD6.out 2 rfl
              go_simp
              have SD7 := Lib.hid (put_r SD6.out 2 rfl 0 (.slice A2 (l.length + 1) C2))
              clear z0 z1
              refine hK.out _ _ trivial (fun hS => ?_)
              clear hK K
              try simp only [zp0, zp1, zp2, zp3, zp4]
              refine wpAnyH_done (by kernel_rfl) ?_ _
              have hl := Lib.hid (show l.length + 1 = (l ++ [⟨s, y⟩] : List F).length by simp)
              obtain ⟨q0, q0'⟩ := one_r SD7.out 0 rfl
              obtain ⟨r0, r0'⟩ := one_r SD7.out 2 rfl
              go_wp2_with fail
              refine bodyPost_ret (v := .agg #[.slice A2 (l.length + 1) C2]) (by simp [results, Try.results112, go_sem, q0]) rfl ?_
              refine ⟨A2, C2, l ++ [⟨s, y⟩], by rw [← hl.out], (HT.out.app (by omega) y).mono (by omega), ?_⟩
              rw [← hl.out, cellsF_append]
              exact take_r (put_r SD7.out 0 rfl 0 (.slice A2 (l.length + 1) C2)) [1] (by rfl) (by decide)
            exact AllReadyH.nil
          exact AllReadyH.nil
        exact AllReadyH.nil
      refine Reg.cons_op (i := 6) rfl (fun K hK => ?_) ?_
      · go_simp
        have SD2 := Lib.hid (box_r SD1.out 3 #[.int .i64 0, .int .i64 (-1), .int .i64 1000000000, .int .i64 1000000001] wq1.heap.size rfl)
        obtain ⟨g4, hg⟩ : ∃ g', g' = wq1.heap.size := ⟨_, rfl⟩
        rw [← hg] at SD2 ⊢
        clear hg
        generalize wq1.alloc (.cells #[.int .i64 0, .int .i64 (-1), .int .i64 1000000000, .int .i64 1000000001] 3) = wq2 at SD2 ⊢
        refine hK.out _ _ trivial (fun hS => ?_)
        clear hK K
        try simp only [zp0, zp1, zp2, zp3, zp4]
        refine wpAnyH_ready (rs := [1, 4]) (by kernel_rfl) (by simp) ?_
        refine Reg.cons_op (i := 1) rfl (fun K hK => ?_) ?_
        · obtain ⟨r0, r0'⟩ := one_r SD2.out 2 rfl
          go_simp
          clear r0 r0'
          refine hK.out _ _ trivial (fun hS => ?_)
          clear hK K
          try simp only [zp0, zp1, zp2, zp3, zp4]
          refine Reg.one_op (i := 4) rfl (by kernel_rfl) (fun K hK => ?_)
          go_simp
          go_at_call 109
          refine (strB_s SD2.out i (at_left HI.out) (rs.length + 3) (at_r (by rfl)) (by have := (List.getElem?_eq_some_iff.1 HI.out).1; omega) [⟨#[]⟩, ⟨#[65]⟩, ⟨#[122, 122, 122, 122, 122, 122, 122, 122, 122]⟩, ⟨#[122]⟩, ⟨#[97]⟩] rfl (fun s => s.size ≤ 9) (by decide) 5 rfl (by decide) (by decide)).mono ?_
          rintro e wq3 ⟨s, rfl, hs, hS⟩
          have SD3 := Lib.hid hS
          clear hS
          go_wp2_with fail
          refine hK.out _ _ trivial (fun hS => ?_)
          clear hK K
          try simp only [zp0, zp1, zp2, zp3, zp4]
          refine Reg.one_op (i := 7) rfl (by kernel_rfl) (fun K hK => ?_)
          go_simp
          go_at_call 110
          refine (intB_s SD3.out i (at_left HI.out) (rs.length + 4) (at_r (by rfl)) (by have := (List.getElem?_eq_some_iff.1 HI.out).1; omega) [0, -1, 1000000000, 1000000001] rfl (fun _ => True) (by intro _ _; trivial) 4 rfl (by decide) (by decide)).mono ?_
          rintro e wq4 ⟨y, rfl, -, hS⟩
          have SD4 := Lib.hid hS
          clear hS
          go_wp2_with fail
          refine hK.out _ _ trivial (fun hS => ?_)
          clear hK K
          try simp only [zp0, zp1, zp2, zp3, zp4]
          refine tk 8 rfl ?_
          try simp only [zp0, zp1, zp2, zp3, zp4]
          refine Reg.one_op (i := 9) rfl (by kernel_rfl) (fun K hK => ?_)
          go_simp
          have SD5 := Lib.hid (SD4.out.alloc (.cells #[.string s, .int .i64 y] 107))
          have R2 := Lib.hid (reads_two wq4 s y _ rfl 107)
          obtain ⟨g9, hg⟩ : ∃ g', g' = wq4.heap.size := ⟨_, rfl⟩
          rw [← hg] at R2 ⊢
          clear hg
          generalize wq4.alloc (.cells #[.string s, .int .i64 y] 107) = wq5 at SD5 R2 ⊢
          refine hK.out _ _ trivial (fun hS => ?_)
          clear hK K
          try simp only [zp0, zp1, zp2, zp3, zp4]
          refine Reg.one_op (i := 10) rfl (by kernel_rfl) (fun K hK => ?_)
          refine step_append_s SD5.out (rs.length + 1) (at_r (by rfl)) rfl _ _ 39 (by rfl) i0 (.agg #[.string ⟨#[]⟩, .int .i64 0]) 24 Try.underlying39 HF.out.1 HF.out.2.1 HF.out.2.2.1 HF.out.2.2.2 rfl (by omega) l.length (by rfl) rfl (g9 + 1) (some ⟨g9, 0, none⟩) 1 1 1 (cellsF [⟨s, y⟩]) (by rfl) rfl R2.out (by simp) (cellsF_one _) (by have := HT.out.1; unfold maxLen; omega) (by have := HT.out.1; omega) ?_
          intro A2 C2 wq6 hS
          have SD6 := Lib.hid (show Sep W wq6 (rs ++ [boxR w.heap.size 41 #[.slice none 0 0], ownV 107 2 A2 C2 (l.length + 1) (cellsF l ++ cellsF [⟨s, y⟩]), boxR g 41 #[.slice A l.length C]]) from by rw [List.set_append_right _ _ (by omega), Nat.add_sub_cancel_left] at hS; exact take_r hS [0, 1, 2] (by rfl) (by decide))
          clear hS
          refine hK.out _ _ trivial (fun hS => ?_)
          clear hK K
          try simp only [zp0, zp1, zp2, zp3, zp4]
          refine tk 11 rfl ?_
          try simp only [zp0, zp1, zp2, zp3, zp4]
          refine Reg.one_op (i := 12) rfl (by kernel_rfl) (fun K hK => ?_)
          obtain ⟨z0, z1⟩ := one_r SD6.out 2 rfl
          go_simp
          have SD7 := Lib.hid (put_r SD6.out 2 rfl 0 (.slice A2 (l.length + 1) C2))
          clear z0 z1
          refine hK.out _ _ trivial (fun hS => ?_)
          clear hK K
          try simp only [zp0, zp1, zp2, zp3, zp4]
          refine wpAnyH_done (by kernel_rfl) ?_ _
          have hl := Lib.hid (show l.length + 1 = (l ++ [⟨s, y⟩] : List F).length by simp)
          obtain ⟨q0, q0'⟩ := one_r SD7.out 0 rfl
          obtain ⟨r0, r0'⟩ := one_r SD7.out 2 rfl
          go_wp2_with fail
          refine bodyPost_ret (v := .agg #[.slice A2 (l.length + 1) C2]) (by simp [results, Try.results112, go_sem, q0]) rfl ?_
          refine ⟨A2, C2, l ++ [⟨s, y⟩], by rw [← hl.out], (HT.out.app (by omega) y).mono (by omega), ?_⟩
          rw [← hl.out, cellsF_append]
          exact take_r (put_r SD7.out 0 rfl 0 (.slice A2 (l.length + 1) C2)) [1] (by rfl) (by decide)
        refine Reg.cons_op (i := 4) rfl (fun K hK => ?_) ?_
        · go_simp
          go_at_call 109
          refine (strB_s SD2.out i (at_left HI.out) (rs.length + 3) (at_r (by rfl)) (by have := (List.getElem?_eq_some_iff.1 HI.out).1; omega) [⟨#[]⟩, ⟨#[65]⟩, ⟨#[122, 122, 122, 122, 122, 122, 122, 122, 122]⟩, ⟨#[122]⟩, ⟨#[97]⟩] rfl (fun s => s.size ≤ 9) (by decide) 5 rfl (by decide) (by decide)).mono ?_
          rintro e wq3 ⟨s, rfl, hs, hS⟩
          have SD3 := Lib.hid hS
          clear hS
          go_wp2_with fail
          refine hK.out _ _ trivial (fun hS => ?_)
          clear hK K
          try simp only [zp0, zp1, zp2, zp3, zp4]
          refine wpAnyH_ready (rs := [1, 7]) (by kernel_rfl) (by simp) ?_
          refine Reg.cons_op (i := 1) rfl (fun K hK => ?_) ?_
          · obtain ⟨r0, r0'⟩ := one_r SD3.out 2 rfl
            go_simp
            clear r0 r0'
            refine hK.out _ _ trivial (fun hS => ?_)
            clear hK K
            try simp only [zp0, zp1, zp2, zp3, zp4]
            refine Reg.one_op (i := 7) rfl (by kernel_rfl) (fun K hK => ?_)
            go_simp
            go_at_call 110
            refine (intB_s SD3.out i (at_left HI.out) (rs.length + 4) (at_r (by rfl)) (by have := (List.getElem?_eq_some_iff.1 HI.out).1; omega) [0, -1, 1000000000, 1000000001] rfl (fun _ => True) (by intro _ _; trivial) 4 rfl (by decide) (by decide)).mono ?_
            rintro e wq4 ⟨y, rfl, -, hS⟩
            have SD4 := Lib.hid hS
            clear hS
            go_wp2_with fail
            refine hK.out _ _ trivial (fun hS => ?_)
            clear hK K
            try simp only [zp0, zp1, zp2, zp3, zp4]
            refine tk 8 rfl ?_
            try simp only [zp0, zp1, zp2, zp3, zp4]
            refine Reg.one_op (i := 9) rfl (by kernel_rfl) (fun K hK => ?_)
            go_simp
            have SD5 := Lib.hid (SD4.out.alloc (.cells #[.string s, .int .i64 y] 107))
            have R2 := Lib.hid (reads_two wq4 s y _ rfl 107)
            obtain ⟨g9, hg⟩ : ∃ g', g' = wq4.heap.size := ⟨_, rfl⟩
            rw [← hg] at R2 ⊢
            clear hg
            generalize wq4.alloc (.cells #[.string s, .int .i64 y] 107) = wq5 at SD5 R2 ⊢
            refine hK.out _ _ trivial (fun hS => ?_)
            clear hK K
            try simp only [zp0, zp1, zp2, zp3, zp4]
            refine Reg.one_op (i := 10) rfl (by kernel_rfl) (fun K hK => ?_)
            refine step_append_s SD5.out (rs.length + 1) (at_r (by rfl)) rfl _ _ 39 (by rfl) i0 (.agg #[.string ⟨#[]⟩, .int .i64 0]) 24 Try.underlying39 HF.out.1 HF.out.2.1 HF.out.2.2.1 HF.out.2.2.2 rfl (by omega) l.length (by rfl) rfl (g9 + 1) (some ⟨g9, 0, none⟩) 1 1 1 (cellsF [⟨s, y⟩]) (by rfl) rfl R2.out (by simp) (cellsF_one _) (by have := HT.out.1; unfold maxLen; omega) (by have := HT.out.1; omega) ?_
            intro A2 C2 wq6 hS
            have SD6 := Lib.hid (show Sep W wq6 (rs ++ [boxR w.heap.size 41 #[.slice none 0 0], ownV 107 2 A2 C2 (l.length + 1) (cellsF l ++ cellsF [⟨s, y⟩]), boxR g 41 #[.slice A l.length C]]) from by rw [List.set_append_right _ _ (by omega), Nat.add_sub_cancel_left] at hS; exact take_r hS [0, 1, 2] (by rfl) (by decide))
            clear hS
            refine hK.out _ _ trivial (fun hS => ?_)
            clear hK K
            try simp only [zp0, zp1, zp2, zp3, zp4]
            refine tk 11 rfl ?_
            try simp only [zp0, zp1, zp2, zp3, zp4]
            refine Reg.one_op (i := 12) rfl (by kernel_rfl) (fun K hK => ?_)
            obtain ⟨z0, z1⟩ := one_r SD6.out 2 rfl
            go_simp
            have SD7 := Lib.hid (put_r SD6.out 2 rfl 0 (.slice A2 (l.length + 1) C2))
            clear z0 z1
            refine hK.out _ _ trivial (fun hS => ?_)
            clear hK K
            try simp only [zp0, zp1, zp2, zp3, zp4]
            refine wpAnyH_done (by kernel_rfl) ?_ _
            have hl := Lib.hid (show l.length + 1 = (l ++ [⟨s, y⟩] : List F).length by simp)
            obtain ⟨q0, q0'⟩ := one_r SD7.out 0 rfl
            obtain ⟨r0, r0'⟩ := one_r SD7.out 2 rfl
            go_wp2_with fail
            refine bodyPost_ret (v := .agg #[.slice A2 (l.length + 1) C2]) (by simp [results, Try.results112, go_sem, q0]) rfl ?_
            refine ⟨A2, C2, l ++ [⟨s, y⟩], by rw [← hl.out], (HT.out.app (by omega) y).mono (by omega), ?_⟩
            rw [← hl.out, cellsF_append]
            exact take_r (put_r SD7.out 0 rfl 0 (.slice A2 (l.length + 1) C2)) [1] (by rfl) (by decide)
          refine Reg.cons_op (i := 7) rfl (fun K hK => ?_) ?_
          · go_simp
            go_at_call 110
            refine (intB_s SD3.out i (at_left HI.out) (rs.length + 4) (at_r (by rfl)) (by have := (List.getElem?_eq_some_iff.1 HI.out).1; omega) [0, -1, 1000000000, 1000000001] rfl (fun _ => True) (by intro _ _; trivial) 4 rfl (by decide) (by decide)).mono ?_
            rintro e wq4 ⟨y, rfl, -, hS⟩
            have SD4 := Lib.hid hS
            clear hS
            go_wp2_with fail
            refine hK.out _ _ trivial (fun hS => ?_)
            clear hK K
            try simp only [zp0, zp1, zp2, zp3, zp4]
            refine tk 8 rfl ?_
            try simp only [zp0, zp1, zp2, zp3, zp4]
            refine wpAnyH_ready (rs := [1, 9]) (by kernel_rfl) (by simp) ?_
            refine Reg.cons_op (i := 1) rfl (fun K hK => ?_) ?_
            · obtain ⟨r0, r0'⟩ := one_r SD4.out 2 rfl
              go_simp
              clear r0 r0'
              refine hK.out _ _ trivial (fun hS => ?_)
              clear hK K
              try simp only [zp0, zp1, zp2, zp3, zp4]
              refine Reg.one_op (i := 9) rfl (by kernel_rfl) (fun K hK => ?_)
              go_simp
              have SD5 := Lib.hid (SD4.out.alloc (.cells #[.string s, .int .i64 y] 107))
              have R2 := Lib.hid (reads_two wq4 s y _ rfl 107)
              obtain ⟨g9, hg⟩ : ∃ g', g' = wq4.heap.size := ⟨_, rfl⟩
              rw [← hg] at R2 ⊢
              clear hg
              generalize wq4.alloc (.cells #[.string s, .int .i64 y] 107) = wq5 at SD5 R2 ⊢
              refine hK.out _ _ trivial (fun hS => ?_)
              clear hK K
              try simp only [zp0, zp1, zp2, zp3, zp4]
              refine Reg.one_op (i := 10) rfl (by kernel_rfl) (fun K hK => ?_)
              refine step_append_s SD5.out (rs.length + 1) (at_r (by rfl)) rfl _ _ 39 (by rfl) i0 (.agg #[.string ⟨#[]⟩, .int .i64 0]) 24 Try.underlying39 HF.out.1 HF.out.2.1 HF.out.2.2.1 HF.out.2.2.2 rfl (by omega) l.length (by rfl) rfl (g9 + 1) (some ⟨g9, 0, none⟩) 1 1 1 (cellsF [⟨s, y⟩]) (by rfl) rfl R2.out (by simp) (cellsF_one _) (by have := HT.out.1; unfold maxLen; omega) (by have := HT.out.1; omega) ?_
              intro A2 C2 wq6 hS
              have SD6 := Lib.hid (show Sep W wq6 (rs ++ [boxR w.heap.size 41 #[.slice none 0 0], ownV 107 2 A2 C2 (l.length + 1) (cellsF l ++ cellsF [⟨s, y⟩]), boxR g 41 #[.slice A l.length C]]) from by rw [List.set_append_right _ _ (by omega), Nat.add_sub_cancel_left] at hS; exact take_r hS [0, 1, 2] (by rfl) (by decide))
              clear hS
              refine hK.out _ _ trivial (fun hS => ?_)
              clear hK K
              try simp only [zp0, zp1, zp2, zp3, zp4]
              refine tk 11 rfl ?_
              try simp only [zp0, zp1, zp2, zp3, zp4]
              refine Reg.one_op (i := 12) rfl (by kernel_rfl) (fun K hK => ?_)
              obtain ⟨z0, z1⟩ := one_r SD6.out 2 rfl
              go_simp
              have SD7 := Lib.hid (put_r SD6.out 2 rfl 0 (.slice A2 (l.length + 1) C2))
              clear z0 z1
              refine hK.out _ _ trivial (fun hS => ?_)
              clear hK K
              try simp only [zp0, zp1, zp2, zp3, zp4]
              refine wpAnyH_done (by kernel_rfl) ?_ _
              have hl := Lib.hid (show l.length + 1 = (l ++ [⟨s, y⟩] : List F).length by simp)
              obtain ⟨q0, q0'⟩ := one_r SD7.out 0 rfl
              obtain ⟨r0, r0'⟩ := one_r SD7.out 2 rfl
              go_wp2_with fail
              refine bodyPost_ret (v := .agg #[.slice A2 (l.length + 1) C2]) (by simp [results, Try.results112, go_sem, q0]) rfl ?_
              refine ⟨A2, C2, l ++ [⟨s, y⟩], by rw [← hl.out], (HT.out.app (by omega) y).mono (by omega), ?_⟩
              rw [← hl.out, cellsF_append]
              exact take_r (put_r SD7.out 0 rfl 0 (.slice A2 (l.length + 1) C2)) [1] (by rfl) (by decide)
            refine Reg.cons_op (i := 9) rfl (fun K hK => ?_) ?_
            · go_simp
              have SD5 := Lib.hid (SD4.out.alloc (.cells #[.string s, .int .i64 y] 107))
              have R2 := Lib.hid (reads_two wq4 s y _ rfl 107)
              obtain ⟨g9, hg⟩ : ∃ g', g' = wq4.heap.size := ⟨_, rfl⟩
              rw [← hg] at R2 ⊢
              clear hg
              generalize wq4.alloc (.cells #[.string s, .int .i64 y] 107) = wq5 at SD5 R2 ⊢
              refine hK.out _ _ trivial (fun hS => ?_)
              clear hK K
              try simp only [zp0, zp1, zp2, zp3, zp4]
              refine Reg.one_op (i := 1) rfl (by kernel_rfl) (fun K hK => ?_)
              obtain ⟨r0, r0'⟩ := one_r SD5.out 2 rfl
              go_simp
              clear r0 r0'
              refine hK.out _ _ trivial (fun hS => ?_)
              clear hK K
              try simp only [zp0, zp1, zp2, zp3, zp4]
              refine Reg.one_op (i := 10) rfl (by kernel_rfl) (fun K hK => ?_)
              refine step_append_s SD5.out (rs.length + 1) (at_r (by rfl)) rfl _ _ 39 (by rfl) i0 (.agg #[.string ⟨#[]⟩, .int .i64 0]) 24 Try.underlying39 HF.out.1 HF.out.2.1 HF.out.2.2.1 HF.out.2.2.2 rfl (by omega) l.length (by rfl) rfl (g9 + 1) (some ⟨g9, 0, none⟩) 1 1 1 (cellsF [⟨s, y⟩]) (by rfl) rfl R2.out (by simp) (cellsF_one _) (by have := HT.out.1; unfold maxLen; omega) (by have := HT.out.1; omega) ?_
              intro A2 C2 wq6 hS
              have SD6 := Lib.hid (show Sep W wq6 (rs ++ [boxR w.heap.size 41 #[.slice none 0 0], ownV 107 2 A2 C2 (l.length + 1) (cellsF l ++ cellsF [⟨s, y⟩]), boxR g 41 #[.slice A l.length C]]) from by rw [List.set_append_right _ _ (by omega), Nat.add_sub_cancel_left] at hS; exact take_r hS [0, 1, 2] (by rfl) (by decide))
              clear hS
              refine hK.out _ _ trivial (fun hS => ?_)
              clear hK K
              try simp only [zp0, zp1, zp2, zp3, zp4]
              refine tk 11 rfl ?_
              try simp only [zp0, zp1, zp2, zp3, zp4]
              refine Reg.one_op (i := 12) rfl (by kernel_rfl) (fun K hK => ?_)
              obtain ⟨z0, z1⟩ := one_r SD6.out 2 rfl
              go_simp
              have SD7 := Lib.hid (put_r SD6.out 2 rfl 0 (.slice A2 (l.length + 1) C2))
              clear z0 z1
              refine hK.out _ _ trivial (fun hS => ?_)
              clear hK K
              try simp only [zp0, zp1, zp2, zp3, zp4]
              refine wpAnyH_done (by kernel_rfl) ?_ _
              have hl := Lib.hid (show l.length + 1 = (l ++ [⟨s, y⟩] : List F).length by simp)
              obtain ⟨q0, q0'⟩ := one_r SD7.out 0 rfl
              obtain ⟨r0, r0'⟩ := one_r SD7.out 2 rfl
              go_wp2_with fail
              refine bodyPost_ret (v := .agg #[.slice A2 (l.length + 1) C2]) (by simp [results, Try.results112, go_sem, q0]) rfl ?_
              refine ⟨A2, C2, l ++ [⟨s, y⟩], by rw [← hl.out], (HT.out.app (by omega) y).mono (by omega), ?_⟩
              rw [← hl.out, cellsF_append]
              exact take_r (put_r SD7.out 0 rfl 0 (.slice A2 (l.length + 1) C2)) [1] (by rfl) (by decide)
            exact AllReadyH.nil
          exact AllReadyH.nil
        exact AllReadyH.nil
      exact AllReadyH.nil
    refine Reg.cons_op (i := 6) rfl (fun K hK => ?_) ?_
    · go_simp
      have SD1 := Lib.hid (box_r SD0.out 3 #[.int .i64 0, .int .i64 (-1), .int .i64 1000000000, .int .i64 1000000001] wd.heap.size rfl)
      obtain ⟨g3, hg⟩ : ∃ g', g' = wd.heap.size := ⟨_, rfl⟩
      rw [← hg] at SD1 ⊢
      clear hg
      generalize wd.alloc (.cells #[.int .i64 0, .int .i64 (-1), .int .i64 1000000000, .int .i64 1000000001] 3) = wq1 at SD1 ⊢
      refine hK.out _ _ trivial (fun hS => ?_)
      clear hK K
      try simp only [zp0, zp1, zp2, zp3, zp4]
      refine wpAnyH_ready (rs := [1, 3]) (by kernel_rfl) (by simp) ?_
      refine Reg.cons_op (i := 1) rfl (fun K hK => ?_) ?_
      · obtain ⟨r0, r0'⟩ := one_r SD1.out 2 rfl
        go_simp
        clear r0 r0'
        refine hK.out _ _ trivial (fun hS => ?_)
        clear hK K
        try simp only [zp0, zp1, zp2, zp3, zp4]
        refine Reg.one_op (i := 3) rfl (by kernel_rfl) (fun K hK => ?_)
        go_simp
        have SD2 := Lib.hid (box_r SD1.out 9 #[.string ⟨#[]⟩, .string ⟨#[65]⟩, .string ⟨#[122, 122, 122, 122, 122, 122, 122, 122, 122]⟩, .string ⟨#[122]⟩, .string ⟨#[97]⟩] wq1.heap.size rfl)
        obtain ⟨g4, hg⟩ : ∃ g', g' = wq1.heap.size := ⟨_, rfl⟩
        rw [← hg] at SD2 ⊢
        clear hg
        generalize wq1.alloc (.cells #[.string ⟨#[]⟩, .string ⟨#[65]⟩, .string ⟨#[122, 122, 122, 122, 122, 122, 122, 122, 122]⟩, .string ⟨#[122]⟩, .string ⟨#[97]⟩] 9) = wq2 at SD2 ⊢
        refine hK.out _ _ trivial (fun hS => ?_)
        clear hK K
        try simp only [zp0, zp1, zp2, zp3, zp4]
        refine Reg.one_op (i := 4) rfl (by kernel_rfl) (fun K hK => ?_)
        go_simp
        go_at_call 109
        refine (strB_s SD2.out i (at_left HI.out) (rs.length + 4) (at_r (by rfl)) (by have := (List.getElem?_eq_some_iff.1 HI.out).1; omega) [⟨#[]⟩, ⟨#[65]⟩, ⟨#[122, 122, 122, 122, 122, 122, 122, 122, 122]⟩, ⟨#[122]⟩, ⟨#[97]⟩] rfl (fun s => s.size ≤ 9) (by decide) 5 rfl (by decide) (by decide)).mono ?_
        rintro e wq3 ⟨s, rfl, hs, hS⟩
        have SD3 := Lib.hid hS
        clear hS
        go_wp2_with fail
        refine hK.out _ _ trivial (fun hS => ?_)
        clear hK K
        try simp only [zp0, zp1, zp2, zp3, zp4]
        refine Reg.one_op (i := 7) rfl (by kernel_rfl) (fun K hK => ?_)
        go_simp
        go_at_call 110
        refine (intB_s SD3.out i (at_left HI.out) (rs.length + 3) (at_r (by rfl)) (by have := (List.getElem?_eq_some_iff.1 HI.out).1; omega) [0, -1, 1000000000, 1000000001] rfl (fun _ => True) (by intro _ _; trivial) 4 rfl (by decide) (by decide)).mono ?_
        rintro e wq4 ⟨y, rfl, -, hS⟩
        have SD4 := Lib.hid hS
        clear hS
        go_wp2_with fail
        refine hK.out _ _ trivial (fun hS => ?_)
        clear hK K
        try simp only [zp0, zp1, zp2, zp3, zp4]
        refine tk 8 rfl ?_
        try simp only [zp0, zp1, zp2, zp3, zp4]
        refine Reg.one_op (i := 9) rfl (by kernel_rfl) (fun K hK => ?_)
        go_simp
        have SD5 := Lib.hid (SD4.out.alloc (.cells #[.string s, .int .i64 y] 107))
        have R2 := Lib.hid (reads_two wq4 s y _ rfl 107)
        obtain ⟨g9, hg⟩ : ∃ g', g' = wq4.heap.size := ⟨_, rfl⟩
        rw [← hg] at R2 ⊢
        clear hg
        generalize wq4.alloc (.cells #[.string s, .int .i64 y] 107) = wq5 at SD5 R2 ⊢
        refine hK.out _ _ trivial (fun hS => ?_)
        clear hK K
        try simp only [zp0, zp1, zp2, zp3, zp4]
        refine Reg.one_op (i := 10) rfl (by kernel_rfl) (fun K hK => ?_)
        refine step_append_s SD5.out (rs.length + 1) (at_r (by rfl)) rfl _ _ 39 (by rfl) i0 (.agg #[.string ⟨#[]⟩, .int .i64 0]) 24 Try.underlying39 HF.out.1 HF.out.2.1 HF.out.2.2.1 HF.out.2.2.2 rfl (by omega) l.length (by rfl) rfl (g9 + 1) (some ⟨g9, 0, none⟩) 1 1 1 (cellsF [⟨s, y⟩]) (by rfl) rfl R2.out (by simp) (cellsF_one _) (by have := HT.out.1; unfold maxLen; omega) (by have := HT.out.1; omega) ?_
        intro A2 C2 wq6 hS
        have SD6 := Lib.hid (show Sep W wq6 (rs ++ [boxR w.heap.size 41 #[.slice none 0 0], ownV 107 2 A2 C2 (l.length + 1) (cellsF l ++ cellsF [⟨s, y⟩]), boxR g 41 #[.slice A l.length C]]) from by rw [List.set_append_right _ _ (by omega), Nat.add_sub_cancel_left] at hS; exact take_r hS [0, 1, 2] (by rfl) (by decide))
        clear hS
        refine hK.out _ _ trivial (fun hS => ?_)
        clear hK K
        try simp only [zp0, zp1, zp2, zp3, zp4]
        refine tk 11 rfl ?_
        try simp only [zp0, zp1, zp2, zp3, zp4]
        refine Reg.one_op (i := 12) rfl (by kernel_rfl) (fun K hK => ?_)
        obtain ⟨z0, z1⟩ := one_r SD6.out 2 rfl
        go_simp
        have SD7 := Lib.hid (put_r SD6.out 2 rfl 0 (.slice A2 (l.length + 1) C2))
        clear z0 z1
        refine hK.out _ _ trivial (fun hS => ?_)
        clear hK K
        try simp only [zp0, zp1, zp2, zp3, zp4]
        refine wpAnyH_done (by kernel_rfl) ?_ _
        have hl := Lib.hid (show l.length + 1 = (l ++ [⟨s, y⟩] : List F).length by simp)
        obtain ⟨q0, q0'⟩ := one_r SD7.out 0 rfl
        obtain ⟨r0, r0'⟩ := one_r SD7.out 2 rfl
        go_wp2_with fail
        refine bodyPost_ret (v := .agg #[.slice A2 (l.length + 1) C2]) (by simp [results, Try.results112, go_sem, q0]) rfl ?_
        refine ⟨A2, C2, l ++ [⟨s, y⟩], by rw [← hl.out], (HT.out.app (by omega) y).mono (by omega), ?_⟩
        rw [← hl.out, cellsF_append]
        exact take_r (put_r SD7.out 0 rfl 0 (.slice A2 (l.length + 1) C2)) [1] (by rfl) (by decide)
      refine Reg.cons_op (i := 3) rfl (fun K hK => ?_) ?_
      · go_simp
        have SD2 := Lib.hid (box_r SD1.out 9 #[.string ⟨#[]⟩, .string ⟨#[65]⟩, .string ⟨#[122, 122, 122, 122, 122, 122, 122, 122, 122]⟩, .string ⟨#[122]⟩, .string ⟨#[97]⟩] wq1.heap.size rfl)
        obtain ⟨g4, hg⟩ : ∃ g', g' = wq1.heap.size := ⟨_, rfl⟩
        rw [← hg] at SD2 ⊢
        clear hg
        generalize wq1.alloc (.cells #[.string ⟨#[]⟩, .string ⟨#[65]⟩, .string ⟨#[122, 122, 122, 122, 122, 122, 122, 122, 122]⟩, .string ⟨#[122]⟩, .string ⟨#[97]⟩] 9) = wq2 at SD2 ⊢
        refine hK.out _ _ trivial (fun hS => ?_)
        clear hK K
        try simp only [zp0, zp1, zp2, zp3, zp4]
        refine wpAnyH_ready (rs := [1, 4]) (by kernel_rfl) (by simp) ?_
        refine Reg.cons_op (i := 1) rfl (fun K hK => ?_) ?_
        · obtain ⟨r0, r0'⟩ := one_r SD2.out 2 rfl
          go_simp
          clear r0 r0'
          refine hK.out _ _ trivial (fun hS => ?_)
          clear hK K
          try simp only [zp0, zp1, zp2, zp3, zp4]
          refine Reg.one_op (i := 4) rfl (by kernel_rfl) (fun K hK => ?_)
          go_simp
          go_at_call 109
          refine (strB_s SD2.out i (at_left HI.out) (rs.length + 4) (at_r (by rfl)) (by have := (List.getElem?_eq_some_iff.1 HI.out).1; omega) [⟨#[]⟩, ⟨#[65]⟩, ⟨#[122, 122, 122, 122, 122, 122, 122, 122, 122]⟩, ⟨#[122]⟩, ⟨#[97]⟩] rfl (fun s => s.size ≤ 9) (by decide) 5 rfl (by decide) (by decide)).mono ?_
          rintro e wq3 ⟨s, rfl, hs, hS⟩
          have SD3 := Lib.hid hS
          clear hS
          go_wp2_with fail
          refine hK.out _ _ trivial (fun hS => ?_)
          clear hK K
          try simp only [zp0, zp1, zp2, zp3, zp4]
          refine Reg.one_op (i := 7) rfl (by kernel_rfl) (fun K hK => ?_)
          go_simp
          go_at_call 110
          refine (intB_s SD3.out i (at_left HI.out) (rs.length + 3) (at_r (by rfl)) (by have := (List.getElem?_eq_some_iff.1 HI.out).1; omega) [0, -1, 1000000000, 1000000001] rfl (fun _ => True) (by intro _ _; trivial) 4 rfl (by decide) (by decide)).mono ?_
          rintro e wq4 ⟨y, rfl, -, hS⟩
          have SD4 := Lib.hid hS
          clear hS
          go_wp2_with fail
          refine hK.out _ _ trivial (fun hS => ?_)
          clear hK K
          try simp only [zp0, zp1, zp2, zp3, zp4]
          refine tk 8 rfl ?_
          try simp only [zp0, zp1, zp2, zp3, zp4]
          refine Reg.one_op (i := 9) rfl (by kernel_rfl) (fun K hK => ?_)
          go_simp
          have SD5 := Lib.hid (SD4.out.alloc (.cells #[.string s, .int .i64 y] 107))
          have R2 := Lib.hid (reads_two wq4 s y _ rfl 107)
          obtain ⟨g9, hg⟩ : ∃ g', g' = wq4.heap.size := ⟨_, rfl⟩
          rw [← hg] at R2 ⊢
          clear hg
          generalize wq4.alloc (.cells #[.string s, .int .i64 y] 107) = wq5 at SD5 R2 ⊢
          refine hK.out _ _ trivial (fun hS => ?_)
          clear hK K
          try simp only [zp0, zp1, zp2, zp3, zp4]
          refine Reg.one_op (i := 10) rfl (by kernel_rfl) (fun K hK => ?_)
          refine step_append_s SD5.out (rs.length + 1) (at_r (by rfl)) rfl _ _ 39 (by rfl) i0 (.agg #[.string ⟨#[]⟩, .int .i64 0]) 24 Try.underlying39 HF.out.1 HF.out.2.1 HF.out.2.2.1 HF.out.2.2.2 rfl (by omega) l.length (by rfl) rfl (g9 + 1) (some ⟨g9, 0, none⟩) 1 1 1 (cellsF [⟨s, y⟩]) (by rfl) rfl R2.out (by simp) (cellsF_one _) (by have := HT.out.1; unfold maxLen; omega) (by have := HT.out.1; omega) ?_
          intro A2 C2 wq6 hS
          have SD6 := Lib.hid (show Sep W wq6 (rs ++ [boxR w.heap.size 41 #[.slice none 0 0], ownV 107 2 A2 C2 (l.length + 1) (cellsF l ++ cellsF [⟨s, y⟩]), boxR g 41 #[.slice A l.length C]]) from by rw [List.set_append_right _ _ (by omega), Nat.add_sub_cancel_left] at hS; exact take_r hS [0, 1, 2] (by rfl) (by decide))
          clear hS
          refine hK.out _ _ trivial (fun hS => ?_)
          clear hK K
          try simp only [zp0, zp1, zp2, zp3, zp4]
          refine tk 11 rfl ?_
          try simp only [zp0, zp1, zp2, zp3, zp4]
          refine Reg.one_op (i := 12) rfl (by kernel_rfl) (fun K hK => ?_)
          obtain ⟨z0, z1⟩ := one_r SD6.out 2 rfl
          go_simp
          have SD7 := Lib.hid (put_r SD6.out 2 rfl 0 (.slice A2 (l.length + 1) C2))
          clear z0 z1
          refine hK.out _ _ trivial (fun hS => ?_)
          clear hK K
          try simp only [zp0, zp1, zp2, zp3, zp4]
          refine wpAnyH_done (by kernel_rfl) ?_ _
          have hl := Lib.hid (show l.length + 1 = (l ++ [⟨s, y⟩] : List F).length by simp)
          obtain ⟨q0, q0'⟩ := one_r SD7.out 0 rfl
          obtain ⟨r0, r0'⟩ := one_r SD7.out 2 rfl
          go_wp2_with fail
          refine bodyPost_ret (v := .agg #[.slice A2 (l.length + 1) C2]) (by simp [results, Try.results112, go_sem, q0]) rfl ?_
          refine ⟨A2, C2, l ++ [⟨s, y⟩], by rw [← hl.out], (HT.out.app (by omega) y).mono (by omega), ?_⟩
          rw [← hl.out, cellsF_append]
          exact take_r (put_r SD7.out 0 rfl 0 (.slice A2 (l.length + 1) C2)) [1] (by rfl) (by decide)
        refine Reg.cons_op (i := 4) rfl (fun K hK => ?_) ?_
        · go_simp
          go_at_call 109
          refine (strB_s SD2.out i (at_left HI.out) (rs.length + 4) (at_r (by rfl)) (by have := (List.getElem?_eq_some_iff.1 HI.out).1; omega) [⟨#[]⟩, ⟨#[65]⟩, ⟨#[122, 122, 122, 122, 122, 122, 122, 122, 122]⟩, ⟨#[122]⟩, ⟨#[97]⟩] rfl (fun s => s.size ≤ 9) (by decide) 5 rfl (by decide) (by decide)).mono ?_
          rintro e wq3 ⟨s, rfl, hs, hS⟩
          have SD3 := Lib.hid hS
          clear hS
          go_wp2_with fail
          refine hK.out _ _ trivial (fun hS => ?_)
          clear hK K
          try simp only [zp0, zp1, zp2, zp3, zp4]
          refine wpAnyH_ready (rs := [1, 7]) (by kernel_rfl) (by simp) ?_
          refine Reg.cons_op (i := 1) rfl (fun K hK => ?_) ?_
          · obtain ⟨r0, r0'⟩ := one_r SD3.out 2 rfl
            go_simp
            clear r0 r0'
            refine hK.out _ _ trivial (fun hS => ?_)
            clear hK K
            try simp only [zp0, zp1, zp2, zp3, zp4]
            refine Reg.one_op (i := 7) rfl (by kernel_rfl) (fun K hK => ?_)
            go_simp
            go_at_call 110
            refine (intB_s SD3.out i (at_left HI.out) (rs.length + 3) (at_r (by rfl)) (by have := (List.getElem?_eq_some_iff.1 HI.out).1; omega) [0, -1, 1000000000, 1000000001] rfl (fun _ => True) (by intro _ _; trivial) 4 rfl (by decide) (by decide)).mono ?_
            rintro e wq4 ⟨y, rfl, -, hS⟩
            have SD4 := Lib.hid hS
            clear hS
            go_wp2_with fail
            refine hK.out _ _ trivial (fun hS => ?_)
            clear hK K
            try simp only [zp0, zp1, zp2, zp3, zp4]
            refine tk 8 rfl ?_
            try simp only [zp0, zp1, zp2, zp3, zp4]
            refine Reg.one_op (i := 9) rfl (by kernel_rfl) (fun K hK => ?_)
            go_simp
            have SD5 := Lib.hid (SD4.out.alloc (.cells #[.string s, .int .i64 y] 107))
            have R2 := Lib.hid (reads_two wq4 s y _ rfl 107)
            obtain ⟨g9, hg⟩ : ∃ g', g' = wq4.heap.size := ⟨_, rfl⟩
            rw [← hg] at R2 ⊢
            clear hg
            generalize wq4.alloc (.cells #[.string s, .int .i64 y] 107) = wq5 at SD5 R2 ⊢
            refine hK.out _ _ trivial (fun hS => ?_)
            clear hK K
            try simp only [zp0, zp1, zp2, zp3, zp4]
            refine Reg.one_op (i := 10) rfl (by kernel_rfl) (fun K hK => ?_)
            refine step_append_s SD5.out (rs.length + 1) (at_r (by rfl)) rfl _ _ 39 (by rfl) i0 (.agg #[.string ⟨#[]⟩, .int .i64 0]) 24 Try.underlying39 HF.out.1 HF.out.2.1 HF.out.2.2.1 HF.out.2.2.2 rfl (by omega) l.length (by rfl) rfl (g9 + 1) (some ⟨g9, 0, none⟩) 1 1 1 (cellsF [⟨s, y⟩]) (by rfl) rfl R2.out (by simp) (cellsF_one _) (by have := HT.out.1; unfold maxLen; omega) (by have := HT.out.1; omega) ?_
            intro A2 C2 wq6 hS
            have SD6 := Lib.hid (show Sep W wq6 (rs ++ [boxR w.heap.size 41 #[.slice none 0 0], ownV 107 2 A2 C2 (l.length + 1) (cellsF l ++ cellsF [⟨s, y⟩]), boxR g 41 #[.slice A l.length C]]) from by rw [List.set_append_right _ _ (by omega), Nat.add_sub_cancel_left] at hS; exact take_r hS [0, 1, 2] (by rfl) (by decide))
            clear hS
            refine hK.out _ _ trivial (fun hS => ?_)
            clear hK K
            try simp only [zp0, zp1, zp2, zp3, zp4]
            refine tk 11 rfl ?_
            try simp only [zp0, zp1, zp2, zp3, zp4]
            refine Reg.one_op (i := 12) rfl (by kernel_rfl) (fun K hK => ?_)
            obtain ⟨z0, z1⟩ := one_r SD6.out 2 rfl
            go_simp
            have SD7 := Lib.hid (put_r SD6.out 2 rfl 0 (.slice A2 (l.length + 1) C2))
            clear z0 z1
            refine hK.out _ _ trivial (fun hS => ?_)
            clear hK K
            try simp only [zp0, zp1, zp2, zp3, zp4]
            refine wpAnyH_done (by kernel_rfl) ?_ _
            have hl := Lib.hid (show l.length + 1 = (l ++ [⟨s, y⟩] : List F).length by simp)
            obtain ⟨q0, q0'⟩ := one_r SD7.out 0 rfl
            obtain ⟨r0, r0'⟩ := one_r SD7.out 2 rfl
            go_wp2_with fail
            refine bodyPost_ret (v := .agg #[.slice A2 (l.length + 1) C2]) (by simp [results, Try.results112, go_sem, q0]) rfl ?_
            refine ⟨A2, C2, l ++ [⟨s, y⟩], by rw [← hl.out], (HT.out.app (by omega) y).mono (by omega), ?_⟩
            rw [← hl.out, cellsF_append]
            exact take_r (put_r SD7.out 0 rfl 0 (.slice A2 (l.length + 1) C2)) [1] (by rfl) (by decide)
          refine Reg.cons_op (i := 7) rfl (fun K hK => ?_) ?_
          · go_simp
            go_at_call 110
            refine (intB_s SD3.out i (at_left HI.out) (rs.length + 3) (at_r (by rfl)) (by have := (List.getElem?_eq_some_iff.1 HI.out).1; omega) [0, -1, 1000000000, 1000000001] rfl (fun _ => True) (by intro _ _; trivial) 4 rfl (by decide) (by decide)).mono ?_
            rintro e wq4 ⟨y, rfl, -, hS⟩
            have SD4 := Lib.hid hS
            clear hS
            go_wp2_with fail
            refine hK.out _ _ trivial (fun hS => ?_)
            clear hK K
            try simp only [zp0, zp1, zp2, zp3, zp4]
            refine tk 8 rfl ?_
            try simp only [zp0, zp1, zp2, zp3, zp4]
            refine wpAnyH_ready (rs := [1, 9]) (by kernel_rfl) (by simp) ?_
            refine Reg.cons_op (i := 1) rfl (fun K hK => ?_) ?_
            · obtain ⟨r0, r0'⟩ := one_r SD4.out 2 rfl
              go_simp
              clear r0 r0'
              refine hK.out _ _ trivial (fun hS => ?_)
              clear hK K
              try simp only [zp0, zp1, zp2, zp3, zp4]
              refine Reg.one_op (i := 9) rfl (by kernel_rfl) (fun K hK => ?_)
              go_simp
              have SD5 := Lib.hid (SD4.out.alloc (.cells #[.string s, .int .i64 y] 107))
              have R2 := Lib.hid (reads_two wq4 s y _ rfl 107)
              obtain ⟨g9, hg⟩ : ∃ g', g' = wq4.heap.size := ⟨_, rfl⟩
              rw [← hg] at R2 ⊢
              clear hg
              generalize wq4.alloc (.cells #[.string s, .int .i64 y] 107) = wq5 at SD5 R2 ⊢
              refine hK.out _ _ trivial (fun hS => ?_)
              clear hK K
              try simp only [zp0, zp1, zp2, zp3, zp4]
              refine Reg.one_op (i := 10) rfl (by kernel_rfl) (fun K hK => ?_)
              refine step_append_s SD5.out (rs.length + 1) (at_r (by rfl)) rfl _ _ 39 (by rfl) i0 (.agg #[.string ⟨#[]⟩, .int .i64 0]) 24 Try.underlying39 HF.out.1 HF.out.2.1 HF.out.2.2.1 HF.out.2.2.2 rfl (by omega) l.length (by rfl) rfl (g9 + 1) (some ⟨g9, 0, none⟩) 1 1 1 (cellsF [⟨s, y⟩]) (by rfl) rfl R2.out (by simp) (cellsF_one _) (by have := HT.out.1; unfold maxLen; omega) (by have := HT.out.1; omega) ?_
              intro A2 C2 wq6 hS
              have SD6 := Lib.hid (show Sep W wq6 (rs ++ [boxR w.heap.size 41 #[.slice none 0 0], ownV 107 2 A2 C2 (l.length + 1) (cellsF l ++ cellsF [⟨s, y⟩]), boxR g 41 #[.slice A l.length C]]) from by rw [List.set_append_right _ _ (by omega), Nat.add_sub_cancel_left] at hS; exact take_r hS [0, 1, 2] (by rfl) (by decide))
              clear hS
              refine hK.out _ _ trivial (fun hS => ?_)
              clear hK K
              try simp only [zp0, zp1, zp2, zp3, zp4]
              refine tk 11 rfl ?_
              try simp only [zp0, zp1, zp2, zp3, zp4]
              refine Reg.one_op (i := 12) rfl (by kernel_rfl) (fun K hK => ?_)
              obtain ⟨z0, z1⟩ := one_r SD6.out 2 rfl
              go_simp
              have SD7 := Lib.hid (put_r SD6.out 2 rfl 0 (.slice A2 (l.length + 1) C2))
              clear z0 z1
              refine hK.out _ _ trivial (fun hS => ?_)
              clear hK K
              try simp only [zp0, zp1, zp2, zp3, zp4]
              refine wpAnyH_done (by kernel_rfl) ?_ _
              have hl := Lib.hid (show l.length + 1 = (l ++ [⟨s, y⟩] : List F).length by simp)
              obtain ⟨q0, q0'⟩ := one_r SD7.out 0 rfl
              obtain ⟨r0, r0'⟩ := one_r SD7.out 2 rfl
              go_wp2_with fail
              refine bodyPost_ret (v := .agg #[.slice A2 (l.length + 1) C2]) (by simp [results, Try.results112, go_sem, q0]) rfl ?_
              refine ⟨A2, C2, l ++ [⟨s, y⟩], by rw [← hl.out], (HT.out.app (by omega) y).mono (by omega), ?_⟩
              rw [← hl.out, cellsF_append]
              exact take_r (put_r SD7.out 0 rfl 0 (.slice A2 (l.length + 1) C2)) [1] (by rfl) (by decide)
            refine Reg.cons_op (i := 9) rfl (fun K hK => ?_) ?_
            · go_simp
              have SD5 := Lib.hid (SD4.out.alloc (.cells #[.string s, .int .i64 y] 107))
              have R2 := Lib.hid (reads_two wq4 s y _ rfl 107)
              obtain ⟨g9, hg⟩ : ∃ g', g' = wq4.heap.size := ⟨_, rfl⟩
              rw [← hg] at R2 ⊢
              clear hg
              generalize wq4.alloc (.cells #[.string s, .int .i64 y] 107) = wq5 at SD5 R2 ⊢
              refine hK.out _ _ trivial (fun hS => ?_)
              clear hK K
              try simp only [zp0, zp1, zp2, zp3, zp4]
              refine Reg.one_op (i := 1) rfl (by kernel_rfl) (fun K hK => ?_)
              obtain ⟨r0, r0'⟩ := one_r SD5.out 2 rfl
              go_simp
              clear r0 r0'
              refine hK.out _ _ trivial (fun hS => ?_)
              clear hK K
              try simp only [zp0, zp1, zp2, zp3, zp4]
              refine Reg.one_op (i := 10) rfl (by kernel_rfl) (fun K hK => ?_)
              refine step_append_s SD5.out (rs.length + 1) (at_r (by rfl)) rfl _ _ 39 (by rfl) i0 (.agg #[.string ⟨#[]⟩, .int .i64 0]) 24 Try.underlying39 HF.out.1 HF.out.2.1 HF.out.2.2.1 HF.out.2.2.2 rfl (by omega) l.length (by rfl) rfl (g9 + 1) (some ⟨g9, 0, none⟩) 1 1 1 (cellsF [⟨s, y⟩]) (by rfl) rfl R2.out (by simp) (cellsF_one _) (by have := HT.out.1; unfold maxLen; omega) (by have := HT.out.1; omega) ?_
              intro A2 C2 wq6 hS
              have SD6 := Lib.hid (show Sep W wq6 (rs ++ [boxR w.heap.size 41 #[.slice none 0 0], ownV 107 2 A2 C2 (l.length + 1) (cellsF l ++ cellsF [⟨s, y⟩]), boxR g 41 #[.slice A l.length C]]) from by rw [List.set_append_right _ _ (by omega), Nat.add_sub_cancel_left] at hS; exact take_r hS [0, 1, 2] (by rfl) (by decide))
              clear hS
              refine hK.out _ _ trivial (fun hS => ?_)
              clear hK K
              try simp only [zp0, zp1, zp2, zp3, zp4]
              refine tk 11 rfl ?_
              try simp only [zp0, zp1, zp2, zp3, zp4]
              refine Reg.one_op (i := 12) rfl (by kernel_rfl) (fun K hK => ?_)
              obtain ⟨z0, z1⟩ := one_r SD6.out 2 rfl
              go_simp
              have SD7 := Lib.hid (put_r SD6.out 2 rfl 0 (.slice A2 (l.length + 1) C2))
              clear z0 z1
              refine hK.out _ _ trivial (fun hS => ?_)
              clear hK K
              try simp only [zp0, zp1, zp2, zp3, zp4]
              refine wpAnyH_done (by kernel_rfl) ?_ _
              have hl := Lib.hid (show l.length + 1 = (l ++ [⟨s, y⟩] : List F).length by simp)
              obtain ⟨q0, q0'⟩ := one_r SD7.out 0 rfl
              obtain ⟨r0, r0'⟩ := one_r SD7.out 2 rfl
              go_wp2_with fail
              refine bodyPost_ret (v := .agg #[.slice A2 (l.length + 1) C2]) (by simp [results, Try.results112, go_sem, q0]) rfl ?_
              refine ⟨A2, C2, l ++ [⟨s, y⟩], by rw [← hl.out], (HT.out.app (by omega) y).mono (by omega), ?_⟩
              rw [← hl.out, cellsF_append]
              exact take_r (put_r SD7.out 0 rfl 0 (.slice A2 (l.length + 1) C2)) [1] (by rfl) (by decide)
            exact AllReadyH.nil
          exact AllReadyH.nil
        exact AllReadyH.nil
      exact AllReadyH.nil
    exact AllReadyH.nil
  · have e0' : (x == 0) = false := by simp [e0]
    by_cases e1 : x = 1
    · subst e1
      have S4 := Lib.hid (box_r S3.out 9 #[.string ⟨#[100]⟩, .string ⟨#[101]⟩, .string ⟨#[102]⟩, .string ⟨#[103]⟩, .string ⟨#[104]⟩, .string ⟨#[105]⟩] w2.heap.size rfl)
      go_wp2_with fail
      go_loopw [28] (fun v wr => ∃ j : Nat, j ≤ 6 ∧ v = .int .i64 j ∧ Hid (∃ A C l, Tame l (3 + j) ∧ Sep W wr (rs ++ [boxR w.heap.size 41 #[.slice none 0 0], ownV 107 2 A C l.length (cellsF l), boxR g 41 #[.slice A l.length C], boxR w2.heap.size 9 #[.string ⟨#[100]⟩, .string ⟨#[101]⟩, .string ⟨#[102]⟩, .string ⟨#[103]⟩, .string ⟨#[104]⟩, .string ⟨#[105]⟩]]))) (fun v _ => 6 - (intOf v).toNat)
      case atStart => exact ⟨0, by omega, rfl, A, C, l, HT.out, S4.out⟩
      case round =>
        obtain ⟨j, hj, rfl, hrel⟩ := hrel
        clear S4 S3 HT
        obtain ⟨A, C, l, hT, S⟩ := hrel.out
        have S5 := Lib.hid S
        have HT := Lib.hid hT
        clear S hT hrel
        by_cases hlt : (j : Int) < 6
        · obtain ⟨s, hs0, hs⟩ := six_strs j (by omega)
          have hc : wr.cell? ⟨w2.heap.size, j, none⟩ = some (.string s) := by rw [(box_at S5.out (rs.length + 3) (at_r rfl)).cell]; exact hs0
          obtain ⟨r0, r0'⟩ := one_r S5.out 2 rfl
          have HSet := Lib.hid (specSetField_any A C l s 1 (by have := HT.out.1; omega) HT.out.2 (by omega) wr (own_r S5.out 1 rfl).reads (own_r S5.out 1 rfl).cap (own_zero (own_r S5.out 1 rfl)))
          have HT2 := Lib.hid (HT.out.set (show s.size ≤ 281474976710656 by omega) 1)
          clear hs0
          go_wp2_with fail
          go_at_call 138
          refine HSet.out.mono ?_
          rintro e w4 h8
          obtain ⟨A2, C2, rfl, ho, hb⟩ := h8
          have S6 := Lib.hid (push_r S5.out hb ho)
          clear ho hb r0 r0' hc HSet
          obtain ⟨r0, r0'⟩ := one_r S6.out 2 rfl
          have S7 := Lib.hid (take_r (us := [boxR w.heap.size 41 #[.slice none 0 0], ownV 107 2 A2 C2 (setL l s 1).length (cellsF (setL l s 1)), boxR g 41 #[.slice A2 (setL l s 1).length C2], boxR w2.heap.size 9 #[.string ⟨#[100]⟩, .string ⟨#[101]⟩, .string ⟨#[102]⟩, .string ⟨#[103]⟩, .string ⟨#[104]⟩, .string ⟨#[105]⟩]]) (put_r S6.out 2 rfl 0 (.slice A2 (setL l s 1).length C2)) [0, 4, 2, 3] (by rfl) (by decide))
          go_wp2_with fail
          go_roundw
          case rel => exact ⟨j + 1, by omega, by go_num, A2, C2, setL l s 1, HT2.out, S7.out⟩
          case measure => simp [intOf]; omega
        · obtain rfl : j = 6 := by omega
          obtain ⟨q0, q0'⟩ := one_r S5.out 0 rfl
          obtain ⟨r0, r0'⟩ := one_r S5.out 2 rfl
          go_wp2_with fail
          refine bodyPost_ret (v := .agg #[.slice A l.length C]) (by simp [results, Try.results112, go_sem, q0]) rfl ?_
          exact ⟨A, C, l, rfl, HT.out, take_r (put_r S5.out 0 rfl 0 (.slice A l.length C)) [1] (by rfl) (by decide)⟩
    · have e1' : (x == 1) = false := by simp [e1]
      obtain ⟨q0, q0'⟩ := one_r S3.out 0 rfl
      obtain ⟨r0, r0'⟩ := one_r S3.out 2 rfl
      go_wp2_with fail
      refine bodyPost_ret (v := .agg #[.slice A l.length C]) (by simp [results, Try.results112, go_sem, q0]) rfl ?_
      exact ⟨A, C, l, rfl, HT.out.mono (by omega), take_r (put_r S3.out 0 rfl 0 (.slice A l.length C)) [1] (by rfl) (by decide)⟩
end
end Go.Proofs.Ytmnedjhfibmcnaa.L5

/-
  Words for runs of cells in a row of one's own, of no function: copy, clear, append of zeros that finds no room, make, a row shortened. No condition.
-/
namespace Go.Proofs.Ytmnedjhfibmcnaa.Run
set_option maxRecDepth 100000
open Go.ChangeShapes Go.WideShapes Go.ChangeAt Go.RowKit Mem Sl Sv Bag
set_option linter.unusedVariables false

def over (xs : List Value) (o : Nat) (vs : List Value) : List Value := xs.take o ++ (vs ++ xs.drop (o + vs.length))
theorem over_nil (xs : List Value) (o : Nat) : over xs o [] = xs := by simp [over]
theorem over_all (xs vs : List Value) (h : xs.length = vs.length) : over xs 0 vs = vs := by simp [over, ← h]
theorem over_at (A Z : List Value) (o : Nat) (vs : List Value) (ho : A.length = o) (hv : vs.length ≤ Z.length) : over (A ++ Z) o vs = A ++ (vs ++ Z.drop vs.length) := by
  subst ho
  simp [over, List.take_left', List.drop_append]
theorem over_cons (xs : List Value) (o : Nat) (v : Value) (vs : List Value) (h : o < xs.length) : over (xs.set o v) (o + 1) vs = over xs o (v :: vs) := by
  unfold over
  rw [List.drop_set_of_lt (by omega), List.take_add_one, List.take_set_of_le (Nat.le_refl o)]
  simp [h, Nat.add_comm]
  congr 1
  omega
section
variable {w w' : World} {B : Nat} {e : TypeId} {k c n g : Nat} {a : Option Addr} {xs : List Value}
theorem own_run (vs : List Value) : ∀ {w : World} {xs : List Value} (o : Nat), OwnV w B e k (some ⟨g, 0, none⟩) c n xs → o + vs.length ≤ xs.length → OwnV (w.setCells g o vs) B e k (some ⟨g, 0, none⟩) c n (over xs o vs) := by
  induction vs with
  | nil => intro w xs o h _; rw [over_nil]; exact h
  | cons v vs ih =>
    intro w xs o h hl
    simp only [List.length_cons] at hl
    have h1 := ih (o + 1) (h.set o (by omega) v) (by rw [List.length_set]; omega)
    rw [over_cons xs o v vs (by omega)] at h1
    exact h1
theorem turned_run (vs : List Value) : ∀ (w : World) (o : Nat), Turned [g] w (w.setCells g o vs) := by
  induction vs with
  | nil => intro w o; exact Turned.refl _ _
  | cons v vs ih => intro w o; exact (Turned.of_grown (grownBy_put w g o v)).trans (ih _ _)
end
section
variable {W w w' : World} {rs : List Res} {e : TypeId} {k c n g : Nat} {a : Option Addr} {xs : List Value}
theorem put_run (h : Sep W w rs) (i : Nat) (hi : rs[i]? = some (ownV e k (some ⟨g, 0, none⟩) c n xs)) (o : Nat) (vs : List Value) (ho : o + vs.length ≤ xs.length) : Sep W (w.setCells g o vs) (rs.set i (ownV e k (some ⟨g, 0, none⟩) c n (over xs o vs))) :=
  h.put i hi (turned_run vs w o) (own_run vs o (own_at h i hi) ho) (fun b hb => hb)
end
section
variable {P : Program}
theorem run_copy_src (w : World) (dT sT ty e : TypeId) (i : TypeInfo) (k g q dl dc sl sc : Nat) (A : Option Addr) (cs : List Value) (hu : P.underlying dT = some (.slice e)) (hi : P.info? e = some i) (hs : i.size = k) (hn : cs.length = Nat.min sl dl * k)
    (B : Nat) (hr : Reads w B A cs) (hc : ∀ j, j < cs.length → (w.cell? ⟨g, q + j, none⟩).isSome = true) (hf : ∀ j, j < cs.length → w.frozen? ⟨g, q + j, none⟩ = false) (h1 : ∀ v ∈ cs, v.oneCell' = true) :
    (Builtin.copy_ #[dT, sT] ty #[.slice (some ⟨g, q, none⟩) dl dc, .slice A sl sc]).run P w = .ok (goInt (Nat.min sl dl)) (w.setCells g q cs) := by
  have hst := run_storeCells_cells (P := P) g q cs 0 w (by simpa using hc) (by simpa using hf) h1
  cases A with
  | none =>
    have hcs : cs = [] := by
      rcases cs with _ | ⟨x, xs⟩
      · rfl
      · obtain ⟨ad, h, _⟩ := hr 0 (by simp)
        cases h
    subst hcs
    simp [Builtin.copy_, run_underlying hu, Builtin.lenOf, Builtin.firstCells, sizeOf, typeInfo, hi, storeCells, World.setCells]
  | some ad =>
    have hl := run_loadCells_list (P := P) w ad cs (fun j v hj => by
      obtain ⟨hjl, rfl⟩ := List.getElem?_eq_some_iff.1 hj
      obtain ⟨ad', h, _, h2⟩ := hr j hjl
      injection h with h
      subst h
      exact h2)
    simp [Builtin.copy_, run_underlying hu, Builtin.lenOf, Builtin.firstCells, sizeOf, typeInfo, hi, hs, ← hn, hl, hst]
end
section
variable {P : Program} {W w : World} {rs : List Res} {e : TypeId} {k g c n : Nat} {xs : List Value}
theorem run_copy_s (S : Sep W w rs) (j : Nat) (hj : rs[j]? = some (ownV e k (some ⟨g, 0, none⟩) c n xs)) (dT sT ty : TypeId) (i : TypeInfo) (hu : P.underlying dT = some (.slice e)) (hi : P.info? e = some i) (hs : i.size = k)
    (q dl dc sl sc : Nat) (A : Option Addr) (cs : List Value) (hn : cs.length = Nat.min sl dl * k) (B : Nat) (hr : Reads w B A cs) (hq : q + cs.length ≤ xs.length) (h1 : ∀ v ∈ cs, v.oneCell' = true) :
    (Builtin.copy_ #[dT, sT] ty #[.slice (some ⟨g, q, none⟩) dl dc, .slice A sl sc]).run P w = .ok (goInt (Nat.min sl dl)) (w.setCells g q cs) :=
  run_copy_src w dT sT ty e i k g q dl dc sl sc A cs hu hi hs hn B hr (fun m hm => by rw [(own_at S j hj).cell (q + m) (by omega)]; rfl) (fun m hm => (own_at S j hj).free (q + m)) h1
theorem wpList_make_s (S : Sep W w rs) {ops : Array Oper} {rest : List Oper} {o : Oper} {act : Act} {Q : Exit → Act → World → Prop} (hg : o.guard = none) (l cc : Operand) (t : TypeId) (hop : o.op = Op.makeSlice t l cc)
    (e : TypeId) (i : TypeInfo) (z : Value) (k : Nat) (h1 : P.underlying t = some (.slice e)) (h2 : P.info? e = some i) (h3 : i.zero = some z) (h4 : i.size = k)
    (kl kc : IntKind) (n : Nat) (hl : act.eval l = .int kl n) (hc : act.eval cc = .int kc n) (b2 : i.bytes * n ≤ 281474976710656) (b3 : n ≤ maxLen)
    (hK : ∀ w', Sep W w' (rs ++ [ownV e k (some ⟨w.heap.size, 0, none⟩) n n (madeCells z.cells (n * k)).toList]) → wpList P ops Q rest (act.put o.dst (.slice (some ⟨w.heap.size, 0, none⟩) n n)) w') : wpList P ops Q (o :: rest) act w :=
  wpList_make_full w hg l cc t hop w.heap.size e i z k h1 h2 h3 h4 kl kc n n n hl hc rfl rfl b2 b3 (Nat.le_refl _) fun w' h5 h6 =>
    hK w' (push_own S (by
      have := Turned.of_grown h6
      exact this.below (Nat.le_refl _) (fun b hb => by simp at hb)) h5)
end
end Go.Proofs.Ytmnedjhfibmcnaa.Run

/-
  A function that writes into a row that was handed to it: what else the caller owns, as one thing that stays. No condition.
-/
namespace Go.Proofs.Ytmnedjhfibmcnaa.Run
set_option maxRecDepth 100000
open Go.ChangeShapes Go.WideShapes Go.ChangeAt Go.RowKit Mem Sl Sv Bag
set_option linter.unusedVariables false

def restR (W w0 : World) (g : Nat) : Res where
  fp := (List.range w0.heap.size).filter fun b => decide (W.heap.size ≤ b) && decide (b ≠ g)
  is w := ∀ b, b < w0.heap.size → W.heap.size ≤ b → b ≠ g → w.heap[b]? = w0.heap[b]?
  loc := fun hs h b h1 h2 h3 => (hs b (List.mem_filter.2 ⟨List.mem_range.2 h1, by simp [h2, h3]⟩)).trans (h b h1 h2 h3)
theorem over_mid (A C vs old : List Value) (o : Nat) (h : A.length = o) (hv : vs.length = old.length) : over (A ++ (old ++ C)) o vs = A ++ (vs ++ C) := by
  rw [over_at _ _ _ _ h (by rw [List.length_append]; omega), hv, List.drop_left]
section
variable {W w w0 w' : World} {rs : List Res} {e : TypeId} {k c n g : Nat} {xs : List Value}
theorem rest_start (h : Sep W w rs) (i : Nat) (hi : rs[i]? = some (ownV e k (some ⟨g, 0, none⟩) c n xs)) : Sep W w [ownV e k (some ⟨g, 0, none⟩) c n xs, restR W w g] := by
  refine ⟨h.old, fun j r hj => ?_, fun j r hj b hb => ?_, fun j q r s hj hq hne b hb hb2 => ?_⟩
  · rcases j with _ | _ | j
    · simp at hj; subst hj; exact h.is i _ hi
    · simp at hj; subst hj; exact fun b _ _ _ => rfl
    · simp at hj
  · rcases j with _ | _ | j
    · simp at hj; subst hj; exact h.lies i _ hi b hb
    · simp at hj; subst hj
      obtain ⟨h1, h2⟩ := List.mem_filter.1 hb
      simp only [Bool.and_eq_true, decide_eq_true_eq] at h2
      exact ⟨h2.1, List.mem_range.1 h1⟩
    · simp at hj
  · have own : ∀ b, b ∈ (ownV e k (some ⟨g, 0, none⟩) c n xs).fp → b = g := fun b hb => by simpa [ownV, Value.ownBlock] using hb
    have rst : ∀ b, b ∈ (restR W w g).fp → b ≠ g := fun b hb => by
      obtain ⟨_, h2⟩ := List.mem_filter.1 hb
      simp only [Bool.and_eq_true, decide_eq_true_eq] at h2
      exact h2.2
    rcases j with _ | _ | j <;> rcases q with _ | _ | q
    · exact hne rfl
    · simp at hj hq; subst hj; subst hq; exact rst b hb2 (own b hb)
    · simp at hq
    · simp at hj hq; subst hj; subst hq; exact rst b hb (own b hb2)
    · exact hne rfl
    · simp at hq
    · simp at hj
    · simp at hj
    · simp at hj
theorem rest_block (h0 : Below W.heap.size W w0) (h : Sep W w' (ownV e k (some ⟨g, 0, none⟩) c n xs :: restR W w0 g :: rs)) (b : Nat) (hb : b < w0.heap.size) (hg : b ≠ g) : w'.heap[b]? = w0.heap[b]? := by
  rcases Nat.lt_or_ge b W.heap.size with h1 | h1
  · exact (h.old.block b h1).trans (h0.block b h1).symm
  · exact (h.is 1 (restR W w0 g) rfl) b hb h1 hg
theorem rest_turned (h0 : Below W.heap.size W w0) (h : Sep W w' (ownV e k (some ⟨g, 0, none⟩) c n xs :: restR W w0 g :: rs)) : Turned [g] w0 w' := by
  have key := rest_block h0 h
  refine ⟨h.old.os.trans h0.os.symm, h.old.tape.trans h0.tape.symm, h.old.output.trans h0.output.symm, ?_, fun b hb hn => key b hb (by simpa using hn)⟩
  rcases Nat.eq_zero_or_pos w0.heap.size with h1 | h1
  · omega
  · by_cases e1 : w0.heap.size - 1 = g
    · have h2 := (h.lies 0 _ rfl g (by simp [ownV, Value.ownBlock])).2
      omega
    · have h2 := key (w0.heap.size - 1) (by omega) e1
      have h3 := (Array.getElem?_eq_some_iff.1 (h2.trans (Array.getElem?_eq_getElem (show w0.heap.size - 1 < w0.heap.size by omega)))).1
      omega
theorem rest_back {c' n' : Nat} {xs' : List Value} (h : Sep W w rs) (i : Nat) (hi : rs[i]? = some (ownV e k (some ⟨g, 0, none⟩) c n xs)) (h' : Sep W w' [ownV e k (some ⟨g, 0, none⟩) c' n' xs', restR W w g]) : Sep W w' (rs.set i (ownV e k (some ⟨g, 0, none⟩) c' n' xs')) :=
  h.put i hi (by have := rest_turned h.old h'; simpa [ownV, Value.ownBlock] using this) (h'.is 0 _ rfl) (fun b hb => by simpa [ownV, Value.ownBlock] using hb)
/-! the same for a thing of several blocks -/
/-! several things as one, while they are not looked at -/
def allR (rs : List Res) : Res where
  fp := rs.flatMap Res.fp
  is w := (∀ (i : Nat) (r : Res), rs[i]? = some r → r.is w) ∧ ∀ (i j : Nat) (r s : Res), rs[i]? = some r → rs[j]? = some s → i ≠ j → ∀ b ∈ r.fp, b ∉ s.fp
  loc := fun hs h => ⟨fun i r hi => r.loc (fun b hb => hs b (List.mem_flatMap.2 ⟨r, List.mem_of_getElem? hi, hb⟩)) (h.1 i r hi), h.2⟩
theorem packR {us vs : List Res} (h : Sep W w (us ++ vs)) : Sep W w (us ++ [allR vs]) := by
  have at1 : ∀ (i : Nat) (r : Res), vs[i]? = some r → (us ++ vs)[us.length + i]? = some r := fun i r hi => by
    rw [List.getElem?_append_right (by omega), Nat.add_sub_cancel_left]; exact hi
  have key : ∀ (i : Nat) (r : Res), (us ++ [allR vs])[i]? = some r → (i < us.length ∧ (us ++ vs)[i]? = some r) ∨ (i = us.length ∧ r = allR vs) := fun i r hi => by
    rcases Nat.lt_trichotomy i us.length with h1 | h1 | h1
    · rw [List.getElem?_append_left h1] at hi
      exact .inl ⟨h1, by rw [List.getElem?_append_left h1]; exact hi⟩
    · rw [List.getElem?_append_right (by omega), h1, Nat.sub_self] at hi
      simp at hi
      exact .inr ⟨h1, hi.symm⟩
    · rw [List.getElem?_eq_none (by simp; omega)] at hi
      cases hi
  refine ⟨h.old, fun i r hi => ?_, fun i r hi b hb => ?_, fun i j r s hi hj hne b hb hb2 => ?_⟩
  · rcases key i r hi with ⟨_, h1⟩ | ⟨_, rfl⟩
    · exact h.is i r h1
    · exact ⟨fun j s hj => h.is _ s (at1 j s hj), fun j q s t hj hq hne => h.apart _ _ s t (at1 j s hj) (at1 q t hq) (by omega)⟩
  · rcases key i r hi with ⟨_, h1⟩ | ⟨_, rfl⟩
    · exact h.lies i r h1 b hb
    · obtain ⟨s, hs, hb⟩ := List.mem_flatMap.1 hb
      obtain ⟨j, hj⟩ := List.getElem?_of_mem hs
      exact h.lies _ s (at1 j s hj) b hb
  · rcases key i r hi with ⟨l1, h1⟩ | ⟨l1, rfl⟩ <;> rcases key j s hj with ⟨l2, h2⟩ | ⟨l2, rfl⟩
    · exact h.apart i j r s h1 h2 hne b hb hb2
    · obtain ⟨t, ht, hb2⟩ := List.mem_flatMap.1 hb2
      obtain ⟨q, hq⟩ := List.getElem?_of_mem ht
      exact h.apart i _ r t h1 (at1 q t hq) (by omega) b hb hb2
    · obtain ⟨t, ht, hb⟩ := List.mem_flatMap.1 hb
      obtain ⟨q, hq⟩ := List.getElem?_of_mem ht
      exact h.apart _ j t s (at1 q t hq) h2 (by omega) b hb hb2
    · omega
theorem unpackR {us vs : List Res} (h : Sep W w (us ++ [allR vs])) : Sep W w (us ++ vs) := by
  have hl : (us ++ [allR vs])[us.length]? = some (allR vs) := by simp
  have hall : (allR vs).is w := h.is us.length _ hl
  have key : ∀ (i : Nat) (r : Res), (us ++ vs)[i]? = some r → (i < us.length ∧ (us ++ [allR vs])[i]? = some r) ∨ (us.length ≤ i ∧ vs[i - us.length]? = some r) := fun i r hi => by
    rcases Nat.lt_or_ge i us.length with h1 | h1
    · rw [List.getElem?_append_left h1] at hi
      exact .inl ⟨h1, by rw [List.getElem?_append_left h1]; exact hi⟩
    · rw [List.getElem?_append_right h1] at hi
      exact .inr ⟨h1, hi⟩
  have inb : ∀ (i : Nat) (r : Res), vs[i]? = some r → ∀ b ∈ r.fp, b ∈ (allR vs).fp := fun i r hi b hb => List.mem_flatMap.2 ⟨r, List.mem_of_getElem? hi, hb⟩
  refine ⟨h.old, fun i r hi => ?_, fun i r hi b hb => ?_, fun i j r s hi hj hne b hb hb2 => ?_⟩
  · rcases key i r hi with ⟨_, h1⟩ | ⟨_, h1⟩
    · exact h.is i r h1
    · exact hall.1 _ r h1
  · rcases key i r hi with ⟨_, h1⟩ | ⟨_, h1⟩
    · exact h.lies i r h1 b hb
    · exact h.lies _ _ hl b (inb _ r h1 b hb)
  · rcases key i r hi with ⟨l1, h1⟩ | ⟨l1, h1⟩ <;> rcases key j s hj with ⟨l2, h2⟩ | ⟨l2, h2⟩
    · exact h.apart i j r s h1 h2 hne b hb hb2
    · exact h.apart i _ r _ h1 hl (by omega) b hb (inb _ s h2 b hb2)
    · exact h.apart _ j _ s hl h2 (by omega) b (inb _ r h1 b hb) hb2
    · exact hall.2 _ _ r s h1 h2 (by omega) b hb hb2
end
end Go.Proofs.Ytmnedjhfibmcnaa.Run

/-
  The contracts of chapter 6's drawn stores of the specification: l6Store, l6Any. No condition but the cursor's. (Written by my program gen_l6r.py.)
-/
namespace Go.Proofs.Ytmnedjhfibmcnaa.L6
set_option maxRecDepth 100000
open L4 (K isK cmpK R inR encU)
open L5 (F isR isN cellsF encR eqR Small Tame)
open Sd (curR)
open Go.ChangeShapes Go.WideShapes Go.ChangeAt Go.RowKit Mem Sl Ex L2 Sv Bag
set_option linter.unusedVariables false
set_option linter.unusedSimpArgs false

theorem fitI_of {k : K} {l : List F} (hk : k.text.size ≤ 1099511627776) (hl : Tame l 1000) : FitI ⟨k, l⟩ := ⟨hk, by have := hl.1; show l.length ≤ _; omega, hl.2⟩

set_option maxHeartbeats 16000000 in
theorem l6Store_q {W w : World} {Q : Res} {c : Nat} (nm : ByteArray) (hn : isN nm.data.toList = true) (hn2 : nm.size ≤ 281474976710656) (h : Sl.Sep W w [curR W c, Q]) :
    Calls Try.prog 107 #[.pointer (some ⟨c, 0, none⟩), .string nm] w fun e w' => ∃ y : LS, e = .returned y.v ∧ Nice y.con 256 ∧ Sl.Sep W w' [curR W c, Q, bag y.rows] := by
  have S1 := Lib.hid h
  have HNM := Lib.hid (And.intro hn hn2)
  clear h
  go_enter Try.func107, Try.ntmps107
  go_upto_region 1 with fail
  have S2 := Lib.hid (show Sl.Sep W _ [curR W c, Q, L4.boxR w.heap.size 26 #[.string ⟨#[]⟩, .slice none 0 0, .int .i64 0]] from L4.push_box S1.out 26 #[.string ⟨#[]⟩, .slice none 0 0, .int .i64 0] w.heap.size rfl)
  clear S1
  obtain ⟨g1, hg⟩ : ∃ g', g' = w.heap.size := ⟨_, rfl⟩
  rw [← hg] at S2 ⊢
  clear hg
  generalize w.alloc (.cells #[.string ⟨#[]⟩, .slice none 0 0, .int .i64 0] 26) = w1 at S2 ⊢
  go_upto_region 2 with fail
  have S3 := Lib.hid (show Sl.Sep W _ [curR W c, Q, L4.boxR g1 26 #[.string ⟨#[]⟩, .slice none 0 0, .int .i64 0], L4.boxR w1.heap.size 26 #[.string nm, .slice none 0 0, .int .i64 0]] from L4.push_box S2.out 26 #[.string nm, .slice none 0 0, .int .i64 0] w1.heap.size rfl)
  clear S2
  obtain ⟨g2, hg⟩ : ∃ g', g' = w1.heap.size := ⟨_, rfl⟩
  rw [← hg] at S3 ⊢
  clear hg
  generalize w1.alloc (.cells #[.string nm, .slice none 0 0, .int .i64 0] 26) = w2 at S3 ⊢
  have S4 := Lib.hid (show Sl.Sep W _ [curR W c, Q, L4.boxR g1 26 #[.string ⟨#[]⟩, .slice none 0 0, .int .i64 0], L4.boxR g2 26 #[.string nm, .slice none 0 0, .int .i64 0], Bag.bag ((LS.mk nm none 0 [] 0).rows)] from Bag.push_bag S3.out (Below.refl _ _) (Bag.BagOwn.one (OwnV.nil _ _ _ _)))
  clear S3
  go_wp2_with fail
  go_at_call 110
  refine (Sd.int_sg S4.out 0 rfl [0, 2, 4, 6] (fun n => 0 ≤ n ∧ n ≤ 6) (by decide) 4 rfl (by decide) (by decide) _ rfl).mono ?_
  rintro e w3 ⟨n0, rfl, hn0, hS⟩
  have S5 := Lib.hid (show Sl.Sep W _ [curR W c, Q, L4.boxR g1 26 #[.string ⟨#[]⟩, .slice none 0 0, .int .i64 0], L4.boxR g2 26 #[.string nm, .slice none 0 0, .int .i64 0], Bag.bag ((LS.mk nm none 0 [] 0).rows)] from hS)
  clear S4
  clear hS
  try dsimp only [L4.K.v, L4.R.v, LS.v, LS.cells]
  obtain ⟨hn0, hn1⟩ := hn0
  go_wp2_with fail
  go_loopw [6] (fun i wr => ∃ (n : Int) (y : LS), i = .int .i64 n ∧ 0 ≤ n ∧ n ≤ 6 ∧ Hid (Nice y.con 256 ∧ Sl.Sep W wr [curR W c, Q, L4.boxR g1 26 #[.string ⟨#[]⟩, .slice none 0 0, .int .i64 0], L4.boxR g2 26 #[.string y.name, .slice y.a y.xs.length y.c, .int .i64 y.auto], Bag.bag y.rows])) (fun i _ => (intOf i).toNat)
  case atStart => exact ⟨n0, ⟨nm, none, 0, [], 0⟩, rfl, hn0, hn1, And.intro (Nice.start HNM.out.1 HNM.out.2) S5.out⟩
  case round =>
    obtain ⟨n, y, rfl, hn0, hn1, hrel⟩ := hrel
    have HN := Lib.hid hrel.out.1
    have S6 := Lib.hid hrel.out.2
    clear hrel S5
    by_cases hlt : 0 < n
    · skip
      go_upto_region 5 with fail
      refine Reg.wp_region_late (fun w' => True) (fun w' => (World.cell? w' ⟨g2, 0, none⟩ = some (.string y.name) ∧ World.cell? w' ⟨g2, 1, none⟩ = some (.slice y.a y.xs.length y.c) ∧ World.cell? w' ⟨g2, 2, none⟩ = some (.int .i64 y.auto))) 9 (by kernel_rfl) trivial (Bag.cs3 (Bag.drew1 S6.out) 3 rfl) (fun hS hL => ?_)
      have S7 := Lib.hid (show Sl.Sep W _ [curR W c, Q, L4.boxR g1 26 #[.string ⟨#[]⟩, .slice none 0 0, .int .i64 0], L4.boxR g2 26 #[.string y.name, .slice y.a y.xs.length y.c, .int .i64 y.auto], Bag.bag y.rows] from Bag.drew1 S6.out)
      clear S6
      generalize World.drew _ = w4 at hS hL S7 ⊢
      refine Reg.early_op (i := 0) (v := ?_) rfl (by kernel_rfl) (by kernel_rfl) (by kernel_rfl) rfl (by kernel_rfl) (by kernel_rfl) (fun _ _ _ h => h) (by rfl) ?_ hS hL ?_
      rotate_left
      · (intro w hSw hSv; (try dsimp only at hSw); (try dsimp only at hSv); go_simp; try with_reducible rfl)
      try simp only [zp0, zp1, zp2, zp3, zp4]
      refine Reg.early_op (i := 1) (v := ?_) rfl (by kernel_rfl) (by kernel_rfl) (by kernel_rfl) rfl (by kernel_rfl) (by kernel_rfl) (fun _ _ _ h => h) (by rfl) ?_ hS hL ?_
      rotate_left
      · (intro w hSw hSv; (try dsimp only at hSw); (try dsimp only at hSv); go_simp; try with_reducible rfl)
      try simp only [zp0, zp1, zp2, zp3, zp4]
      refine Reg.early_op (i := 3) (v := ?_) rfl (by kernel_rfl) (by kernel_rfl) (by kernel_rfl) rfl (by kernel_rfl) (by kernel_rfl) (fun _ _ _ h => h) (by rfl) ?_ hS hL ?_
      rotate_left
      · (intro w hSw hSv; (try dsimp only at hSw); (try dsimp only at hSv); go_simp; try with_reducible rfl)
      try simp only [zp0, zp1, zp2, zp3, zp4]
      refine Reg.only_op (i := 2) rfl (by kernel_rfl) (fun K hK => ?_)
      go_simp
      go_at_call 115
      refine (Sd.small_n S7.out 0 rfl).mono ?_
      rintro e w5 ⟨k, rfl, hk, hS⟩
      have S8 := Lib.hid (show Sl.Sep W _ [curR W c, Q, L4.boxR g1 26 #[.string ⟨#[]⟩, .slice none 0 0, .int .i64 0], L4.boxR g2 26 #[.string y.name, .slice y.a y.xs.length y.c, .int .i64 y.auto], Bag.bag y.rows] from hS)
      clear S7
      clear hS
      try dsimp only [L4.K.v, L4.R.v, LS.v, LS.cells]
      have HK := Lib.hid hk
      clear hk
      go_wp2_with fail
      clear hL
      refine hK.out _ _ trivial (Bag.cs3 S8.out 3 rfl) (fun hS hL => ?_)
      clear hK K
      try simp only [zp0, zp1, zp2, zp3, zp4]
      refine Reg.only_op (i := 4) rfl (by kernel_rfl) (fun K hK => ?_)
      go_simp
      go_at_call 135
      refine (L5.rec_s S8.out 0 rfl).mono ?_
      rintro e w6 ⟨A, C, l, rfl, hl, hS⟩
      have S9 := Lib.hid (show Sl.Sep W _ [curR W c, Q, L4.boxR g1 26 #[.string ⟨#[]⟩, .slice none 0 0, .int .i64 0], L4.boxR g2 26 #[.string y.name, .slice y.a y.xs.length y.c, .int .i64 y.auto], Bag.bag y.rows, Sv.ownV 107 2 A C l.length (cellsF l)] from hS)
      clear S8
      clear hS
      try dsimp only [L4.K.v, L4.R.v, LS.v, LS.cells]
      have HL := Lib.hid hl
      clear hl
      go_wp2_with fail
      clear hL
      refine hK.out _ _ trivial (Bag.cs3 S9.out 3 rfl) (fun hS hL => ?_)
      clear hK K
      try simp only [zp0, zp1, zp2, zp3, zp4]
      refine Reg.only_op (i := 5) rfl (by kernel_rfl) (fun K hK => ?_)
      go_simp
      have HC := specPutItem_any y k A C l HN.out.fit (by have := HK.out.2.1; omega) (by have := HL.out.1; omega) HL.out.2 _ (Bag.bag_rd S9.out 4 rfl) (Sv.own_at S9.out 5 rfl).reads
      dsimp only [LS.v, LS.cells, L4.K.v] at HC
      go_at_call 134
      refine HC.mono ?_
      clear HC
      rintro e w7 ⟨z, rfl, hcon, ho, hb⟩
      have S10 := Lib.hid (show Sl.Sep W _ [curR W c, Q, L4.boxR g1 26 #[.string ⟨#[]⟩, .slice none 0 0, .int .i64 0], L4.boxR g2 26 #[.string y.name, .slice y.a y.xs.length y.c, .int .i64 y.auto], Bag.bag y.rows, Sv.ownV 107 2 A C l.length (cellsF l), Bag.bag z.rows] from Bag.push_bag S9.out hb ho)
      clear S9
      clear ho hb
      try dsimp only [LS.v, LS.cells]
      have HZ := Lib.hid (show Nice z.con 256 from by rw [hcon]; exact HN.out.put HK.out.2.2 (fitI_of (by have := HK.out.2.1; omega) (HL.out.mono (by omega))))
      clear hcon
      go_wp2_with fail
      clear hL
      refine hK.out _ _ trivial (Bag.cs3 S10.out 3 rfl) (fun hS hL => ?_)
      clear hK K
      try simp only [zp0, zp1, zp2, zp3, zp4]
      refine Reg.early_op (i := 6) (v := ?_) rfl (by kernel_rfl) (by kernel_rfl) (by kernel_rfl) rfl (by kernel_rfl) (by kernel_rfl) (fun _ _ _ h => h) (by rfl) ?_ hS hL ?_
      rotate_left
      · (intro w hSw hSv; (try dsimp only at hSw); (try dsimp only at hSv); go_simp; try with_reducible rfl)
      try simp only [zp0, zp1, zp2, zp3, zp4]
      refine Reg.early_op (i := 7) (v := ?_) rfl (by kernel_rfl) (by kernel_rfl) (by kernel_rfl) rfl (by kernel_rfl) (by kernel_rfl) (fun _ _ _ h => h) (by rfl) ?_ hS hL ?_
      rotate_left
      · (intro w hSw hSv; (try dsimp only at hSw); (try dsimp only at hSv); go_simp; try with_reducible rfl)
      try simp only [zp0, zp1, zp2, zp3, zp4]
      refine Reg.plain_op (i := 8) (v := ?_) rfl (by kernel_rfl) (by kernel_rfl) (by kernel_rfl) rfl (fun _ _ _ h => h) (by rfl) ?_ hS (fun _ => hL) ?_
      rotate_left
      · (intro w hSw; (try dsimp only at hSw); go_simp; try with_reducible rfl)
      try simp only [zp0, zp1, zp2, zp3, zp4]
      refine Reg.late_op (i := 9) rfl (by kernel_rfl) rfl (fun K hK => ?_)
      have hh := Bag.cs3 S10.out 3 rfl
      have f0 := hh.1; have f1 := hh.2.1; have f2 := hh.2.2; clear hh
      have hh := Bag.fs3 S10.out 3 rfl
      have z0 := hh.1; have z1 := hh.2.1; have z2 := hh.2.2; clear hh
      go_simp
      clear f0 f1 f2 z0 z1 z2
      have S11 := Lib.hid (show Sl.Sep W _ [curR W c, Q, L4.boxR g1 26 #[.string ⟨#[]⟩, .slice none 0 0, .int .i64 0], L4.boxR g2 26 #[.string z.name, .slice z.a z.xs.length z.c, .int .i64 z.auto], Bag.bag y.rows, Sv.ownV 107 2 A C l.length (cellsF l), Bag.bag z.rows] from L5.put_box5 (L5.put_box5 (L5.put_box5 (S10.out) 3 rfl 0 (.string z.name)) 3 rfl 1 (.slice z.a z.xs.length z.c)) 3 rfl 2 (.int .i64 z.auto))
      clear S10
      refine hK.out _ _ trivial (fun hS => ?_)
      clear hL
      clear hK K
      try simp only [zp0, zp1, zp2, zp3, zp4]
      refine Reg.anyL_done (by kernel_rfl) ?_ _
      have hh := Bag.cs3 S11.out 2 rfl
      have f0 := hh.1; have f1 := hh.2.1; have f2 := hh.2.2; clear hh
      have hh := Bag.cs3 S11.out 3 rfl
      have f3 := hh.1; have f4 := hh.2.1; have f5 := hh.2.2; clear hh
      clear f0 f1 f2 f3 f4 f5
      have S12 := Lib.hid (show Sl.Sep W _ [curR W c, Q, L4.boxR g1 26 #[.string ⟨#[]⟩, .slice none 0 0, .int .i64 0], L4.boxR g2 26 #[.string z.name, .slice z.a z.xs.length z.c, .int .i64 z.auto], Bag.bag z.rows] from Bag.take S11.out [0, 1, 2, 3, 6] (by rfl) (by decide))
      clear S11
      go_wp2_with fail
      go_roundw
      case rel => exact ⟨n - 1, z, by go_num, by omega, by omega, And.intro HZ.out S12.out⟩
      case measure => simp [intOf]; omega
    · skip
      go_wp2_with fail
      go_at_call 114
      refine (Sd.once_s S6.out 0 rfl _ (by decide) (by decide)).mono ?_
      rintro e w4 ⟨b, rfl, hS⟩
      have S7 := Lib.hid (show Sl.Sep W _ [curR W c, Q, L4.boxR g1 26 #[.string ⟨#[]⟩, .slice none 0 0, .int .i64 0], L4.boxR g2 26 #[.string y.name, .slice y.a y.xs.length y.c, .int .i64 y.auto], Bag.bag y.rows] from hS)
      clear S6
      clear hS
      try dsimp only [L4.K.v, L4.R.v, LS.v, LS.cells]
      cases b with
      | false =>
        have hh := Bag.cs3 S7.out 3 rfl
        have f0 := hh.1; have f1 := hh.2.1; have f2 := hh.2.2; clear hh
        clear f0 f1 f2
        have hh := Bag.cs3 S7.out 2 rfl
        have f0 := hh.1; have f1 := hh.2.1; have f2 := hh.2.2; clear hh
        have hh := Bag.cs3 S7.out 3 rfl
        have f3 := hh.1; have f4 := hh.2.1; have f5 := hh.2.2; clear hh
        have hh := Bag.fs3 S7.out 2 rfl
        have z0 := hh.1; have z1 := hh.2.1; have z2 := hh.2.2; clear hh
        go_wp2_with fail
        clear f0 f1 f2 f3 f4 f5 z0 z1 z2
        have S8 := Lib.hid (show Sl.Sep W _ [curR W c, Q, L4.boxR g1 26 #[.string y.name, .slice y.a y.xs.length y.c, .int .i64 y.auto], L4.boxR g2 26 #[.string y.name, .slice y.a y.xs.length y.c, .int .i64 y.auto], Bag.bag y.rows] from L5.put_box5 (L5.put_box5 (L5.put_box5 (S7.out) 2 rfl 0 (.string y.name)) 2 rfl 1 (.slice y.a y.xs.length y.c)) 2 rfl 2 (.int .i64 y.auto))
        clear S7
        have hh := Bag.cs3 S8.out 2 rfl
        have f0 := hh.1; have f1 := hh.2.1; have f2 := hh.2.2; clear hh
        refine bodyPost_ret (v := .agg #[.string y.name, .slice y.a y.xs.length y.c, .int .i64 y.auto]) (by simp [results, Try.results107, go_sem, *]) rfl ?_
        clear f0 f1 f2
        have S9 := Lib.hid (show Sl.Sep W _ [curR W c, Q, Bag.bag y.rows] from Bag.take S8.out [0, 1, 4] (by rfl) (by decide))
        clear S8
        exact ⟨y, rfl, HN.out, S9.out⟩
      | true =>
        go_upto_region 7 with fail
        refine Reg.wp_region_late (fun w' => True) (fun w' => (World.cell? w' ⟨g2, 0, none⟩ = some (.string y.name) ∧ World.cell? w' ⟨g2, 1, none⟩ = some (.slice y.a y.xs.length y.c) ∧ World.cell? w' ⟨g2, 2, none⟩ = some (.int .i64 y.auto))) 9 (by kernel_rfl) trivial (Bag.cs3 (Bag.drew1 S7.out) 3 rfl) (fun hS hL => ?_)
        have S8 := Lib.hid (show Sl.Sep W _ [curR W c, Q, L4.boxR g1 26 #[.string ⟨#[]⟩, .slice none 0 0, .int .i64 0], L4.boxR g2 26 #[.string y.name, .slice y.a y.xs.length y.c, .int .i64 y.auto], Bag.bag y.rows] from Bag.drew1 S7.out)
        clear S7
        generalize World.drew _ = w5 at hS hL S8 ⊢
        refine Reg.early_op (i := 0) (v := ?_) rfl (by kernel_rfl) (by kernel_rfl) (by kernel_rfl) rfl (by kernel_rfl) (by kernel_rfl) (fun _ _ _ h => h) (by rfl) ?_ hS hL ?_
        rotate_left
        · (intro w hSw hSv; (try dsimp only at hSw); (try dsimp only at hSv); go_simp; try with_reducible rfl)
        try simp only [zp0, zp1, zp2, zp3, zp4]
        refine Reg.early_op (i := 1) (v := ?_) rfl (by kernel_rfl) (by kernel_rfl) (by kernel_rfl) rfl (by kernel_rfl) (by kernel_rfl) (fun _ _ _ h => h) (by rfl) ?_ hS hL ?_
        rotate_left
        · (intro w hSw hSv; (try dsimp only at hSw); (try dsimp only at hSv); go_simp; try with_reducible rfl)
        try simp only [zp0, zp1, zp2, zp3, zp4]
        refine Reg.early_op (i := 3) (v := ?_) rfl (by kernel_rfl) (by kernel_rfl) (by kernel_rfl) rfl (by kernel_rfl) (by kernel_rfl) (fun _ _ _ h => h) (by rfl) ?_ hS hL ?_
        rotate_left
        · (intro w hSw hSv; (try dsimp only at hSw); (try dsimp only at hSv); go_simp; try with_reducible rfl)
        try simp only [zp0, zp1, zp2, zp3, zp4]
        refine Reg.only_op (i := 2) rfl (by kernel_rfl) (fun K hK => ?_)
        go_simp
        go_at_call 136
        refine (Sd.key_n S8.out 0 rfl).mono ?_
        rintro e w6 ⟨k, rfl, hk, hS⟩
        have S9 := Lib.hid (show Sl.Sep W _ [curR W c, Q, L4.boxR g1 26 #[.string ⟨#[]⟩, .slice none 0 0, .int .i64 0], L4.boxR g2 26 #[.string y.name, .slice y.a y.xs.length y.c, .int .i64 y.auto], Bag.bag y.rows] from hS)
        clear S8
        clear hS
        try dsimp only [L4.K.v, L4.R.v, LS.v, LS.cells]
        have HK := Lib.hid hk
        clear hk
        go_wp2_with fail
        clear hL
        refine hK.out _ _ trivial (Bag.cs3 S9.out 3 rfl) (fun hS hL => ?_)
        clear hK K
        try simp only [zp0, zp1, zp2, zp3, zp4]
        refine Reg.only_op (i := 4) rfl (by kernel_rfl) (fun K hK => ?_)
        go_simp
        go_at_call 135
        refine (L5.rec_s S9.out 0 rfl).mono ?_
        rintro e w7 ⟨A, C, l, rfl, hl, hS⟩
        have S10 := Lib.hid (show Sl.Sep W _ [curR W c, Q, L4.boxR g1 26 #[.string ⟨#[]⟩, .slice none 0 0, .int .i64 0], L4.boxR g2 26 #[.string y.name, .slice y.a y.xs.length y.c, .int .i64 y.auto], Bag.bag y.rows, Sv.ownV 107 2 A C l.length (cellsF l)] from hS)
        clear S9
        clear hS
        try dsimp only [L4.K.v, L4.R.v, LS.v, LS.cells]
        have HL := Lib.hid hl
        clear hl
        go_wp2_with fail
        clear hL
        refine hK.out _ _ trivial (Bag.cs3 S10.out 3 rfl) (fun hS hL => ?_)
        clear hK K
        try simp only [zp0, zp1, zp2, zp3, zp4]
        refine Reg.only_op (i := 5) rfl (by kernel_rfl) (fun K hK => ?_)
        go_simp
        have HC := specPutItem_any y k A C l HN.out.fit (by have := HK.out.2.1; omega) (by have := HL.out.1; omega) HL.out.2 _ (Bag.bag_rd S10.out 4 rfl) (Sv.own_at S10.out 5 rfl).reads
        dsimp only [LS.v, LS.cells, L4.K.v] at HC
        go_at_call 134
        refine HC.mono ?_
        clear HC
        rintro e w8 ⟨z, rfl, hcon, ho, hb⟩
        have S11 := Lib.hid (show Sl.Sep W _ [curR W c, Q, L4.boxR g1 26 #[.string ⟨#[]⟩, .slice none 0 0, .int .i64 0], L4.boxR g2 26 #[.string y.name, .slice y.a y.xs.length y.c, .int .i64 y.auto], Bag.bag y.rows, Sv.ownV 107 2 A C l.length (cellsF l), Bag.bag z.rows] from Bag.push_bag S10.out hb ho)
        clear S10
        clear ho hb
        try dsimp only [LS.v, LS.cells]
        have HZ := Lib.hid (show Nice z.con 256 from by rw [hcon]; exact HN.out.put HK.out.2.2 (fitI_of (by have := HK.out.2.1; omega) (HL.out.mono (by omega))))
        clear hcon
        go_wp2_with fail
        clear hL
        refine hK.out _ _ trivial (Bag.cs3 S11.out 3 rfl) (fun hS hL => ?_)
        clear hK K
        try simp only [zp0, zp1, zp2, zp3, zp4]
        refine Reg.early_op (i := 6) (v := ?_) rfl (by kernel_rfl) (by kernel_rfl) (by kernel_rfl) rfl (by kernel_rfl) (by kernel_rfl) (fun _ _ _ h => h) (by rfl) ?_ hS hL ?_
        rotate_left
        · (intro w hSw hSv; (try dsimp only at hSw); (try dsimp only at hSv); go_simp; try with_reducible rfl)
        try simp only [zp0, zp1, zp2, zp3, zp4]
        refine Reg.early_op (i := 7) (v := ?_) rfl (by kernel_rfl) (by kernel_rfl) (by kernel_rfl) rfl (by kernel_rfl) (by kernel_rfl) (fun _ _ _ h => h) (by rfl) ?_ hS hL ?_
        rotate_left
        · (intro w hSw hSv; (try dsimp only at hSw); (try dsimp only at hSv); go_simp; try with_reducible rfl)
        try simp only [zp0, zp1, zp2, zp3, zp4]
        refine Reg.plain_op (i := 8) (v := ?_) rfl (by kernel_rfl) (by kernel_rfl) (by kernel_rfl) rfl (fun _ _ _ h => h) (by rfl) ?_ hS (fun _ => hL) ?_
        rotate_left
        · (intro w hSw; (try dsimp only at hSw); go_simp; try with_reducible rfl)
        try simp only [zp0, zp1, zp2, zp3, zp4]
        refine Reg.late_op (i := 9) rfl (by kernel_rfl) rfl (fun K hK => ?_)
        have hh := Bag.cs3 S11.out 3 rfl
        have f0 := hh.1; have f1 := hh.2.1; have f2 := hh.2.2; clear hh
        have hh := Bag.fs3 S11.out 3 rfl
        have z0 := hh.1; have z1 := hh.2.1; have z2 := hh.2.2; clear hh
        go_simp
        clear f0 f1 f2 z0 z1 z2
        have S12 := Lib.hid (show Sl.Sep W _ [curR W c, Q, L4.boxR g1 26 #[.string ⟨#[]⟩, .slice none 0 0, .int .i64 0], L4.boxR g2 26 #[.string z.name, .slice z.a z.xs.length z.c, .int .i64 z.auto], Bag.bag y.rows, Sv.ownV 107 2 A C l.length (cellsF l), Bag.bag z.rows] from L5.put_box5 (L5.put_box5 (L5.put_box5 (S11.out) 3 rfl 0 (.string z.name)) 3 rfl 1 (.slice z.a z.xs.length z.c)) 3 rfl 2 (.int .i64 z.auto))
        clear S11
        refine hK.out _ _ trivial (fun hS => ?_)
        clear hL
        clear hK K
        try simp only [zp0, zp1, zp2, zp3, zp4]
        refine Reg.anyL_done (by kernel_rfl) ?_ _
        have hh := Bag.cs3 S12.out 2 rfl
        have f0 := hh.1; have f1 := hh.2.1; have f2 := hh.2.2; clear hh
        have hh := Bag.cs3 S12.out 3 rfl
        have f3 := hh.1; have f4 := hh.2.1; have f5 := hh.2.2; clear hh
        clear f0 f1 f2 f3 f4 f5
        have S13 := Lib.hid (show Sl.Sep W _ [curR W c, Q, L4.boxR g1 26 #[.string ⟨#[]⟩, .slice none 0 0, .int .i64 0], L4.boxR g2 26 #[.string z.name, .slice z.a z.xs.length z.c, .int .i64 z.auto], Bag.bag z.rows] from Bag.take S12.out [0, 1, 2, 3, 6] (by rfl) (by decide))
        clear S12
        have hh := Bag.cs3 S13.out 3 rfl
        have f0 := hh.1; have f1 := hh.2.1; have f2 := hh.2.2; clear hh
        clear f0 f1 f2
        have hh := Bag.cs3 S13.out 2 rfl
        have f0 := hh.1; have f1 := hh.2.1; have f2 := hh.2.2; clear hh
        have hh := Bag.cs3 S13.out 3 rfl
        have f3 := hh.1; have f4 := hh.2.1; have f5 := hh.2.2; clear hh
        have hh := Bag.fs3 S13.out 2 rfl
        have z0 := hh.1; have z1 := hh.2.1; have z2 := hh.2.2; clear hh
        go_wp2_with fail
        clear f0 f1 f2 f3 f4 f5 z0 z1 z2
        have S14 := Lib.hid (show Sl.Sep W _ [curR W c, Q, L4.boxR g1 26 #[.string z.name, .slice z.a z.xs.length z.c, .int .i64 z.auto], L4.boxR g2 26 #[.string z.name, .slice z.a z.xs.length z.c, .int .i64 z.auto], Bag.bag z.rows] from L5.put_box5 (L5.put_box5 (L5.put_box5 (S13.out) 2 rfl 0 (.string z.name)) 2 rfl 1 (.slice z.a z.xs.length z.c)) 2 rfl 2 (.int .i64 z.auto))
        clear S13
        have hh := Bag.cs3 S14.out 2 rfl
        have f0 := hh.1; have f1 := hh.2.1; have f2 := hh.2.2; clear hh
        refine bodyPost_ret (v := .agg #[.string z.name, .slice z.a z.xs.length z.c, .int .i64 z.auto]) (by simp [results, Try.results107, go_sem, *]) rfl ?_
        clear f0 f1 f2
        have S15 := Lib.hid (show Sl.Sep W _ [curR W c, Q, Bag.bag z.rows] from Bag.take S14.out [0, 1, 4] (by rfl) (by decide))
        clear S14
        exact ⟨z, rfl, HZ.out, S15.out⟩

def lenOf (w : World) (g : Nat) : Nat := match w.cell? ⟨g, 1, none⟩ with
  | some (.slice _ n _) => n
  | _ => 0
theorem lenOf_at {w : World} {g : Nat} {a : Option Addr} {n c : Nat} (h : w.cell? ⟨g, 1, none⟩ = some (.slice a n c)) : lenOf w g = n := by unfold lenOf; rw [h]
theorem Nice.more {s : S6} {b c : Int} (h : Nice s b) (hb : b ≤ c) : Nice s c := ⟨h.valid, h.cov, Int.le_trans h.auto hb, h.fit⟩
theorem small_nil : Small [] := fun f hf => by cases hf

set_option maxHeartbeats 16000000 in
theorem l6Any_q {W w : World} {Q : Res} {c : Nat} (h : Sl.Sep W w [curR W c, Q]) :
    Calls Try.prog 59 #[.pointer (some ⟨c, 0, none⟩)] w fun e w' => ∃ y : LS, e = .returned y.v ∧ FitS y.con ∧ Sl.Sep W w' [curR W c, Q, bag y.rows] := by
  obtain ⟨i0, hi1, hi2, hi3, hi4⟩ := itemInfo
  have HI := Lib.hid (And.intro hi1 (And.intro hi2 (And.intro hi3 hi4)))
  clear hi1 hi2 hi3 hi4
  have S1 := Lib.hid h
  clear h
  go_enter Try.func59, Try.ntmps59
  go_upto_region 1 with fail
  have S2 := Lib.hid (show Sl.Sep W _ [curR W c, Q, L4.boxR w.heap.size 26 #[.string ⟨#[]⟩, .slice none 0 0, .int .i64 0]] from L4.push_box S1.out 26 #[.string ⟨#[]⟩, .slice none 0 0, .int .i64 0] w.heap.size rfl)
  clear S1
  obtain ⟨g1, hg⟩ : ∃ g', g' = w.heap.size := ⟨_, rfl⟩
  rw [← hg] at S2 ⊢
  clear hg
  generalize w.alloc (.cells #[.string ⟨#[]⟩, .slice none 0 0, .int .i64 0] 26) = w1 at S2 ⊢
  have HC := l6Store_q ⟨#[110, 111, 116, 101, 115]⟩ (by decide) (by decide) (Run.packR (us := [curR W c]) (vs := [Q, L4.boxR g1 26 #[.string ⟨#[]⟩, .slice none 0 0, .int .i64 0]]) S2.out)
  go_wp2_with fail
  go_at_call 107
  refine HC.mono ?_
  clear HC
  rintro e w2 ⟨y, rfl, hN, hS⟩
  have HN := Lib.hid hN
  clear hN
  have hlen : y.xs.length ≤ 16 := by have := (isS_iff.1 HN.out.valid).2.2.1; simpa [LS.con] using this
  have S3 := Lib.hid (show Sl.Sep W _ [curR W c, Bag.bag y.rows, Q, L4.boxR g1 26 #[.string ⟨#[]⟩, .slice none 0 0, .int .i64 0]] from Run.unpackR (us := [curR W c, Bag.bag y.rows]) (vs := [Q, L4.boxR g1 26 #[.string ⟨#[]⟩, .slice none 0 0, .int .i64 0]]) (Bag.take hS [0, 2, 1] (by rfl) (by decide)))
  clear S2
  clear hS
  dsimp only [LS.v, LS.cells]
  go_upto_region 2 with fail
  have S4 := Lib.hid (show Sl.Sep W _ [curR W c, Bag.bag y.rows, Q, L4.boxR g1 26 #[.string ⟨#[]⟩, .slice none 0 0, .int .i64 0], L4.boxR w2.heap.size 26 #[.string y.name, .slice y.a y.xs.length y.c, .int .i64 y.auto]] from L4.push_box S3.out 26 #[.string y.name, .slice y.a y.xs.length y.c, .int .i64 y.auto] w2.heap.size rfl)
  clear S3
  obtain ⟨g2, hg⟩ : ∃ g', g' = w2.heap.size := ⟨_, rfl⟩
  rw [← hg] at S4 ⊢
  clear hg
  generalize w2.alloc (.cells #[.string y.name, .slice y.a y.xs.length y.c, .int .i64 y.auto] 26) = w3 at S4 ⊢
  have S5 := Lib.hid (show Sl.Sep W _ [curR W c, Q, L4.boxR g1 26 #[.string ⟨#[]⟩, .slice none 0 0, .int .i64 0], L4.boxR g2 26 #[.string y.name, .slice y.a y.xs.length y.c, .int .i64 y.auto], Bag.bag y.rows] from Bag.take S4.out [0, 2, 3, 4, 1] (by rfl) (by decide))
  clear S4
  go_wp2_with fail
  go_at_call 108
  refine (Sd.below_s S5.out 0 rfl _ (by decide) (by decide)).mono ?_
  rintro e w4 ⟨x, rfl, ⟨hx0, hx1⟩, hS⟩
  have S6 := Lib.hid (show Sl.Sep W _ [curR W c, Q, L4.boxR g1 26 #[.string ⟨#[]⟩, .slice none 0 0, .int .i64 0], L4.boxR g2 26 #[.string y.name, .slice y.a y.xs.length y.c, .int .i64 y.auto], Bag.bag y.rows] from hS)
  clear S5
  clear hS
  try dsimp only [L4.K.v, L4.R.v, LS.v, LS.cells]
  by_cases h0 : x = 0
  · subst h0
    go_wp2_with fail
    go_at_call 109
    refine (Sd.str_sg S6.out 0 rfl [⟨#[]⟩, ⟨#[81]⟩, ⟨#[97, 98, 99, 100, 101, 102, 103, 104, 105]⟩] (fun s => s.size ≤ 9) (by decide) 3 rfl (by decide) (by decide) _ rfl).mono ?_
    rintro e w5 ⟨s, rfl, hs, hS⟩
    have S7 := Lib.hid (show Sl.Sep W _ [curR W c, Q, L4.boxR g1 26 #[.string ⟨#[]⟩, .slice none 0 0, .int .i64 0], L4.boxR g2 26 #[.string y.name, .slice y.a y.xs.length y.c, .int .i64 y.auto], Bag.bag y.rows] from hS)
    clear S6
    clear hS
    try dsimp only [L4.K.v, L4.R.v, LS.v, LS.cells]
    have hh := Bag.cs3 S7.out 3 rfl
    have f0 := hh.1; have f1 := hh.2.1; have f2 := hh.2.2; clear hh
    have hh := Bag.fs3 S7.out 3 rfl
    have z0 := hh.1; have z1 := hh.2.1; have z2 := hh.2.2; clear hh
    go_upto_region 12 with fail
    clear f0 f1 f2 z0 z1 z2
    have S8 := Lib.hid (show Sl.Sep W _ [curR W c, Q, L4.boxR g1 26 #[.string ⟨#[]⟩, .slice none 0 0, .int .i64 0], L4.boxR g2 26 #[.string s, .slice y.a y.xs.length y.c, .int .i64 y.auto], Bag.bag y.rows] from L5.put_box5 (S7.out) 3 rfl 0 (.string s))
    clear S7
    have hh := Bag.cs3 S8.out 3 rfl
    have f0 := hh.1; have f1 := hh.2.1; have f2 := hh.2.2; clear hh
    clear f0 f1 f2
    have hh := Bag.cs3 S8.out 2 rfl
    have f0 := hh.1; have f1 := hh.2.1; have f2 := hh.2.2; clear hh
    have hh := Bag.cs3 S8.out 3 rfl
    have f3 := hh.1; have f4 := hh.2.1; have f5 := hh.2.2; clear hh
    have hh := Bag.fs3 S8.out 2 rfl
    have z0 := hh.1; have z1 := hh.2.1; have z2 := hh.2.2; clear hh
    go_wp2_with fail
    clear f0 f1 f2 f3 f4 f5 z0 z1 z2
    have S9 := Lib.hid (show Sl.Sep W _ [curR W c, Q, L4.boxR g1 26 #[.string s, .slice y.a y.xs.length y.c, .int .i64 y.auto], L4.boxR g2 26 #[.string s, .slice y.a y.xs.length y.c, .int .i64 y.auto], Bag.bag y.rows] from L5.put_box5 (L5.put_box5 (L5.put_box5 (S8.out) 2 rfl 0 (.string s)) 2 rfl 1 (.slice y.a y.xs.length y.c)) 2 rfl 2 (.int .i64 y.auto))
    clear S8
    have hh := Bag.cs3 S9.out 2 rfl
    have f0 := hh.1; have f1 := hh.2.1; have f2 := hh.2.2; clear hh
    refine bodyPost_ret (v := .agg #[.string s, .slice y.a y.xs.length y.c, .int .i64 y.auto]) (by simp [results, Try.results59, go_sem, *]) rfl ?_
    clear f0 f1 f2
    have S10 := Lib.hid (show Sl.Sep W _ [curR W c, Q, Bag.bag y.rows] from Bag.take S9.out [0, 1, 4] (by rfl) (by decide))
    clear S9
    exact ⟨⟨s, y.a, y.c, y.xs, y.auto⟩, rfl, ⟨by show s.size ≤ _; omega, HN.out.fit.len, HN.out.fit.items⟩, S10.out⟩
  by_cases h1 : x = 1
  · subst h1
    go_wp2_with fail
    go_at_call 110
    refine (Sd.int_sg S6.out 0 rfl [-1, 999999, 1000000, 1000001] (fun n => -1 ≤ n) (by decide) 4 rfl (by decide) (by decide) _ rfl).mono ?_
    rintro e w5 ⟨n0, rfl, hn0, hS⟩
    have S7 := Lib.hid (show Sl.Sep W _ [curR W c, Q, L4.boxR g1 26 #[.string ⟨#[]⟩, .slice none 0 0, .int .i64 0], L4.boxR g2 26 #[.string y.name, .slice y.a y.xs.length y.c, .int .i64 y.auto], Bag.bag y.rows] from hS)
    clear S6
    clear hS
    try dsimp only [L4.K.v, L4.R.v, LS.v, LS.cells]
    have hh := Bag.cs3 S7.out 3 rfl
    have f0 := hh.1; have f1 := hh.2.1; have f2 := hh.2.2; clear hh
    have hh := Bag.fs3 S7.out 3 rfl
    have z0 := hh.1; have z1 := hh.2.1; have z2 := hh.2.2; clear hh
    go_upto_region 12 with fail
    clear f0 f1 f2 z0 z1 z2
    have S8 := Lib.hid (show Sl.Sep W _ [curR W c, Q, L4.boxR g1 26 #[.string ⟨#[]⟩, .slice none 0 0, .int .i64 0], L4.boxR g2 26 #[.string y.name, .slice y.a y.xs.length y.c, .int .i64 n0], Bag.bag y.rows] from L5.put_box5 (S7.out) 3 rfl 2 (.int .i64 n0))
    clear S7
    have hh := Bag.cs3 S8.out 3 rfl
    have f0 := hh.1; have f1 := hh.2.1; have f2 := hh.2.2; clear hh
    clear f0 f1 f2
    have hh := Bag.cs3 S8.out 2 rfl
    have f0 := hh.1; have f1 := hh.2.1; have f2 := hh.2.2; clear hh
    have hh := Bag.cs3 S8.out 3 rfl
    have f3 := hh.1; have f4 := hh.2.1; have f5 := hh.2.2; clear hh
    have hh := Bag.fs3 S8.out 2 rfl
    have z0 := hh.1; have z1 := hh.2.1; have z2 := hh.2.2; clear hh
    go_wp2_with fail
    clear f0 f1 f2 f3 f4 f5 z0 z1 z2
    have S9 := Lib.hid (show Sl.Sep W _ [curR W c, Q, L4.boxR g1 26 #[.string y.name, .slice y.a y.xs.length y.c, .int .i64 n0], L4.boxR g2 26 #[.string y.name, .slice y.a y.xs.length y.c, .int .i64 n0], Bag.bag y.rows] from L5.put_box5 (L5.put_box5 (L5.put_box5 (S8.out) 2 rfl 0 (.string y.name)) 2 rfl 1 (.slice y.a y.xs.length y.c)) 2 rfl 2 (.int .i64 n0))
    clear S8
    have hh := Bag.cs3 S9.out 2 rfl
    have f0 := hh.1; have f1 := hh.2.1; have f2 := hh.2.2; clear hh
    refine bodyPost_ret (v := .agg #[.string y.name, .slice y.a y.xs.length y.c, .int .i64 n0]) (by simp [results, Try.results59, go_sem, *]) rfl ?_
    clear f0 f1 f2
    have S10 := Lib.hid (show Sl.Sep W _ [curR W c, Q, Bag.bag y.rows] from Bag.take S9.out [0, 1, 4] (by rfl) (by decide))
    clear S9
    exact ⟨⟨y.name, y.a, y.c, y.xs, n0⟩, rfl, ⟨HN.out.fit.name, HN.out.fit.len, HN.out.fit.items⟩, S10.out⟩
  by_cases h2 : x = 2
  · subst h2
    go_upto_region 8 with fail
    refine Reg.wp_region_late (fun w' => True) (fun w' => (World.cell? w' ⟨g2, 0, none⟩ = some (.string y.name) ∧ World.cell? w' ⟨g2, 1, none⟩ = some (.slice y.a y.xs.length y.c) ∧ World.cell? w' ⟨g2, 2, none⟩ = some (.int .i64 y.auto))) 10 (by kernel_rfl) trivial (Bag.cs3 (Bag.drew1 S6.out) 3 rfl) (fun hS hL => ?_)
    have S7 := Lib.hid (show Sl.Sep W _ [curR W c, Q, L4.boxR g1 26 #[.string ⟨#[]⟩, .slice none 0 0, .int .i64 0], L4.boxR g2 26 #[.string y.name, .slice y.a y.xs.length y.c, .int .i64 y.auto], Bag.bag y.rows] from Bag.drew1 S6.out)
    clear S6
    generalize World.drew _ = w5 at hS hL S7 ⊢
    refine Reg.early_op (i := 0) (v := ?_) rfl (by kernel_rfl) (by kernel_rfl) (by kernel_rfl) rfl (by kernel_rfl) (by kernel_rfl) (fun _ _ _ h => h) (by rfl) ?_ hS hL ?_
    rotate_left
    · (intro w hSw hSv; (try dsimp only at hSw); (try dsimp only at hSv); go_simp; try with_reducible rfl)
    try simp only [zp0, zp1, zp2, zp3, zp4]
    refine Reg.early_op (i := 1) (v := ?_) rfl (by kernel_rfl) (by kernel_rfl) (by kernel_rfl) rfl (by kernel_rfl) (by kernel_rfl) (fun _ _ _ h => h) (by rfl) ?_ hS hL ?_
    rotate_left
    · (intro w hSw hSv; (try dsimp only at hSw); (try dsimp only at hSv); go_simp; try with_reducible rfl)
    try simp only [zp0, zp1, zp2, zp3, zp4]
    refine Reg.early_op (i := 2) (v := ?_) rfl (by kernel_rfl) (by kernel_rfl) (by kernel_rfl) rfl (by kernel_rfl) (by kernel_rfl) (fun _ _ _ h => h) (by rfl) ?_ hS hL ?_
    rotate_left
    · (intro w hSw hSv; (try dsimp only at hSw); (try dsimp only at hSv); go_simp; try with_reducible rfl)
    try simp only [zp0, zp1, zp2, zp3, zp4]
    refine Reg.early_op (i := 4) (v := ?_) rfl (by kernel_rfl) (by kernel_rfl) (by kernel_rfl) rfl (by kernel_rfl) (by kernel_rfl) (fun _ _ _ h => h) (by rfl) ?_ hS hL ?_
    rotate_left
    · (intro w hSw hSv; (try dsimp only at hSw); (try dsimp only at hSv); go_simp; try with_reducible rfl)
    try simp only [zp0, zp1, zp2, zp3, zp4]
    refine Reg.only_op (i := 3) rfl (by kernel_rfl) (fun K hK => ?_)
    go_simp
    go_at_call 111
    refine (Sd.any_s S7.out 0 rfl).mono ?_
    rintro e w6 ⟨⟨kd, n, t⟩, rfl, hk, hS⟩
    have S8 := Lib.hid (show Sl.Sep W _ [curR W c, Q, L4.boxR g1 26 #[.string ⟨#[]⟩, .slice none 0 0, .int .i64 0], L4.boxR g2 26 #[.string y.name, .slice y.a y.xs.length y.c, .int .i64 y.auto], Bag.bag y.rows] from hS)
    clear S7
    clear hS
    try dsimp only [L4.K.v, L4.R.v, LS.v, LS.cells]
    have HK := Lib.hid hk
    clear hk
    go_wp2_with fail
    clear hL
    refine hK.out _ _ trivial (Bag.cs3 S8.out 3 rfl) (fun hS hL => ?_)
    clear hK K
    try simp only [zp0, zp1, zp2, zp3, zp4]
    refine Reg.only_op (i := 5) rfl (by kernel_rfl) (fun K hK => ?_)
    go_simp
    go_at_call 112
    refine (L5.any_s S8.out 0 rfl).mono ?_
    rintro e w7 ⟨a1, c1, l, rfl, hl, hS⟩
    have S9 := Lib.hid (show Sl.Sep W _ [curR W c, Q, L4.boxR g1 26 #[.string ⟨#[]⟩, .slice none 0 0, .int .i64 0], L4.boxR g2 26 #[.string y.name, .slice y.a y.xs.length y.c, .int .i64 y.auto], Bag.bag y.rows, Sv.ownV 107 2 a1 c1 l.length (cellsF l)] from hS)
    clear S8
    clear hS
    try dsimp only [L4.K.v, L4.R.v, LS.v, LS.cells]
    have HL := Lib.hid hl
    clear hl
    go_wp2_with fail
    clear hL
    refine hK.out _ _ trivial (Bag.cs3 S9.out 3 rfl) (fun hS hL => ?_)
    clear hK K
    try simp only [zp0, zp1, zp2, zp3, zp4]
    refine Reg.early_op (i := 6) (v := ?_) rfl (by kernel_rfl) (by kernel_rfl) (by kernel_rfl) rfl (by kernel_rfl) (by kernel_rfl) (fun _ _ _ h => h) (by rfl) ?_ hS hL ?_
    rotate_left
    · (intro w hSw hSv; (try dsimp only at hSw); (try dsimp only at hSv); go_simp; try with_reducible rfl)
    try simp only [zp0, zp1, zp2, zp3, zp4]
    refine Reg.only_op (i := 7) rfl (by kernel_rfl) (fun K hK => ?_)
    go_simp
    have S10 := Lib.hid (show Sl.Sep W _ [curR W c, Q, L4.boxR g1 26 #[.string ⟨#[]⟩, .slice none 0 0, .int .i64 0], L4.boxR g2 26 #[.string y.name, .slice y.a y.xs.length y.c, .int .i64 y.auto], Bag.bag y.rows, Sv.ownV 107 2 a1 c1 l.length (cellsF l), Sv.ownV 43 4 (some ⟨w7.heap.size, 0, none⟩) 1 1 (cellsI [⟨⟨kd, n, t⟩, a1, c1, l⟩])] from Sv.push_own S9.out ((Below.refl _ _).alloc (Nat.le_refl _) _) (OwnV.madeAt w7 43 4 1 w7.heap.size #[.int .i64 kd, .int .i64 n, .string t, .slice a1 l.length c1] rfl (Nat.le_refl _) rfl (by decide)))
    clear S9
    obtain ⟨g3, hg⟩ : ∃ g', g' = w7.heap.size := ⟨_, rfl⟩
    rw [← hg] at S10 ⊢
    clear hg
    generalize w7.alloc (.cells #[.int .i64 kd, .int .i64 n, .string t, .slice a1 l.length c1] 43) = w8 at S10 ⊢
    clear hL
    refine hK.out _ _ trivial (Bag.cs3 S10.out 3 rfl) (fun hS hL => ?_)
    clear hK K
    try simp only [zp0, zp1, zp2, zp3, zp4]
    refine Reg.only_op (i := 8) rfl (by kernel_rfl) (fun K hK => ?_)
    have S11 := Lib.hid (show Sl.Sep W _ [curR W c, Q, L4.boxR g1 26 #[.string ⟨#[]⟩, .slice none 0 0, .int .i64 0], L4.boxR g2 26 #[.string y.name, .slice y.a y.xs.length y.c, .int .i64 y.auto], Bag.bag ([rowI y.a y.c y.xs]), Sv.ownV 107 2 a1 c1 l.length (cellsF l), Sv.ownV 43 4 (some ⟨g3, 0, none⟩) 1 1 (cellsI [⟨⟨kd, n, t⟩, a1, c1, l⟩]), Bag.bag (rowsI y.xs)] from Bag.bag_split S10.out 4 (xs := [rowI y.a y.c y.xs]) (ys := rowsI y.xs) rfl)
    clear S10
    have S12 := Lib.hid (show Sl.Sep W _ [curR W c, Q, L4.boxR g1 26 #[.string ⟨#[]⟩, .slice none 0 0, .int .i64 0], L4.boxR g2 26 #[.string y.name, .slice y.a y.xs.length y.c, .int .i64 y.auto], Sv.ownV 43 4 y.a y.c y.xs.length (cellsI y.xs), Sv.ownV 107 2 a1 c1 l.length (cellsF l), Sv.ownV 43 4 (some ⟨g3, 0, none⟩) 1 1 (cellsI [⟨⟨kd, n, t⟩, a1, c1, l⟩]), Bag.bag (rowsI y.xs)] from Bag.one_of_bag S11.out 4 (r := rowI y.a y.c y.xs) rfl)
    clear S11
    refine Sv.step_append_s S12.out 4 rfl rfl _ _ 24 (by rfl) i0 (.agg #[.int .i64 0, .int .i64 0, .string ⟨#[]⟩, .slice none 0 0]) 56 Try.underlying24 HI.out.1 HI.out.2.1 HI.out.2.2.1 HI.out.2.2.2 rfl (by omega) _ (by rfl) rfl _ _ 1 _ _ (cellsI [⟨⟨kd, n, t⟩, a1, c1, l⟩]) (by rfl) rfl ((Sv.own_at S12.out 6 rfl).reads) rfl (cellsI_one _) (by unfold maxLen; omega) (by omega) ?_
    intro a4' c4' w9 hA
    have S13 := Lib.hid (show Sl.Sep W _ [curR W c, Q, L4.boxR g1 26 #[.string ⟨#[]⟩, .slice none 0 0, .int .i64 0], L4.boxR g2 26 #[.string y.name, .slice y.a y.xs.length y.c, .int .i64 y.auto], Sv.ownV 43 4 a4' c4' (y.xs.length + 1) (cellsI y.xs ++ (cellsI [⟨⟨kd, n, t⟩, a1, c1, l⟩])), Sv.ownV 107 2 a1 c1 l.length (cellsF l), Sv.ownV 43 4 (some ⟨g3, 0, none⟩) 1 1 (cellsI [⟨⟨kd, n, t⟩, a1, c1, l⟩]), Bag.bag (rowsI y.xs)] from hA)
    clear S12
    clear hA
    clear hL
    refine hK.out _ _ trivial (Bag.cs3 S13.out 3 rfl) (fun hS hL => ?_)
    clear hK K
    try simp only [zp0, zp1, zp2, zp3, zp4]
    refine Reg.early_op (i := 9) (v := ?_) rfl (by kernel_rfl) (by kernel_rfl) (by kernel_rfl) rfl (by kernel_rfl) (by kernel_rfl) (fun _ _ _ h => h) (by rfl) ?_ hS hL ?_
    rotate_left
    · (intro w hSw hSv; (try dsimp only at hSw); (try dsimp only at hSv); go_simp; try with_reducible rfl)
    try simp only [zp0, zp1, zp2, zp3, zp4]
    refine Reg.late_op (i := 10) rfl (by kernel_rfl) rfl (fun K hK => ?_)
    have hh := Bag.cs3 S13.out 3 rfl
    have f0 := hh.1; have f1 := hh.2.1; have f2 := hh.2.2; clear hh
    have hh := Bag.fs3 S13.out 3 rfl
    have z0 := hh.1; have z1 := hh.2.1; have z2 := hh.2.2; clear hh
    go_simp
    clear f0 f1 f2 z0 z1 z2
    have S14 := Lib.hid (show Sl.Sep W _ [curR W c, Q, L4.boxR g1 26 #[.string ⟨#[]⟩, .slice none 0 0, .int .i64 0], L4.boxR g2 26 #[.string y.name, .slice a4' (y.xs.length + 1) c4', .int .i64 y.auto], Sv.ownV 43 4 a4' c4' (y.xs.length + 1) (cellsI y.xs ++ (cellsI [⟨⟨kd, n, t⟩, a1, c1, l⟩])), Sv.ownV 107 2 a1 c1 l.length (cellsF l), Sv.ownV 43 4 (some ⟨g3, 0, none⟩) 1 1 (cellsI [⟨⟨kd, n, t⟩, a1, c1, l⟩]), Bag.bag (rowsI y.xs)] from L5.put_box5 (S13.out) 3 rfl 1 (.slice a4' (y.xs.length + 1) c4'))
    clear S13
    refine hK.out _ _ trivial (fun hS => ?_)
    clear hL
    clear hK K
    try simp only [zp0, zp1, zp2, zp3, zp4]
    refine Reg.anyL_done (by kernel_rfl) ?_ _
    have hh := Bag.cs3 S14.out 2 rfl
    have f0 := hh.1; have f1 := hh.2.1; have f2 := hh.2.2; clear hh
    have hh := Bag.cs3 S14.out 3 rfl
    have f3 := hh.1; have f4 := hh.2.1; have f5 := hh.2.2; clear hh
    clear f0 f1 f2 f3 f4 f5
    have S15 := Lib.hid (show Sl.Sep W _ [curR W c, Q, L4.boxR g1 26 #[.string ⟨#[]⟩, .slice none 0 0, .int .i64 0], L4.boxR g2 26 #[.string y.name, .slice a4' (y.xs.length + 1) c4', .int .i64 y.auto], Sv.ownV 43 4 a4' c4' (y.xs.length + 1) (cellsI y.xs ++ (cellsI [⟨⟨kd, n, t⟩, a1, c1, l⟩])), Sv.ownV 107 2 a1 c1 l.length (cellsF l), Bag.bag (rowsI y.xs)] from Bag.take S14.out [0, 1, 2, 3, 4, 5, 7] (by rfl) (by decide))
    clear S14
    try dsimp only
    have S16 := Lib.hid (show Sl.Sep W _ [curR W c, Q, L4.boxR g1 26 #[.string ⟨#[]⟩, .slice none 0 0, .int .i64 0], L4.boxR g2 26 #[.string y.name, .slice a4' (y.xs.length + 1) c4', .int .i64 y.auto], Bag.bag ([rowI a4' c4' (y.xs ++ [⟨⟨kd, n, t⟩, a1, c1, l⟩])]), Sv.ownV 107 2 a1 c1 l.length (cellsF l), Bag.bag (rowsI y.xs)] from Bag.bag_of_one S15.out 4 (r := rowI a4' c4' (y.xs ++ [⟨⟨kd, n, t⟩, a1, c1, l⟩])) (by show some _ = some _; unfold RowS.res rowI; dsimp only; rw [List.length_append, cellsI_append]; rfl))
    clear S15
    have S17 := Lib.hid (show Sl.Sep W _ [curR W c, Q, L4.boxR g1 26 #[.string ⟨#[]⟩, .slice none 0 0, .int .i64 0], L4.boxR g2 26 #[.string y.name, .slice a4' (y.xs.length + 1) c4', .int .i64 y.auto], Bag.bag ([rowI a4' c4' (y.xs ++ [⟨⟨kd, n, t⟩, a1, c1, l⟩])]), Bag.bag ([(LI.mk ⟨kd, n, t⟩ a1 c1 l).row]), Bag.bag (rowsI y.xs)] from Bag.bag_of_one S16.out 5 (r := (LI.mk ⟨kd, n, t⟩ a1 c1 l).row) rfl)
    clear S16
    have S18 := Lib.hid (show Sl.Sep W _ [curR W c, Q, L4.boxR g1 26 #[.string ⟨#[]⟩, .slice none 0 0, .int .i64 0], L4.boxR g2 26 #[.string y.name, .slice a4' (y.xs.length + 1) c4', .int .i64 y.auto], Bag.bag ([rowI a4' c4' (y.xs ++ [⟨⟨kd, n, t⟩, a1, c1, l⟩])]), Bag.bag ([]), Bag.bag (rowsI y.xs ++ ([(LI.mk ⟨kd, n, t⟩ a1 c1 l).row]))] from Bag.bag_join S17.out 6 5 (by decide) rfl rfl)
    clear S17
    have S19 := Lib.hid (show Sl.Sep W _ [curR W c, Q, L4.boxR g1 26 #[.string ⟨#[]⟩, .slice none 0 0, .int .i64 0], L4.boxR g2 26 #[.string y.name, .slice a4' (y.xs.length + 1) c4', .int .i64 y.auto], Bag.bag ([rowI a4' c4' (y.xs ++ [⟨⟨kd, n, t⟩, a1, c1, l⟩])] ++ (rowsI y.xs ++ ([(LI.mk ⟨kd, n, t⟩ a1 c1 l).row]))), Bag.bag ([]), Bag.bag ([])] from Bag.bag_join S18.out 4 6 (by decide) rfl rfl)
    clear S18
    have S20 := Lib.hid (show Sl.Sep W _ [curR W c, Q, L4.boxR g1 26 #[.string ⟨#[]⟩, .slice none 0 0, .int .i64 0], L4.boxR g2 26 #[.string y.name, .slice a4' (y.xs.length + 1) c4', .int .i64 y.auto], Bag.bag ([rowI a4' c4' (y.xs ++ [⟨⟨kd, n, t⟩, a1, c1, l⟩])] ++ (rowsI y.xs ++ ([(LI.mk ⟨kd, n, t⟩ a1 c1 l).row])))] from Bag.take S19.out [0, 1, 2, 3, 4] (by rfl) (by decide))
    clear S19
    have S21 := Lib.hid (show Sl.Sep W _ [curR W c, Q, L4.boxR g1 26 #[.string ⟨#[]⟩, .slice none 0 0, .int .i64 0], L4.boxR g2 26 #[.string y.name, .slice a4' (y.xs.length + 1) c4', .int .i64 y.auto], Bag.bag ((LS.mk y.name a4' c4' (y.xs ++ [⟨⟨kd, n, t⟩, a1, c1, l⟩]) y.auto).rows)] from (by have h := S20.out; rw [show (LS.mk y.name a4' c4' (y.xs ++ [⟨⟨kd, n, t⟩, a1, c1, l⟩]) y.auto).rows = [rowI a4' c4' (y.xs ++ [⟨⟨kd, n, t⟩, a1, c1, l⟩])] ++ (rowsI y.xs ++ [(LI.mk ⟨kd, n, t⟩ a1 c1 l).row]) from by unfold LS.rows; rw [rowsI_append]; rfl]; exact h))
    clear S20
    have hh := Bag.cs3 S21.out 3 rfl
    have f0 := hh.1; have f1 := hh.2.1; have f2 := hh.2.2; clear hh
    clear f0 f1 f2
    have hh := Bag.cs3 S21.out 2 rfl
    have f0 := hh.1; have f1 := hh.2.1; have f2 := hh.2.2; clear hh
    have hh := Bag.cs3 S21.out 3 rfl
    have f3 := hh.1; have f4 := hh.2.1; have f5 := hh.2.2; clear hh
    have hh := Bag.fs3 S21.out 2 rfl
    have z0 := hh.1; have z1 := hh.2.1; have z2 := hh.2.2; clear hh
    go_wp2_with fail
    clear f0 f1 f2 f3 f4 f5 z0 z1 z2
    have S22 := Lib.hid (show Sl.Sep W _ [curR W c, Q, L4.boxR g1 26 #[.string y.name, .slice a4' (y.xs.length + 1) c4', .int .i64 y.auto], L4.boxR g2 26 #[.string y.name, .slice a4' (y.xs.length + 1) c4', .int .i64 y.auto], Bag.bag ((LS.mk y.name a4' c4' (y.xs ++ [⟨⟨kd, n, t⟩, a1, c1, l⟩]) y.auto).rows)] from L5.put_box5 (L5.put_box5 (L5.put_box5 (S21.out) 2 rfl 0 (.string y.name)) 2 rfl 1 (.slice a4' (y.xs.length + 1) c4')) 2 rfl 2 (.int .i64 y.auto))
    clear S21
    have hh := Bag.cs3 S22.out 2 rfl
    have f0 := hh.1; have f1 := hh.2.1; have f2 := hh.2.2; clear hh
    refine bodyPost_ret (v := .agg #[.string y.name, .slice a4' (y.xs.length + 1) c4', .int .i64 y.auto]) (by simp [results, Try.results59, go_sem, *]) rfl ?_
    clear f0 f1 f2
    have S23 := Lib.hid (show Sl.Sep W _ [curR W c, Q, Bag.bag ((LS.mk y.name a4' c4' (y.xs ++ [⟨⟨kd, n, t⟩, a1, c1, l⟩]) y.auto).rows)] from Bag.take S22.out [0, 1, 4] (by rfl) (by decide))
    clear S22
    exact ⟨⟨y.name, a4', c4', y.xs ++ [⟨⟨kd, n, t⟩, a1, c1, l⟩], y.auto⟩, by unfold LS.v LS.cells; dsimp only; rw [List.length_append]; rfl, ⟨HN.out.fit.name, by show (conI (y.xs ++ [_])).length ≤ _; rw [conI_length, List.length_append]; show y.xs.length + 1 ≤ _; omega, fun x hx => by
          have hx' : x ∈ conI y.xs ++ [⟨⟨kd, n, t⟩, l⟩] := by have := hx; unfold LS.con at this; dsimp only at this; rw [conI_snoc] at this; exact this
          rcases List.mem_append.1 hx' with hx | hx
          · exact HN.out.fit.items x hx
          · rw [List.mem_singleton.1 hx]; exact fitI_of (by have := HK.out.2.2.2.2; omega) (HL.out.mono (by omega))⟩, S23.out⟩
  by_cases h3 : x = 3
  · subst h3
    go_wp2_with fail
    go_loopw [] (fun wr => ∃ z : LS, Hid (Nice z.con (256 + (z.xs.length : Int)) ∧ Sl.Sep W wr [curR W c, Q, L4.boxR g1 26 #[.string ⟨#[]⟩, .slice none 0 0, .int .i64 0], L4.boxR g2 26 #[.string z.name, .slice z.a z.xs.length z.c, .int .i64 z.auto], Bag.bag z.rows])) (fun wr => 16 - lenOf wr g2)
    case atStart => exact ⟨y, And.intro (HN.out.more (by omega)) S6.out⟩
    case round =>
      obtain ⟨z, hrel⟩ := hrel
      have HZ := Lib.hid hrel.out.1
      have S7 := Lib.hid hrel.out.2
      clear hrel S6
      have hlz : z.xs.length ≤ 16 := by have := (isS_iff.1 HZ.out.valid).2.2.1; simpa [LS.con] using this
      have HM := Lib.hid (lenOf_at (Bag.cell_at S7.out 3 rfl 1 rfl))
      by_cases hlt : (z.xs.length : Int) < 16
      · skip
        have hh := Bag.cs3 S7.out 3 rfl
        have f0 := hh.1; have f1 := hh.2.1; have f2 := hh.2.2; clear hh
        have HC := specIsStore_any z HZ.out.fit _ (Bag.bag_rd S7.out 4 rfl)
        rw [HZ.out.valid] at HC
        dsimp only [LS.v, LS.cells] at HC
        go_wp2_with fail
        go_at_call 17
        refine HC.mono ?_
        clear HC
        rintro e w5 ⟨rfl, hb⟩
        clear f0 f1 f2
        have S8 := Lib.hid (S7.out.keep hb)
        clear S7
        clear hb
        have hh := Bag.cs3 S8.out 3 rfl
        have f0 := hh.1; have f1 := hh.2.1; have f2 := hh.2.2; clear hh
        obtain ⟨hs1, hs2, hs3⟩ := HZ.out.step (by omega) (by show (conI z.xs).length < 16; rw [conI_length]; omega)
        have HS := Lib.hid (And.intro hs1 (And.intro hs2 hs3))
        clear hs1 hs2 hs3
        have HC := specAutoItem_any z none 0 [] HZ.out.fit (by have : 0 ≤ z.con.auto := (isS_iff.1 HZ.out.valid).2.2.2.1; have : z.con.auto = z.auto := rfl; omega) (by decide) small_nil _ (Bag.bag_rd S8.out 4 rfl) (show Reads _ _ _ (cellsF []) from Reads.nil)
        dsimp only [LS.v, LS.cells, List.length_nil] at HC
        go_wp2_with fail
        go_at_call 113
        refine HC.mono ?_
        clear HC
        rintro e w6 ⟨y', rfl, hcon, ho, hb⟩
        clear f0 f1 f2
        have S9 := Lib.hid (show Sl.Sep W _ [curR W c, Q, L4.boxR g1 26 #[.string ⟨#[]⟩, .slice none 0 0, .int .i64 0], L4.boxR g2 26 #[.string z.name, .slice z.a z.xs.length z.c, .int .i64 z.auto], Bag.bag z.rows, Bag.bag y'.rows] from Bag.push_bag S8.out hb ho)
        clear S8
        clear ho hb
        dsimp only [LS.v, LS.cells]
        have HCON := Lib.hid hcon
        clear hcon
        have hh := Bag.cs3 S9.out 3 rfl
        have f0 := hh.1; have f1 := hh.2.1; have f2 := hh.2.2; clear hh
        have hh := Bag.fs3 S9.out 3 rfl
        have z0 := hh.1; have z1 := hh.2.1; have z2 := hh.2.2; clear hh
        have S10 := Lib.hid (show Sl.Sep W _ [curR W c, Q, L4.boxR g1 26 #[.string ⟨#[]⟩, .slice none 0 0, .int .i64 0], L4.boxR g2 26 #[.string y'.name, .slice y'.a y'.xs.length y'.c, .int .i64 y'.auto], Bag.bag z.rows, Bag.bag y'.rows] from L5.put_box5 (L5.put_box5 (L5.put_box5 (S9.out) 3 rfl 0 (.string y'.name)) 3 rfl 1 (.slice y'.a y'.xs.length y'.c)) 3 rfl 2 (.int .i64 y'.auto))
        clear S9
        have S11 := Lib.hid (show Sl.Sep W _ [curR W c, Q, L4.boxR g1 26 #[.string ⟨#[]⟩, .slice none 0 0, .int .i64 0], L4.boxR g2 26 #[.string y'.name, .slice y'.a y'.xs.length y'.c, .int .i64 y'.auto], Bag.bag y'.rows] from Bag.take S10.out [0, 1, 2, 3, 5] (by rfl) (by decide))
        clear S10
        go_wp2_with fail
        go_roundw
        case rel =>
          refine ⟨y', And.intro ?_ S11.out⟩
          have h1 := HS.out.1
          have h2 := HS.out.2.1
          rw [← HCON.out] at h1 h2
          have h3 : (y'.xs.length : Int) = z.xs.length + 1 := by have : y'.con.items.length = y'.xs.length := conI_length _; have : z.con.items.length = z.xs.length := conI_length _; omega
          exact h1.more (by omega)
        case measure =>
          show 16 - lenOf _ _ < 16 - lenOf _ _
          rw [HM.out, lenOf_at (Bag.cell_at S11.out 3 rfl 1 rfl)]
          have h2 := HS.out.2.1
          rw [← HCON.out] at h2
          have : y'.con.items.length = y'.xs.length := conI_length _
          have : z.con.items.length = z.xs.length := conI_length _
          omega
      · skip
        have hh := Bag.cs3 S7.out 3 rfl
        have f0 := hh.1; have f1 := hh.2.1; have f2 := hh.2.2; clear hh
        clear f0 f1 f2
        have hh := Bag.cs3 S7.out 2 rfl
        have f0 := hh.1; have f1 := hh.2.1; have f2 := hh.2.2; clear hh
        have hh := Bag.cs3 S7.out 3 rfl
        have f3 := hh.1; have f4 := hh.2.1; have f5 := hh.2.2; clear hh
        have hh := Bag.fs3 S7.out 2 rfl
        have z0 := hh.1; have z1 := hh.2.1; have z2 := hh.2.2; clear hh
        go_wp2_with fail
        clear f0 f1 f2 f3 f4 f5 z0 z1 z2
        have S8 := Lib.hid (show Sl.Sep W _ [curR W c, Q, L4.boxR g1 26 #[.string z.name, .slice z.a z.xs.length z.c, .int .i64 z.auto], L4.boxR g2 26 #[.string z.name, .slice z.a z.xs.length z.c, .int .i64 z.auto], Bag.bag z.rows] from L5.put_box5 (L5.put_box5 (L5.put_box5 (S7.out) 2 rfl 0 (.string z.name)) 2 rfl 1 (.slice z.a z.xs.length z.c)) 2 rfl 2 (.int .i64 z.auto))
        clear S7
        have hh := Bag.cs3 S8.out 2 rfl
        have f0 := hh.1; have f1 := hh.2.1; have f2 := hh.2.2; clear hh
        refine bodyPost_ret (v := .agg #[.string z.name, .slice z.a z.xs.length z.c, .int .i64 z.auto]) (by simp [results, Try.results59, go_sem, *]) rfl ?_
        clear f0 f1 f2
        have S9 := Lib.hid (show Sl.Sep W _ [curR W c, Q, Bag.bag z.rows] from Bag.take S8.out [0, 1, 4] (by rfl) (by decide))
        clear S8
        exact ⟨z, rfl, HZ.out.fit, S9.out⟩
  have hh := Bag.cs3 S6.out 3 rfl
  have f0 := hh.1; have f1 := hh.2.1; have f2 := hh.2.2; clear hh
  clear f0 f1 f2
  have hh := Bag.cs3 S6.out 2 rfl
  have f0 := hh.1; have f1 := hh.2.1; have f2 := hh.2.2; clear hh
  have hh := Bag.cs3 S6.out 3 rfl
  have f3 := hh.1; have f4 := hh.2.1; have f5 := hh.2.2; clear hh
  have hh := Bag.fs3 S6.out 2 rfl
  have z0 := hh.1; have z1 := hh.2.1; have z2 := hh.2.2; clear hh
  go_wp2_with fail
  clear f0 f1 f2 f3 f4 f5 z0 z1 z2
  have S7 := Lib.hid (show Sl.Sep W _ [curR W c, Q, L4.boxR g1 26 #[.string y.name, .slice y.a y.xs.length y.c, .int .i64 y.auto], L4.boxR g2 26 #[.string y.name, .slice y.a y.xs.length y.c, .int .i64 y.auto], Bag.bag y.rows] from L5.put_box5 (L5.put_box5 (L5.put_box5 (S6.out) 2 rfl 0 (.string y.name)) 2 rfl 1 (.slice y.a y.xs.length y.c)) 2 rfl 2 (.int .i64 y.auto))
  clear S6
  have hh := Bag.cs3 S7.out 2 rfl
  have f0 := hh.1; have f1 := hh.2.1; have f2 := hh.2.2; clear hh
  refine bodyPost_ret (v := .agg #[.string y.name, .slice y.a y.xs.length y.c, .int .i64 y.auto]) (by simp [results, Try.results59, go_sem, *]) rfl ?_
  clear f0 f1 f2
  have S8 := Lib.hid (show Sl.Sep W _ [curR W c, Q, Bag.bag y.rows] from Bag.take S7.out [0, 1, 4] (by rfl) (by decide))
  clear S7
  exact ⟨y, rfl, HN.out.fit, S8.out⟩
end Go.Proofs.Ytmnedjhfibmcnaa.L6

/-
  The contracts of chapter 7's functions of the specification, III: CursorNext, WalkStore. Conditions: keys' texts of at most 2^40 bytes, at most 2^20 fields and items. (Written by my program gen_l7c.py.)
-/
namespace Go.Proofs.Ytmnedjhfibmcnaa.L7
set_option maxRecDepth 100000
open L4 (K isK cmpK R inR encU)
open L5 (F isR isN cellsF encR eqR Small getO getN getB)
open L6
open Go.ChangeShapes Go.WideShapes Go.ChangeAt Go.RowKit Mem Sl Ex L2 Sv Bag
set_option linter.unusedVariables false
set_option linter.unusedSimpArgs false

structure FitC (x : Cu) : Prop where
  lo : x.r.lo.text.size ≤ 281474976710656
  hi : x.r.hi.text.size ≤ 281474976710656
  at_ : x.k.text.size ≤ 281474976710656

end Go.Proofs.Ytmnedjhfibmcnaa.L7

/-
  The contracts of chapter 7's drawn arguments of the specification: l7Cursor, DrawIndexOn, DrawCursorNext, DrawItemsIn. Condition: the drawn bytes lie below 2^62. (Written by my program gen_l7s.py.)
-/
namespace Go.Proofs.Ytmnedjhfibmcnaa.L7
set_option maxRecDepth 100000
open L6
open L4 (K isK cmpK R inR encU)
open L5 (F isR isN cellsF encR eqR Small Tame)
open Sd (curR)
open Go.ChangeShapes Go.WideShapes Go.ChangeAt Go.RowKit Mem Sl Ex L2 Sv Bag
set_option linter.unusedVariables false
set_option linter.unusedSimpArgs false

set_option maxHeartbeats 8000000 in
theorem drawIndexOn_q {W w : World} {a : Option Addr} {len : Nat} (cap : Nat) (hl : len ≤ 4611686018427387904) (hby : Bytes W W.heap.size a len) (h : Sl.Sep W w []) :
    Calls Try.prog 24 #[.slice a len cap] w fun e w' => ∃ (y : LS) (s : ByteArray), e = .returned (.tuple #[y.v, .string s]) ∧ FitS y.con ∧ s.size ≤ 5 ∧ Sl.Sep W w' [bag y.rows] := by
  have S1 := Lib.hid h
  clear h
  go_enter Try.func24, Try.ntmps24
  go_upto_region 1 with fail
  have S2 := Lib.hid (show Sl.Sep W _ [L4.boxR w.heap.size 26 #[.string ⟨#[]⟩, .slice none 0 0, .int .i64 0]] from L4.push_box (S1.out) 26 #[.string ⟨#[]⟩, .slice none 0 0, .int .i64 0] (w.heap.size) (by simp))
  clear S1
  obtain ⟨g1, hg⟩ : ∃ g', g' = w.heap.size := ⟨_, rfl⟩
  rw [← hg] at S2 ⊢
  clear hg
  obtain ⟨w1, hw⟩ : ∃ u, u = (w.alloc (.cells #[.string ⟨#[]⟩, .slice none 0 0, .int .i64 0] 26)) := ⟨_, rfl⟩
  rw [← hw] at S2 ⊢
  clear hw
  go_wp2_with fail
  go_at_call 58
  refine (Sd.new_s S2.out _ _ _ hl hby).mono ?_
  rintro e w2 ⟨c, rfl, hS⟩
  have S3 := Lib.hid (show Sl.Sep W _ [L4.boxR g1 26 #[.string ⟨#[]⟩, .slice none 0 0, .int .i64 0], curR W c] from hS)
  clear S2
  clear hS
  have S4 := Lib.hid (show Sl.Sep W _ [curR W c, L4.boxR g1 26 #[.string ⟨#[]⟩, .slice none 0 0, .int .i64 0]] from Bag.take S3.out [1, 0] (by rfl) (by decide))
  clear S3
  have HC := l6Any_q (Run.packR (us := [curR W c]) (vs := [L4.boxR g1 26 #[.string ⟨#[]⟩, .slice none 0 0, .int .i64 0]]) S4.out)
  go_wp2_with fail
  go_at_call 59
  refine HC.mono ?_
  clear HC
  rintro e w3 ⟨y, rfl, hF, hS⟩
  have HF := Lib.hid hF
  clear hF
  have S5 := Lib.hid (show Sl.Sep W _ [curR W c, Bag.bag y.rows, L4.boxR g1 26 #[.string ⟨#[]⟩, .slice none 0 0, .int .i64 0]] from Run.unpackR (us := [curR W c, Bag.bag y.rows]) (vs := [L4.boxR g1 26 #[.string ⟨#[]⟩, .slice none 0 0, .int .i64 0]]) (Bag.take hS [0, 2, 1] (by rfl) (by decide)))
  clear S4
  clear hS
  dsimp only [LS.v, LS.cells]
  go_upto_region 3 with fail
  have S6 := Lib.hid (show Sl.Sep W _ [curR W c, Bag.bag y.rows, L4.boxR g1 26 #[.string ⟨#[]⟩, .slice none 0 0, .int .i64 0], L4.boxR w3.heap.size 26 #[.string y.name, .slice y.a y.xs.length y.c, .int .i64 y.auto]] from L4.push_box S5.out 26 #[.string y.name, .slice y.a y.xs.length y.c, .int .i64 y.auto] w3.heap.size rfl)
  clear S5
  obtain ⟨g2, hg⟩ : ∃ g', g' = w3.heap.size := ⟨_, rfl⟩
  rw [← hg] at S6 ⊢
  clear hg
  generalize w3.alloc (.cells #[.string y.name, .slice y.a y.xs.length y.c, .int .i64 y.auto] 26) = w4 at S6 ⊢
  refine wp_region_held_drew (S := (fun w' => (World.cell? w' ⟨g2, 0, none⟩ = some (.string y.name) ∧ World.cell? w' ⟨g2, 1, none⟩ = some (.slice y.a y.xs.length y.c) ∧ World.cell? w' ⟨g2, 2, none⟩ = some (.int .i64 y.auto)))) (by kernel_rfl) (Bag.cs3 (Bag.drew1 S6.out) 3 rfl) (fun hS => ?_)
  have S7 := Lib.hid (show Sl.Sep W _ [curR W c, Bag.bag y.rows, L4.boxR g1 26 #[.string ⟨#[]⟩, .slice none 0 0, .int .i64 0], L4.boxR g2 26 #[.string y.name, .slice y.a y.xs.length y.c, .int .i64 y.auto]] from Bag.drew1 S6.out)
  clear S6
  generalize World.drew _ = w5 at hS S7 ⊢
  refine tk 0 rfl ?_
  try simp only [zp0, zp1, zp2, zp3, zp4]
  refine tk 1 rfl ?_
  try simp only [zp0, zp1, zp2, zp3, zp4]
  refine Reg.one_op (i := 2) rfl (by kernel_rfl) (fun K hK => ?_)
  go_simp
  go_at_call 80
  refine (L5.name_s S7.out 0 rfl).mono ?_
  rintro e w6 ⟨s, rfl, hs, hS⟩
  have S8 := Lib.hid (show Sl.Sep W _ [curR W c, Bag.bag y.rows, L4.boxR g1 26 #[.string ⟨#[]⟩, .slice none 0 0, .int .i64 0], L4.boxR g2 26 #[.string y.name, .slice y.a y.xs.length y.c, .int .i64 y.auto]] from hS)
  clear S7
  clear hS
  try dsimp only [L4.K.v, L4.R.v]
  have HS0 := Lib.hid hs
  clear hs
  go_wp2_with fail
  refine hK.out _ _ (Bag.cs3 S8.out 3 rfl) (fun hS => ?_)
  clear hK K
  try simp only [zp0, zp1, zp2, zp3, zp4]
  refine Reg.one_op (i := 3) rfl (by kernel_rfl) (fun K hK => ?_)
  have hh := Bag.cs3 S8.out 2 rfl
  have f0 := hh.1; have f1 := hh.2.1; have f2 := hh.2.2; clear hh
  have hh := Bag.fs3 S8.out 2 rfl
  have z0 := hh.1; have z1 := hh.2.1; have z2 := hh.2.2; clear hh
  go_simp
  clear f0 f1 f2 z0 z1 z2
  have S9 := Lib.hid (show Sl.Sep W _ [curR W c, Bag.bag y.rows, L4.boxR g1 26 #[.string y.name, .slice y.a y.xs.length y.c, .int .i64 y.auto], L4.boxR g2 26 #[.string y.name, .slice y.a y.xs.length y.c, .int .i64 y.auto]] from L5.put_box5 (L5.put_box5 (L5.put_box5 (S8.out) 2 rfl 0 (.string y.name)) 2 rfl 1 (.slice y.a y.xs.length y.c)) 2 rfl 2 (.int .i64 y.auto))
  clear S8
  refine hK.out _ _ (Bag.cs3 S9.out 3 rfl) (fun hS => ?_)
  clear hK K
  try simp only [zp0, zp1, zp2, zp3, zp4]
  refine tk 4 rfl ?_
  try simp only [zp0, zp1, zp2, zp3, zp4]
  refine wpAnyH_done (by kernel_rfl) ?_ _
  have hh := Bag.cs3 S9.out 2 rfl
  have f0 := hh.1; have f1 := hh.2.1; have f2 := hh.2.2; clear hh
  have hh := Bag.cs3 S9.out 3 rfl
  have f3 := hh.1; have f4 := hh.2.1; have f5 := hh.2.2; clear hh
  clear f0 f1 f2 f3 f4 f5
  have hh := Bag.cs3 S9.out 2 rfl
  have f0 := hh.1; have f1 := hh.2.1; have f2 := hh.2.2; clear hh
  go_wp2_with fail
  refine bodyPost_ret (v := .tuple #[.agg #[.string y.name, .slice y.a y.xs.length y.c, .int .i64 y.auto], .string s]) (by simp [results, Try.results24, go_sem, *]) rfl ?_
  clear f0 f1 f2
  have S10 := Lib.hid (show Sl.Sep W _ [Bag.bag y.rows] from Bag.take S9.out [1] (by rfl) (by decide))
  clear S9
  exact ⟨y, s, rfl, HF.out, HS0.out, S10.out⟩
end Go.Proofs.Ytmnedjhfibmcnaa.L7

/-
  The contract of chapter 5's copyRecord of the program. Condition: at most 2^40 fields. (Written by my program gen_l5cp.py.)
-/
namespace Go.Proofs.Ytmnedjhfibmcnaa.L5
set_option maxRecDepth 100000
open L4 (boxR push_box box_at)
open Go.ChangeShapes Go.WideShapes Go.ChangeAt Go.RowKit Mem Sl Ex L2 Sv Bag Run
set_option linter.unusedVariables false
set_option linter.unusedSimpArgs false

set_option maxHeartbeats 1000000 in
theorem copyRecord_any (a : Option Addr) (c : Nat) (l : List F) (hl : l.length ≤ 1099511627776) (w : World) (hr : Reads w w.heap.size a (cellsF l)) :
    Calls Try.prog 130 #[.agg #[.slice a l.length c]] w fun e w' => ∃ a' c', e = .returned (.agg #[.slice a' l.length c']) ∧ OwnV w' w.heap.size 107 2 a' c' l.length (cellsF l) ∧ Below w.heap.size w w' := by
  obtain ⟨i0, hi, hz0, hz1, hz2⟩ := fieldInfo
  obtain ⟨n, hn⟩ : ∃ n, n = l.length := ⟨_, rfl⟩
  rw [← hn] at hl ⊢
  have HR := Lib.hid (fun w' (h : Below w.heap.size w w') => hr.below h)
  have HC := Lib.hid (show (cellsF l).length = Nat.min n n * 2 by rw [cellsF_length, hn, show Nat.min l.length l.length = l.length from Nat.min_self _])
  have HM := Lib.hid (show (madeCells (Value.agg #[.string ⟨#[]⟩, .int .i64 0]).cells (n * 2)).toList.length = (cellsF l).length by rw [cellsF_length, ← hn]; simp [madeCells])
  have HI := Lib.hid (And.intro hi (And.intro hz0 (And.intro hz1 hz2)))
  have hl' : (n : Int) ≤ 1099511627776 := by omega
  clear hn hr hi hz0 hz1 hz2
  have S1 := Lib.hid (show Sl.Sep w ((w.alloc (.cells #[.slice a n c] 41)).alloc (.cells #[.slice none 0 0] 41)) [L4.boxR w.heap.size 41 #[.slice a n c], L4.boxR (w.heap.size + 1) 41 #[.slice none 0 0]] from L4.push_box (L4.push_box (Sl.Sep.start w) 41 #[.slice a n c] (w.heap.size) (by simp)) 41 #[.slice none 0 0] (w.heap.size + 1) (by simp))
  obtain ⟨wa, hwa⟩ : ∃ u, u = ((w.alloc (.cells #[.slice a n c] 41)).alloc (.cells #[.slice none 0 0] 41)) := ⟨_, rfl⟩
  rw [← hwa] at S1
  go_enter Try.func130, Try.ntmps130
  go_upto_region 1 with fail
  rw [← hwa]
  clear hwa
  have f0 : World.cell? _ ⟨w.heap.size, 0, none⟩ = some (.slice a n c) := Bag.cell_at S1.out 0 rfl 0 rfl
  have f1 : World.cell? _ ⟨w.heap.size + 1, 0, none⟩ = some (.slice none 0 0) := Bag.cell_at S1.out 1 rfl 0 rfl
  go_upto_region 2 with (at_make; refine wpList_make_s S1.out rfl _ _ 39 rfl 107 i0 (.agg #[.string ⟨#[]⟩, .int .i64 0]) 2 Try.underlying39 HI.out.1 HI.out.2.1 HI.out.2.2.1 _ _ n rfl rfl (by rw [HI.out.2.2.2]; omega) (by unfold maxLen; omega) ?_; intro w1 S')
  clear f0 f1
  obtain ⟨g1, hg⟩ : ∃ g', g' = wa.heap.size := ⟨_, rfl⟩
  rw [← hg] at S' ⊢
  clear hg
  have S2 := Lib.hid (show Sl.Sep w _ [L4.boxR w.heap.size 41 #[.slice a n c], L4.boxR (w.heap.size + 1) 41 #[.slice none 0 0], Sv.ownV 107 2 (some ⟨g1, 0, none⟩) n n ((madeCells (Value.agg #[.string ⟨#[]⟩, .int .i64 0]).cells (n * 2)).toList)] from S')
  clear S1
  clear S'
  have f0 : World.cell? _ ⟨w.heap.size, 0, none⟩ = some (.slice a n c) := Bag.cell_at S2.out 0 rfl 0 rfl
  have f1 : World.cell? _ ⟨w.heap.size + 1, 0, none⟩ = some (.slice none 0 0) := Bag.cell_at S2.out 1 rfl 0 rfl
  have hcp := fun ty => run_copy_s (P := Try.prog) S2.out 2 rfl 39 39 ty i0 Try.underlying39 HI.out.1 HI.out.2.2.1 0 n n n c a (cellsF l) HC.out w.heap.size (HR.out _ S2.out.old) (by rw [HM.out]; omega) (cellsF_one l)
  obtain ⟨w2, hw⟩ : ∃ u, u = World.setCells w1 g1 0 (cellsF l) := ⟨_, rfl⟩
  rw [← hw] at hcp
  have HW := Lib.hid hw
  clear hw
  go_upto_region 3 with fail
  clear f0 f1
  have S3 := Lib.hid (show Sl.Sep w _ [L4.boxR w.heap.size 41 #[.slice a n c], L4.boxR (w.heap.size + 1) 41 #[.slice none 0 0], Sv.ownV 107 2 (some ⟨g1, 0, none⟩) n n (cellsF l)] from (by have h := Run.put_run S2.out 2 rfl 0 (cellsF l) (by rw [HM.out]; omega); rw [← HW.out, over_all _ _ HM.out] at h; exact h))
  clear S2
  clear hcp HW
  have f0 : World.cell? _ ⟨w.heap.size, 0, none⟩ = some (.slice a n c) := Bag.cell_at S3.out 0 rfl 0 rfl
  have f1 : World.cell? _ ⟨w.heap.size + 1, 0, none⟩ = some (.slice none 0 0) := Bag.cell_at S3.out 1 rfl 0 rfl
  have z0 := Bag.free_at S3.out 1 rfl 0
  go_wp2_with fail
  clear f0 f1 z0
  have S4 := Lib.hid (show Sl.Sep w _ [L4.boxR w.heap.size 41 #[.slice a n c], L4.boxR (w.heap.size + 1) 41 #[.slice (some ⟨g1, 0, none⟩) n n], Sv.ownV 107 2 (some ⟨g1, 0, none⟩) n n (cellsF l)] from L5.put_box5 (S3.out) 1 rfl 0 (.slice (some ⟨g1, 0, none⟩) n n))
  clear S3
  have f0 : World.cell? _ ⟨w.heap.size + 1, 0, none⟩ = some (.slice (some ⟨g1, 0, none⟩) n n) := Bag.cell_at S4.out 1 rfl 0 rfl
  refine bodyPost_ret (v := .agg #[.slice (some ⟨g1, 0, none⟩) n n]) (by simp [results, Try.results130, go_sem, *]) rfl ?_
  exact ⟨_, _, rfl, Sv.own_from S4.out 2 rfl, S4.out.old⟩
end Go.Proofs.Ytmnedjhfibmcnaa.L5

/-
  The contracts of chapter 6's functions of the program: copyItem, copyStore. Conditions: keys' texts of at most 2^40 bytes, at most 2^20 fields and items. (Written by my program gen_l6g.py.)
-/
namespace Go.Proofs.Ytmnedjhfibmcnaa.L6
set_option maxRecDepth 100000
open L4 (K isK cmpK R inR encU)
open L5 (F isR isN cellsF encR eqR Small)
open Go.ChangeShapes Go.WideShapes Go.ChangeAt Go.RowKit Mem Sl Ex L2 Sv Bag
set_option linter.unusedVariables false
set_option linter.unusedSimpArgs false

set_option maxHeartbeats 2000000 in
theorem copyItem_any (kd n : Int) (s : ByteArray) (a : Option Addr) (c : Nat) (l : List F) (hl : l.length ≤ 1048576) (w : World) (hr : Reads w w.heap.size a (cellsF l)) :
    Calls Try.prog 94 #[.agg #[.int .i64 kd, .int .i64 n, .string s, .slice a l.length c]] w (GaveI w ⟨⟨kd, n, s⟩, l⟩) := by
  have HC := Lib.hid (fun w' (h : Below w.heap.size w w') => L5.copyRecord_any a c l (by have := hl; omega) w' ((hr.below h).more h.size))
  obtain ⟨N, hN⟩ : ∃ n, n = l.length := ⟨_, rfl⟩
  rw [← hN] at HC ⊢
  have HN := Lib.hid hN
  clear hN hr hl
  have S1 := Lib.hid (show Sl.Sep w ((w.alloc (.cells #[.int .i64 kd, .int .i64 n, .string s, .slice a N c] 43)).alloc (.cells #[.int .i64 0, .int .i64 0, .string ⟨#[]⟩, .slice none 0 0] 43)) [L4.boxR w.heap.size 43 #[.int .i64 kd, .int .i64 n, .string s, .slice a N c], L4.boxR (w.heap.size + 1) 43 #[.int .i64 0, .int .i64 0, .string ⟨#[]⟩, .slice none 0 0]] from L4.push_box (L4.push_box (Sl.Sep.start w) 43 #[.int .i64 kd, .int .i64 n, .string s, .slice a N c] (w.heap.size) (by simp)) 43 #[.int .i64 0, .int .i64 0, .string ⟨#[]⟩, .slice none 0 0] (w.heap.size + 1) (by simp))
  obtain ⟨wa, hwa⟩ : ∃ u, u = ((w.alloc (.cells #[.int .i64 kd, .int .i64 n, .string s, .slice a N c] 43)).alloc (.cells #[.int .i64 0, .int .i64 0, .string ⟨#[]⟩, .slice none 0 0] 43)) := ⟨_, rfl⟩
  rw [← hwa] at S1
  go_enter Try.func94, Try.ntmps94
  go_upto_region 1 with fail
  rw [← hwa]
  clear hwa
  go_upto_region 1 with fail
  refine wp_region_held_drew (S := (fun w' => (World.cell? w' ⟨w.heap.size, 0, none⟩ = some (.int .i64 kd) ∧ World.cell? w' ⟨w.heap.size, 1, none⟩ = some (.int .i64 n) ∧ World.cell? w' ⟨w.heap.size, 2, none⟩ = some (.string s) ∧ World.cell? w' ⟨w.heap.size, 3, none⟩ = some (.slice a N c)))) (by kernel_rfl) (Bag.cs4 (Bag.drew1 S1.out) 0 rfl) (fun hS => ?_)
  have S2 := Lib.hid (show Sl.Sep w _ [L4.boxR w.heap.size 43 #[.int .i64 kd, .int .i64 n, .string s, .slice a N c], L4.boxR (w.heap.size + 1) 43 #[.int .i64 0, .int .i64 0, .string ⟨#[]⟩, .slice none 0 0]] from Bag.drew1 S1.out)
  clear S1
  generalize World.drew _ = w1 at hS S2 ⊢
  refine tk 0 rfl ?_
  try simp only [zp0, zp1, zp2, zp3, zp4]
  refine tk 1 rfl ?_
  try simp only [zp0, zp1, zp2, zp3, zp4]
  refine tk 2 rfl ?_
  try simp only [zp0, zp1, zp2, zp3, zp4]
  refine tk 3 rfl ?_
  try simp only [zp0, zp1, zp2, zp3, zp4]
  refine Reg.one_op (i := 4) rfl (by kernel_rfl) (fun K hK => ?_)
  go_simp
  go_at_call 130
  refine (HC.out _ S2.out.old).mono ?_
  rintro e w2 ⟨a1, c1, rfl, ho, hb⟩
  have S3 := Lib.hid (show Sl.Sep w _ [L4.boxR w.heap.size 43 #[.int .i64 kd, .int .i64 n, .string s, .slice a N c], L4.boxR (w.heap.size + 1) 43 #[.int .i64 0, .int .i64 0, .string ⟨#[]⟩, .slice none 0 0], Sv.ownV 107 2 a1 c1 N (cellsF l)] from Sv.push_own S2.out hb ho)
  clear S2
  clear hb ho
  go_wp2_with fail
  refine hK.out _ _ (Bag.cs4 S3.out 0 rfl) (fun hS => ?_)
  clear hK K
  try simp only [zp0, zp1, zp2, zp3, zp4]
  refine tk 5 rfl ?_
  try simp only [zp0, zp1, zp2, zp3, zp4]
  refine Reg.one_op (i := 6) rfl (by kernel_rfl) (fun K hK => ?_)
  have hh := Bag.cs4 S3.out 1 rfl
  have f0 := hh.1; have f1 := hh.2.1; have f2 := hh.2.2.1; have f3 := hh.2.2.2; clear hh
  have hh := Bag.fs4 S3.out 1 rfl
  have z0 := hh.1; have z1 := hh.2.1; have z2 := hh.2.2.1; have z3 := hh.2.2.2; clear hh
  go_simp
  clear f0 f1 f2 f3 z0 z1 z2 z3
  have S4 := Lib.hid (show Sl.Sep w _ [L4.boxR w.heap.size 43 #[.int .i64 kd, .int .i64 n, .string s, .slice a N c], L4.boxR (w.heap.size + 1) 43 #[.int .i64 kd, .int .i64 n, .string s, .slice a1 N c1], Sv.ownV 107 2 a1 c1 N (cellsF l)] from L5.put_box5 (L5.put_box5 (L5.put_box5 (L5.put_box5 (S3.out) 1 rfl 0 (.int .i64 kd)) 1 rfl 1 (.int .i64 n)) 1 rfl 2 (.string s)) 1 rfl 3 (.slice a1 N c1))
  clear S3
  refine hK.out _ _ (Bag.cs4 S4.out 0 rfl) (fun hS => ?_)
  clear hK K
  try simp only [zp0, zp1, zp2, zp3, zp4]
  refine wpAnyH_done (by kernel_rfl) ?_ _
  have hh := Bag.cs4 S4.out 0 rfl
  have f0 := hh.1; have f1 := hh.2.1; have f2 := hh.2.2.1; have f3 := hh.2.2.2; clear hh
  have hh := Bag.cs4 S4.out 1 rfl
  have f4 := hh.1; have f5 := hh.2.1; have f6 := hh.2.2.1; have f7 := hh.2.2.2; clear hh
  go_wp2_with fail
  refine bodyPost_ret (v := .agg #[.int .i64 kd, .int .i64 n, .string s, .slice a1 N c1]) (by simp [results, Try.results94, go_sem, *]) rfl ?_
  have hb := Bag.bag_from (Bag.bag_of_one S4.out 2 (r := (LI.mk ⟨kd, n, s⟩ a1 c1 l).row) (by show some _ = some _; rw [HN.out]; rfl)) 2 rfl
  exact ⟨a1, c1, by rw [HN.out], hb, S4.out.old⟩
end Go.Proofs.Ytmnedjhfibmcnaa.L6

/-
  The contracts of the library's comparisons and of CompareBytes of the program: cmp.Compare, strings.Compare, bytes.Compare, CompareBytes. No condition.
-/
namespace Go.Proofs.Ytmnedjhfibmcnaa.L4
set_option maxRecDepth 100000
open Go.Op (bytesLess)
open Go.ChangeShapes Go.WideShapes Go.ChangeAt Go.RowKit Mem Sl Ex L2
set_option linter.unusedVariables false

theorem cmpB_eq : ∀ (x y : List UInt8), Lib.compareBytes x y = cmpL x y
  | [], [] => by simp [Lib.compareBytes, cmpL, sgn, bytesLess]
  | [], _ :: _ => by simp [Lib.compareBytes, cmpL, sgn, bytesLess]
  | _ :: _, [] => by simp [Lib.compareBytes, cmpL, sgn, bytesLess]
  | a :: x, b :: y => by
    rw [cmpL_cons, ← cmpB_eq x y, show Lib.compareBytes (a :: x) (b :: y) = if a < b then -1 else if b < a then 1 else Lib.compareBytes x y by simp only [Lib.compareBytes]]
    by_cases e : a = b
    · subst e
      rw [if_pos rfl, if_neg (UInt8.lt_irrefl _), if_neg (UInt8.lt_irrefl _)]
    · rw [if_neg e]
      by_cases h : a < b
      · rw [if_pos h, cmpL_less (by simp [bytesLess, h])]
      · have h2 : b < a := UInt8.lt_of_le_of_ne (UInt8.not_lt.1 h) (Ne.symm e)
        rw [if_neg h, if_pos h2, cmpL_more (by simp [bytesLess, h2])]

theorem run_loadBytesL {P : Program} (w : World) : ∀ (l : List Int) (a : Addr) (acc : ByteArray), (∀ j (hj : j < l.length), w.cell? (a.add j) = some (.int .u8 l[j])) →
    (Extern.Bytes.loadBytes a l.length acc).run P w = .ok ⟨acc.data ++ (toU l).toArray⟩ w
  | [], a, acc, _ => by simp [Extern.Bytes.loadBytes, toU]
  | x :: l, a, acc, h => by
    have h0 : w.cell? a = some (.int .u8 x) := by
      have := h 0 (Nat.succ_pos _)
      simpa [Addr.add] using this
    have ih := run_loadBytesL (P := P) w l (a.add 1) (acc.push x.toNat.toUInt8) (fun j hj => by
      have := h (j + 1) (Nat.succ_lt_succ hj)
      have e : (a.add 1).add j = a.add (j + 1) := by
        unfold Addr.add
        by_cases hj : j = 0
        · subst hj; simp
        · simp [hj]; omega
      rw [e]; simpa using this)
    simp only [List.length_cons, Extern.Bytes.loadBytes, Sem.run_bind, run_load, h0, Result.andThen]
    rw [ih]
    congr 1
    apply ByteArray.ext
    simp [ByteArray.push, toU, UInt8.ofNat]
theorem run_bytesOf {P : Program} (w : World) (B : Nat) (a : Option Addr) (c : Nat) (l : List Int) (hr : Reads w B a (ints .u8 l)) :
    (Extern.Bytes.bytesOf (.slice a l.length c)).run P w = .ok ⟨(toU l).toArray⟩ w := by
  rcases a with _ | ad
  · have hl : l = [] := by
      rcases l with _ | ⟨x, l⟩
      · rfl
      · obtain ⟨ad, h, _⟩ := hr 0 (by simp [ints])
        cases h
    subst hl
    rfl
  · have := run_loadBytesL (P := P) w l ad .empty (fun j hj => by
      obtain ⟨ad', h, _, hc⟩ := hr j (by simpa using hj)
      injection h with h
      subst h
      rw [hc, ints_get .u8 l j hj])
    unfold Extern.Bytes.bytesOf
    rw [this]
    simp [ByteArray.empty, ByteArray.emptyWithCapacity]
    rfl
theorem run_compareBytes {P : Program} (w : World) (B : Nat) (a a2 : Option Addr) (c c2 : Nat) (l m : List Int) (hr : Reads w B a (ints .u8 l)) (hr2 : Reads w B a2 (ints .u8 m)) :
    (Extern.BytealgCompare.compare #[.slice a l.length c, .slice a2 m.length c2]).run P w = .ok (.int .i64 (cmpL (toU l) (toU m))) w := by
  change Sem.run P (do pure (goInt (Extern.BytealgCompare.cmp (← Extern.Bytes.bytesOf (.slice a l.length c)) (← Extern.Bytes.bytesOf (.slice a2 m.length c2))))) w = _
  simp only [Sem.run_bind, run_bytesOf w B a c l hr, run_bytesOf w B a2 c2 m hr2, Sem.run_pure, Result.andThen]
  rw [Lib.cmp_eq, cmpB_eq]
  rfl

theorem bytesCompare_any (a a2 : Option Addr) (c c2 : Nat) (l m : List Int) (w : World) (B : Nat) (hr : Reads w B a (ints .u8 l)) (hr2 : Reads w B a2 (ints .u8 m)) :
    Calls Try.prog 147 #[.slice a l.length c, .slice a2 m.length c2] w fun e w' => e = .returned (.int .i64 (cmpL (toU l) (toU m))) ∧ w = w' := by
  have K := run_compareBytes (P := Try.prog) w B a a2 c c2 l m hr hr2
  obtain ⟨n1, hn1⟩ : ∃ n, n = l.length := ⟨_, rfl⟩
  obtain ⟨n2, hn2⟩ : ∃ n, n = m.length := ⟨_, rfl⟩
  obtain ⟨v, hv⟩ : ∃ v, v = cmpL (toU l) (toU m) := ⟨_, rfl⟩
  rw [← hn1, ← hn2, ← hv] at K
  rw [← hn1, ← hn2, ← hv]
  clear hn1 hn2 hv hr hr2
  go_enter Try.func147, Try.ntmps147
  go_wp2
  rw [run_callFunc_extern Try.func155 (by kernel_rfl) (by kernel_rfl) (by kernel_rfl) (e := Extern.BytealgCompare.compare) (by kernel_rfl), K]
  simp only [Result.andThen]
  rw [Oper.upon_value]
  go_wp2
  go_ret
  exact ⟨rfl, rfl⟩
theorem implCompareBytes_any (a a2 : Option Addr) (c c2 : Nat) (l m : List Int) (w : World) (B : Nat) (hr : Reads w B a (ints .u8 l)) (hr2 : Reads w B a2 (ints .u8 m)) :
    Calls Try.prog 126 #[.slice a l.length c, .slice a2 m.length c2] w fun e w' => e = .returned (.int .i64 (cmpL (toU l) (toU m))) ∧ Drew w w' := by
  have H := Lib.hid (fun w hr hr2 => bytesCompare_any a a2 c c2 l m w B hr hr2)
  go_enter Try.func126, Try.ntmps126
  go_wp2_with (go_at_call 147; with_reducible refine (H.out _ hr hr2).mono ?_; rintro e w1 ⟨rfl, rfl⟩)
  go_ret
  exact ⟨rfl, Drew.refl w⟩

theorem compareString_any (a b : ByteArray) (w : World) :
    Calls Try.prog 148 #[.string a, .string b] w fun e w' => e = .returned (.int .i64 (cmpL a.data.toList b.data.toList)) ∧ w = w' := by
  have K := Lib.run_compareString (P := Try.prog) a b w
  rw [cmpB_eq] at K
  obtain ⟨v, hv⟩ : ∃ v, v = cmpL a.data.toList b.data.toList := ⟨_, rfl⟩
  rw [← hv] at K ⊢
  clear hv
  go_enter Try.func148, Try.ntmps148
  go_wp2
  rw [run_callFunc_extern Try.func156 (by kernel_rfl) (by kernel_rfl) (by kernel_rfl) (e := Extern.BytealgCompare.compare) (by kernel_rfl), K]
  simp only [Result.andThen]
  rw [Oper.upon_value]
  go_wp2
  go_ret
  exact ⟨rfl, rfl⟩
theorem stringsCompare_any (a b : ByteArray) (w : World) :
    Calls Try.prog 127 #[.string a, .string b] w fun e w' => e = .returned (.int .i64 (cmpL a.data.toList b.data.toList)) ∧ w = w' := by
  have H := Lib.hid (fun w => compareString_any a b w)
  go_enter Try.func127, Try.ntmps127
  go_wp2_with (go_at_call 148; with_reducible refine (H.out _).mono ?_; rintro e w1 ⟨rfl, rfl⟩)
  go_ret
  exact ⟨rfl, rfl⟩
theorem isNaN_any (x : Int) (w : World) :
    Calls Try.prog 125 #[.int .i64 x] w fun e w' => e = .returned (.bool false) ∧ w = w' := by
  go_enter Try.func125, Try.ntmps125
  go_wp2
  go_ret
  exact ⟨by simp, rfl⟩
theorem cmpInt_any (x y : Int) (hn : ¬ x = y) (w : World) :
    Calls Try.prog 86 #[.int .i64 x, .int .i64 y] w fun e w' => e = .returned (.int .i64 (sgn (decide (x < y)) true)) ∧ w = w' := by
  have H := Lib.hid isNaN_any
  rcases (show x < y ∨ (¬ x < y ∧ x > y) by omega) with h | ⟨h, h2⟩
  all_goals
    go_enter Try.func86, Try.ntmps86
    go_wp2_with (go_at_call 125; refine (H.out _ _).mono ?_; rintro e w1 ⟨rfl, rfl⟩)
    go_ret
    exact ⟨by simp [h, sgn], rfl⟩
end Go.Proofs.Ytmnedjhfibmcnaa.L4

/-
  The contracts of chapter 4's tests of the program: isLetter, isDigit, isKeyNumber, isKeyText, IsKey. Conditions: a text of at most 2^48 bytes.
-/
namespace Go.Proofs.Ytmnedjhfibmcnaa.L4
set_option maxRecDepth 100000
open Go.ChangeShapes Go.WideShapes Go.ChangeAt Go.RowKit Mem Sl Ex L2
set_option linter.unusedVariables false

def isDig (c : UInt8) : Bool := decide (48 ≤ c.toNat) && decide (c.toNat ≤ 57)
theorem chr_eq (c : UInt8) : chr c = (isLet c || isDig c) := rfl

theorem isDigit_any (c : UInt8) (w : World) :
    Calls Try.prog 154 #[.int .u8 c.toNat] w fun e w' => e = .returned (.bool (isDig c)) ∧ w = w' := by
  by_cases h1 : (48 : Int) ≤ c.toNat <;> by_cases h2 : (c.toNat : Int) ≤ 57 <;>
    (go_enter Try.func154, Try.ntmps154
     go_wp2
     go_ret
     exact ⟨L1.ret_bool (by unfold isDig; have h1' := h1; have h2' := h2; simp only [Bool.false_eq, Bool.true_eq, Bool.and_eq_false_iff, Bool.and_eq_true, decide_eq_false_iff_not, decide_eq_true_eq]; omega), rfl⟩)
theorem isKeyNumber_any (n : Int) (w : World) :
    Calls Try.prog 142 #[.int .i64 n] w fun e w' => e = .returned (.bool (L1.inB n (-1000000000000) 1000000000000)) ∧ w = w' := by
  have H1 := Lib.hid (fun w => L1.inRange_any n (-1000000000000) 1000000000000 w)
  obtain ⟨b, hb⟩ : ∃ b, L1.inB n (-1000000000000) 1000000000000 = b := ⟨_, rfl⟩
  rw [hb] at H1 ⊢
  go_enter Try.func142, Try.ntmps142
  go_wp2_with (go_at_call 117; with_reducible refine (H1.out _).mono ?_; rintro e w1 ⟨rfl, rfl⟩)
  go_ret
  exact ⟨rfl, rfl⟩
theorem isKeyText_any (s : ByteArray) (hs : s.size ≤ 281474976710656) (w : World) :
    Calls Try.prog 143 #[.string s] w fun e w' => e = .returned (.bool (isT s.data.toList)) ∧ w = w' := by
  have hsz : s.data.toList.length = s.size := by rw [Array.length_toList]; rfl
  have HZ := Lib.hid hsz
  clear hsz
  by_cases h12 : (s.size : Int) ≤ 12
  · go_enter Try.func143, Try.ntmps143
    go_wp2
    go_loop [9] (fun i => ∃ k : Nat, k ≤ s.size ∧ i = .int .i64 k ∧ Hid (∀ j (hj : j < s.data.toList.length), j < k → chr s.data.toList[j] = true)) (fun i => s.size - (intOf i).toNat)
    case atStart => exact ⟨0, Nat.zero_le _, rfl, fun j hj h => by omega⟩
    case round =>
      obtain ⟨k, hk, rfl, hrel⟩ := hrel
      by_cases hlt : k < s.size
      · have hb : s.data.toList[k]? = some s[k] := by
          rw [List.getElem?_eq_getElem (by rw [HZ.out]; exact hlt)]
          rfl
        have HB := Lib.hid hb
        clear hb
        have HC := Lib.hid (chr_eq s[k])
        have H1 := Lib.hid (fun w => isLetter_any s[k] w)
        have H2 := Lib.hid (fun w => isDigit_any s[k] w)
        obtain ⟨bl, hbl⟩ : ∃ b, isLet s[k] = b := ⟨_, rfl⟩
        obtain ⟨bd, hbd⟩ : ∃ b, isDig s[k] = b := ⟨_, rfl⟩
        rw [hbl] at H1 HC
        rw [hbd] at H2 HC
        clear hbl hbd
        cases bl
        all_goals
          cases bd
          all_goals
            go_wp2_with (first
              | (go_at_call 141; refine (H1.out _).mono ?_; rintro e w1 ⟨rfl, rfl⟩)
              | (go_at_call 154; refine (H2.out _).mono ?_; rintro e w1 ⟨rfl, rfl⟩))
            first
            | (go_round
               case rel => exact ⟨k + 1, by omega, by go_num, fun j hj h => by
                  by_cases e : j < k
                  · exact hrel.out j hj e
                  · obtain rfl : j = k := by omega
                    have := HB.out
                    rw [List.getElem?_eq_getElem hj] at this
                    rw [Option.some.inj this]
                    exact HC.out⟩
               case measure => simp [intOf]; omega)
            | (go_ret
               exact ⟨by rw [isT_no k _ HB.out HC.out]; rfl, rfl⟩)
      · go_wp2
        go_ret
        obtain rfl : k = s.size := by omega
        have e1 := isT_all (fun j hj => hrel.out j hj (by rw [HZ.out] at hj; exact hj))
        rw [HZ.out] at e1
        refine ⟨?_, rfl⟩
        rw [e1, decide_eq_true (show s.size ≤ 12 by omega)]
        rfl
  · go_enter Try.func143, Try.ntmps143
    go_wp2
    go_ret
    refine ⟨?_, rfl⟩
    have : isT s.data.toList = false := by
      unfold isT
      rw [HZ.out, decide_eq_false (show ¬ s.size ≤ 12 by omega), Bool.and_false]
    rw [this]
    rfl
set_option maxHeartbeats 2000000 in
theorem implIsKey_any (k : K) (hs : k.text.size ≤ 281474976710656) (w : World) :
    Calls Try.prog 118 #[k.v] w fun e w' => e = .returned (.bool (isK k)) ∧ Below w.heap.size w w' := by
  obtain ⟨kd, n, s⟩ := k
  unfold K.v
  obtain ⟨b2, hb2⟩ : ∃ b, L1.inB n (-1000000000000) 1000000000000 = b := ⟨_, rfl⟩
  obtain ⟨b4, hb4⟩ : ∃ b, isT s.data.toList = b := ⟨_, rfl⟩
  have H2 := Lib.hid (fun w => isKeyNumber_any n w)
  have H4 := Lib.hid (fun w => isKeyText_any s hs w)
  rw [hb2] at H2
  rw [hb4] at H4
  obtain ⟨c0, hc0⟩ : ∃ b, (n == 0) = b := ⟨_, rfl⟩
  obtain ⟨ct, hct⟩ : ∃ b, (s.toList == []) = b := ⟨_, rfl⟩
  have HE := show isK ⟨kd, n, s⟩ = (L1.inB kd 1 3 && b2 && (kd != 2 || c0) && b4 && (kd != 1 || ct)) by unfold isK; rw [hb2, show K.t ⟨kd, n, s⟩ = s.data.toList from rfl, hb4, ← hct, ByteArray.toList_eq, ← hc0]
  have hx1 : ct = true → b4 = true := fun h => by
    rw [h, ByteArray.toList_eq, beq_iff_eq] at hct
    rw [← hb4, hct]
    rfl
  have hx2 : c0 = true → b2 = true := fun h => by
    rw [h, beq_iff_eq] at hc0
    rw [← hb2, hc0]
    rfl
  have HB := Lib.hid (fun o => below_alloc (Below.refl w.heap.size w) o (Nat.le_refl _))
  clear hb2 hb4
  rcases (show kd = 1 ∨ kd = 2 ∨ kd = 3 ∨ (kd ≠ 1 ∧ kd ≠ 2 ∧ kd ≠ 3) by omega) with rfl | rfl | rfl | ⟨hk1, hk2, hk3⟩
  · rw [show isK ⟨1, n, s⟩ = (b2 && ct) by rw [HE]; revert hx1; cases b2 <;> cases b4 <;> cases ct <;> simp [L1.inB]]
    clear HE hc0 hx1 hx2
    rcases (show b2 = false ∨ b2 = true by cases b2 <;> simp) with rfl | rfl
    all_goals
      go_enter Try.func118, Try.ntmps118
      go_wp2_with (go_at_call 142; with_reducible refine (H2.out _).mono ?_; rintro e w1 ⟨rfl, rfl⟩)
      go_ret
      exact ⟨rfl, HB.out _⟩
  · rw [show isK ⟨2, n, s⟩ = (c0 && b4) by rw [HE]; revert hx2; cases b2 <;> cases b4 <;> cases c0 <;> simp [L1.inB]]
    clear HE hct hx1 hx2
    rcases (show c0 = false ∨ c0 = true by cases c0 <;> simp) with rfl | rfl
    all_goals
      go_enter Try.func118, Try.ntmps118
      go_wp2_with (go_at_call 143; refine (H4.out _).mono ?_; rintro e w1 ⟨rfl, rfl⟩)
      go_ret
      exact ⟨rfl, HB.out _⟩
  · rw [show isK ⟨3, n, s⟩ = (b2 && b4) by rw [HE]; cases b2 <;> cases b4 <;> cases c0 <;> cases ct <;> simp [L1.inB]]
    clear HE hct hc0 hx1 hx2
    rcases (show b2 = false ∨ b2 = true by cases b2 <;> simp) with rfl | rfl
    all_goals
      go_enter Try.func118, Try.ntmps118
      go_wp2_with (first
        | (go_at_call 142; with_reducible refine (H2.out _).mono ?_; rintro e w1 ⟨rfl, rfl⟩)
        | (go_at_call 143; refine (H4.out _).mono ?_; rintro e w1 ⟨rfl, rfl⟩))
      go_ret
      exact ⟨rfl, HB.out _⟩
  · have : L1.inB kd 1 3 = false := L1.inB_false.2 (by omega)
    rw [HE, this]
    clear HE hct hc0 hx1 hx2 this
    replace hk1 : ¬ kd = 1 := hk1
    replace hk2 : ¬ kd = 2 := hk2
    replace hk3 : ¬ kd = 3 := hk3
    go_enter Try.func118, Try.ntmps118
    go_wp2_with fail
    go_ret
    exact ⟨by simp, HB.out _⟩
end Go.Proofs.Ytmnedjhfibmcnaa.L4

/-
  The contracts of encodeNumber and EncodeKey of the program. Conditions: a text of at most 2^40 bytes.
-/
namespace Go.Proofs.Ytmnedjhfibmcnaa.L4
open Go.Op (bytesLess)
open Go.ChangeShapes Go.WideShapes Go.ChangeAt Go.RowKit Mem Sl Ex L2
set_option maxRecDepth 100000
set_option linter.unusedVariables false

def numCells (m : Nat) : Array Value := #[.int .u8 ((m / 1099511627776 % 256 : Nat) : Int), .int .u8 ((m / 4294967296 % 256 : Nat) : Int), .int .u8 ((m / 16777216 % 256 : Nat) : Int), .int .u8 ((m / 65536 % 256 : Nat) : Int), .int .u8 ((m / 256 % 256 : Nat) : Int), .int .u8 ((m / 1 % 256 : Nat) : Int)]

set_option maxHeartbeats 2000000 in
theorem encodeNumber_any (n : Int) (m : Nat) (hm : (m : Int) = n + 1000000000000) (h1 : n ≤ 1000000000000) (w : World) :
    Calls Try.prog 122 #[.int .i64 n] w fun e w' => e = .returned (.agg (numCells m)) ∧ Below w.heap.size w w' := by
  obtain ⟨M, hM⟩ : ∃ M : Int, M = n + 1000000000000 := ⟨_, rfl⟩
  have hM0 : 0 ≤ M := by omega
  have hM1 : M ≤ 2000000000000 := by omega
  go_enter Try.func122, Try.ntmps122
  go_wp2
  refine wp_loop_rounds 7 ?_
  iterate 7 (rw [rounds_succ]; go_wp2)
  refine bodyPost_ret (v := .agg _) (by simp [results, Try.results122, go_sem]; rfl) rfl ?_
  refine ⟨?_, below_alloc (below_alloc (Below.refl _ _) _ (Nat.le_refl _)) _ (Nat.le_refl _)⟩
  have e0 : (n + 1000000000000) / 256 / 256 / 256 / 256 / 256 = ((m / 1099511627776 % 256 : Nat) : Int) := by omega
  have e1 : (n + 1000000000000) / 256 / 256 / 256 / 256 % 256 = ((m / 4294967296 % 256 : Nat) : Int) := by omega
  have e2 : (n + 1000000000000) / 256 / 256 / 256 % 256 = ((m / 16777216 % 256 : Nat) : Int) := by omega
  have e3 : (n + 1000000000000) / 256 / 256 % 256 = ((m / 65536 % 256 : Nat) : Int) := by omega
  have e4 : (n + 1000000000000) / 256 % 256 = ((m / 256 % 256 : Nat) : Int) := by omega
  have e5 : (n + 1000000000000) % 256 = ((m / 1 % 256 : Nat) : Int) := by omega
  rw [e0, e1, e2, e3, e4, e5]
  rfl

theorem numCells_form (m : Nat) : ∃ x0 x1 x2 x3 x4 x5 : Int, numCells m = #[.int .u8 x0, .int .u8 x1, .int .u8 x2, .int .u8 x3, .int .u8 x4, .int .u8 x5] ∧ toI (be 6 m) = [x0, x1, x2, x3, x4, x5] := by
  refine ⟨_, _, _, _, _, _, rfl, ?_⟩
  simp only [be, toI, List.map_cons, List.map_nil, UInt8.toNat_ofNat', show (256 ^ 5 : Nat) = 1099511627776 from rfl, show (256 ^ 4 : Nat) = 4294967296 from rfl, show (256 ^ 3 : Nat) = 16777216 from rfl, show (256 ^ 2 : Nat) = 65536 from rfl, show (256 ^ 1 : Nat) = 256 from rfl, show (256 ^ 0 : Nat) = 1 from rfl, Nat.mod_mod]
theorem reads_row {w : World} {g : Nat} {t : TypeId} {k : IntKind} {l : List Int} (h : Row w g t (ints k l).toArray) : Reads w w.heap.size (some ⟨g, 0, none⟩) (ints k l) := fun j hj => by
  refine ⟨_, rfl, by simpa [add_block] using h.inside, ?_⟩
  rw [Addr.add_lit, h.cell]
  simp [List.getElem?_eq_getElem hj]

section
variable {P : Program} (w : World)
end

end Go.Proofs.Ytmnedjhfibmcnaa.L4

/-
  Arrays of six bytes, compared. No condition.
-/
namespace Go.Proofs.Ytmnedjhfibmcnaa.L4
set_option maxRecDepth 100000
open Go.ChangeShapes Go.WideShapes Go.ChangeAt Go.RowKit Mem Sl Ex L2
set_option maxHeartbeats 2000000 in
theorem array_eq (x0 x1 x2 x3 x4 x5 y0 y1 y2 y3 y4 y5 : Int) (w : World) :
    (Op.equalIn 10000 141 (.agg #[.int .u8 x0, .int .u8 x1, .int .u8 x2, .int .u8 x3, .int .u8 x4, .int .u8 x5]) (.agg #[.int .u8 y0, .int .u8 y1, .int .u8 y2, .int .u8 y3, .int .u8 y4, .int .u8 y5])).run Try.prog w = .ok (decide ([x0, x1, x2, x3, x4, x5] = [y0, y1, y2, y3, y4, y5])) w := by
  obtain ⟨i0, hi, hz0, hz1, hz2⟩ := infoOf _ _ _ _ info8
  have hu : Try.prog.underlying 141 = some (.array 6 5) := Try.underlying141
  rw [show (10000 : Nat) = 9998 + 1 + 1 from rfl, run_equalIn_array w (9998 + 1) _ _ hu hi, show List.range 6 = [0, 1, 2, 3, 4, 5] from rfl, show Try.prog.cellsOf 5 = 1 by kernel_rfl]
  have he : ∀ (a b : Int) (w : World), (Op.equalIn (9998 + 1) 5 (.int .u8 a) (.int .u8 b)).run Try.prog w = .ok (a == b) w := fun a b w => run_equalIn_int w 9998 5 .u8 .u8 a b Try.underlying5
  simp [Op.eqItems, he, go_sem]
  (repeat' split) <;> simp_all
end Go.Proofs.Ytmnedjhfibmcnaa.L4

/-
  The contract of CompareKeys of the program. Conditions: texts of at most 2^48 bytes.
-/
namespace Go.Proofs.Ytmnedjhfibmcnaa.L4
open Go.Op (bytesLess)
open Go.ChangeShapes Go.WideShapes Go.ChangeAt Go.RowKit Mem Sl Ex L2
set_option maxRecDepth 100000
set_option linter.unusedVariables false
set_option linter.unusedSimpArgs false

theorem step_store_box {P : Program} {ops : Array Oper} {o : Oper} {a : Act} {w : World} {K : Act → World → Prop} {Q : Exit → Act → World → Prop} {E : Prop} (hgd : o.guard = none) (ty : TypeId) (x y : Operand) (ho : o.op = .store ty x y)
    (g : Nat) (t : TypeId) (old cells : Array Value) (hx : a.eval x = .pointer (some ⟨g, 0, none⟩)) (hy : a.eval y = .agg cells) (hr : Row w g t old) (hi : (P.info? ty).map (·.size) = some cells.size) (hold : old.size = cells.size) (h1 : cells.all (·.oneCell') = true)
    (h : ∀ w', Turned [g] w w' → Row w' g t cells → K (a.put o.dst undef) w') : if Region.wanted o (yielded ops a.tmps) = true then Oper.wp P o a w K Q else E := by
  have hw : Region.wanted o (yielded ops a.tmps) = true := by simp [Region.wanted, hgd]
  rw [if_pos hw]
  refine wp_store_row ty x y ho g cells hx hy t old hr hi hold h1 (h _ ⟨rfl, rfl, rfl, by simp [World.setRow], fun b _ hb => setRow_other w g b cells (by simpa using hb)⟩ (setRow_heap w g old cells t (0, 0) hr))
theorem sep_two {W w : World} {a b : Res} {ts : List Res} (h : Sep W w (a :: b :: ts)) : Sep W w [a, b] := by
  have e : ∀ (i : Nat) (r : Res), [a, b][i]? = some r → (a :: b :: ts)[i]? = some r := fun i r hi => by
    match i with
    | 0 => simpa using hi
    | 1 => simpa using hi
    | i + 2 => simp at hi
  exact ⟨h.old, fun i r hi => h.is i r (e i r hi), fun i r hi => h.lies i r (e i r hi), fun i j r s hi hj => h.apart i j r s (e i r hi) (e j s hj)⟩
theorem box6 {w : World} {g : Nat} {t : TypeId} {a0 a1 a2 a3 a4 a5 : Value} (hr : Row w g t #[a0, a1, a2, a3, a4, a5]) : w.cell? ⟨g, 0, none⟩ = some a0 ∧ w.cell? ⟨g, 1, none⟩ = some a1 ∧ w.cell? ⟨g, 2, none⟩ = some a2 ∧ w.cell? ⟨g, 3, none⟩ = some a3 ∧ w.cell? ⟨g, 4, none⟩ = some a4 ∧ w.cell? ⟨g, 5, none⟩ = some a5 := by
  refine ⟨?_, ?_, ?_, ?_, ?_, ?_⟩ <;> (rw [hr.cell]; rfl)
set_option maxHeartbeats 30000000 in
theorem implCompareKeys_any (a b : K) (ha : a.text.size ≤ 281474976710656) (hb : b.text.size ≤ 281474976710656) (w : World) :
    Calls Try.prog 88 #[a.v, b.v] w fun e w' => e = .returned (.int .i64 (cmpK a b)) ∧ Below w.heap.size w w' := by
  have H1 := Lib.hid (fun w => implIsKey_any a ha w)
  have H2 := Lib.hid (fun w => implIsKey_any b hb w)
  obtain ⟨ia, hia⟩ : ∃ x, isK a = x := ⟨_, rfl⟩
  obtain ⟨ib, hib⟩ : ∃ x, isK b = x := ⟨_, rfl⟩
  rw [hia] at H1
  rw [hib] at H2
  obtain ⟨ka, na, sa⟩ := a
  obtain ⟨kb, nb, sb⟩ := b
  have S0 := Sl.Sep.start w
  have S1 := L4.push_box S0 28 #[.int .i64 ka, .int .i64 na, .string sa] (w.heap.size) (by simp)
  clear S0
  have S2 := L4.push_box S1 28 #[.int .i64 kb, .int .i64 nb, .string sb] (w.heap.size + 1) (by simp)
  clear S1
  unfold K.v at H1 H2 ⊢
  go_enter Try.func88, Try.ntmps88
  go_wp2_with fail
  go_at_call 118
  refine (H1.out _).mono ?_
  rintro e w3 ⟨rfl, h3⟩
  have S3 := S2.keep h3
  clear S2 h3
  obtain ⟨f0_0, f0_1, f0_2⟩ := L4.box3 S3 0 rfl
  obtain ⟨f1_0, f1_1, f1_2⟩ := L4.box3 S3 1 rfl
  cases ia with
  | false =>
    go_wp2_with fail
    go_ret
    exact ⟨by rw [cmpK_bad1 hia]; rfl, S3.old⟩
  | true =>
    go_wp2_with fail
    go_at_call 118
    refine (H2.out _).mono ?_
    rintro e w4 ⟨rfl, h4⟩
    have S4 := S3.keep h4
    clear S3 h4 f0_0 f0_1 f0_2 f1_0 f1_1 f1_2
    obtain ⟨f0_0, f0_1, f0_2⟩ := L4.box3 S4 0 rfl
    obtain ⟨f1_0, f1_1, f1_2⟩ := L4.box3 S4 1 rfl
    cases ib with
    | false =>
      go_wp2_with fail
      go_ret
      exact ⟨by rw [cmpK_bad2 hib]; rfl, S4.old⟩
    | true =>
      have ga := isK_iff.1 hia
      have gb := isK_iff.1 hib
      by_cases hk : ka = kb
      · obtain ⟨ma, hma⟩ : ∃ m : Nat, (m : Int) = na + 1000000000000 := ⟨(na + 1000000000000).toNat, by have := ga.n0; simp only at this; omega⟩
        obtain ⟨mb, hmb⟩ : ∃ m : Nat, (m : Int) = nb + 1000000000000 := ⟨(nb + 1000000000000).toNat, by have := gb.n0; simp only at this; omega⟩
        have HA := Lib.hid (fun w => encodeNumber_any na ma hma ga.n1 w)
        have HB := Lib.hid (fun w => encodeNumber_any nb mb hmb gb.n1 w)
        obtain ⟨x0, x1, x2, x3, x4, x5, hxc, hxl⟩ := numCells_form ma
        obtain ⟨y0, y1, y2, y3, y4, y5, hyc, hyl⟩ := numCells_form mb
        rw [hxc] at HA
        rw [hyc] at HB
        have HE1 := Lib.hid (fun (hn : na = nb) => cmpK_t hia hib hk hn)
        have HE2 := Lib.hid (fun (hn : ¬ na = nb) => cmpK_n hia hib hk hn)
        have HM := Lib.hid (And.intro hma (And.intro hmb (And.intro hxl hyl)))
        have HM2 := Lib.hid (show na ≤ 1000000000000 ∧ nb ≤ 1000000000000 from ⟨ga.n1, gb.n1⟩)
        subst hk
        clear hia hib ga gb hxc hyc hma hmb hxl hyl
        go_upto_region 5 with fail
        go_cut [5, 6] (fun p q wx => ∃ g1 g2, p = .pointer (some ⟨g1, 0, none⟩) ∧ q = .pointer (some ⟨g2, 0, none⟩) ∧ Hid (Row wx g1 141 #[.int .u8 x0, .int .u8 x1, .int .u8 x2, .int .u8 x3, .int .u8 x4, .int .u8 x5] ∧ Row wx g2 141 #[.int .u8 y0, .int .u8 y1, .int .u8 y2, .int .u8 y3, .int .u8 y4, .int .u8 y5] ∧ Sep w wx [boxR w.heap.size 28 #[.int .i64 ka, .int .i64 na, .string sa], boxR (w.heap.size + 1) 28 #[.int .i64 ka, .int .i64 nb, .string sb]]))
        case first =>
          refine wp_region_held_drew (S := fun w' => w'.cell? ⟨w.heap.size, 1, none⟩ = some (.int .i64 na) ∧ w'.cell? ⟨w.heap.size + 1, 1, none⟩ = some (.int .i64 nb)) (by kernel_rfl) ⟨f0_1, f1_1⟩ (fun hS => ?_)
          have S4d : Sep w w4.drew _ := S4.drews 1
          clear f0_0 f0_1 f0_2 f1_0 f1_1 f1_2 S4
          generalize w4.drew = wd at hS S4d ⊢
          refine wpAnyH_take (i := 0) (v := ?_) rfl (by kernel_rfl) (by kernel_rfl) (by kernel_rfl) (fun _ _ _ h => h) (Or.inl ⟨by rfl, ?_⟩) (by assumption) ?_
          rotate_left
          · (intro w hSw; (try dsimp only at hSw); go_simp; try with_reducible rfl)
          try simp only [zp0, zp1, zp2, zp3, zp4]
          refine wpAnyH_take (i := 1) (v := ?_) rfl (by kernel_rfl) (by kernel_rfl) (by kernel_rfl) (fun _ _ _ h => h) (Or.inl ⟨by rfl, ?_⟩) (by assumption) ?_
          rotate_left
          · (intro w hSw; (try dsimp only at hSw); go_simp; try with_reducible rfl)
          try simp only [zp0, zp1, zp2, zp3, zp4]
          refine wpAnyH_take (i := 3) (v := ?_) rfl (by kernel_rfl) (by kernel_rfl) (by kernel_rfl) (fun _ _ _ h => h) (Or.inl ⟨by rfl, ?_⟩) (by assumption) ?_
          rotate_left
          · (intro w hSw; (try dsimp only at hSw); go_simp; try with_reducible rfl)
          try simp only [zp0, zp1, zp2, zp3, zp4]
          refine wpAnyH_take (i := 4) (v := ?_) rfl (by kernel_rfl) (by kernel_rfl) (by kernel_rfl) (fun _ _ _ h => h) (Or.inl ⟨by rfl, ?_⟩) (by assumption) ?_
          rotate_left
          · (intro w hSw; (try dsimp only at hSw); go_simp; try with_reducible rfl)
          try simp only [zp0, zp1, zp2, zp3, zp4]
          refine wpAnyH_ready (rs := [2, 6, 7]) (by kernel_rfl) (by simp) ?_
          refine AllReadyH.cons rfl (fun K hK => ?_) ?_
          · go_simp
            go_at_call 122
            refine (HA.out _).mono ?_
            rintro e w1x ⟨rfl, hb⟩
            have S1x := Sl.Sep.keep S4d hb
            clear hb S4d
            go_wp2_with fail
            refine hK.out _ _ ⟨(box3 S1x 0 rfl).2.1, (box3 S1x 1 rfl).2.1⟩ (fun hS => ?_)
            clear hK K
            try simp only [zp0, zp1, zp2, zp3, zp4]
            refine wpAnyH_ready (rs := [5, 6, 7]) (by kernel_rfl) (by simp) ?_
            refine AllReadyH.cons rfl (fun K hK => ?_) ?_
            · go_simp
              go_at_call 122
              refine (HB.out _).mono ?_
              rintro e w2x ⟨rfl, hb⟩
              have S2x := Sl.Sep.keep S1x hb
              clear hb S1x
              go_wp2_with fail
              refine hK.out _ _ ⟨(box3 S2x 0 rfl).2.1, (box3 S2x 1 rfl).2.1⟩ (fun hS => ?_)
              clear hK K
              try simp only [zp0, zp1, zp2, zp3, zp4]
              refine wpAnyH_ready (rs := [6, 7]) (by kernel_rfl) (by simp) ?_
              refine AllReadyH.cons rfl (fun K hK => ?_) ?_
              · have S3x := push_box S2x 141 #[.int .u8 0, .int .u8 0, .int .u8 0, .int .u8 0, .int .u8 0, .int .u8 0] w2x.heap.size rfl
                go_simp
                refine hK.out _ _ ⟨(box3 S3x 0 rfl).2.1, (box3 S3x 1 rfl).2.1⟩ (fun hS => ?_)
                clear hK K
                try simp only [zp0, zp1, zp2, zp3, zp4]
                generalize w2x.alloc (.cells #[.int .u8 0, .int .u8 0, .int .u8 0, .int .u8 0, .int .u8 0, .int .u8 0] 141) = w3x at hS S3x ⊢
                refine wpAnyH_ready (rs := [7]) (by kernel_rfl) (by simp) ?_
                refine AllReadyH.cons rfl (fun K hK => ?_) ?_
                · have S4x := push_box S3x 141 #[.int .u8 0, .int .u8 0, .int .u8 0, .int .u8 0, .int .u8 0, .int .u8 0] w3x.heap.size rfl
                  go_simp
                  refine hK.out _ _ ⟨(box3 S4x 0 rfl).2.1, (box3 S4x 1 rfl).2.1⟩ (fun hS => ?_)
                  clear hK K
                  try simp only [zp0, zp1, zp2, zp3, zp4]
                  generalize w3x.alloc (.cells #[.int .u8 0, .int .u8 0, .int .u8 0, .int .u8 0, .int .u8 0, .int .u8 0] 141) = w4x at hS S4x ⊢
                  refine wpAnyH_ready (rs := [8]) (by kernel_rfl) (by simp) ?_
                  refine AllReadyH.cons rfl (fun K hK => ?_) ?_
                  · refine step_store_box rfl 141 (.tmp 5) (.tmp 27) rfl w2x.heap.size 141 #[.int .u8 0, .int .u8 0, .int .u8 0, .int .u8 0, .int .u8 0, .int .u8 0] #[.int .u8 x0, .int .u8 x1, .int .u8 x2, .int .u8 x3, .int .u8 x4, .int .u8 x5] rfl rfl (box_at S4x 2 rfl) (by kernel_rfl) rfl (by simp [Value.oneCell']) ?_
                    intro w5x ht hr
                    have S5x := Sl.Sep.put (r' := boxR w2x.heap.size 141 #[.int .u8 x0, .int .u8 x1, .int .u8 x2, .int .u8 x3, .int .u8 x4, .int .u8 x5]) S4x 2 rfl ht hr (fun b hb => hb)
                    clear ht hr
                    refine hK.out _ _ ⟨(box3 S5x 0 rfl).2.1, (box3 S5x 1 rfl).2.1⟩ (fun hS => ?_)
                    clear hK K
                    try simp only [zp0, zp1, zp2, zp3, zp4]
                    refine wpAnyH_ready (rs := [9]) (by kernel_rfl) (by simp) ?_
                    refine AllReadyH.cons rfl (fun K hK => ?_) ?_
                    · refine step_store_box rfl 141 (.tmp 6) (.tmp 30) rfl w3x.heap.size 141 #[.int .u8 0, .int .u8 0, .int .u8 0, .int .u8 0, .int .u8 0, .int .u8 0] #[.int .u8 y0, .int .u8 y1, .int .u8 y2, .int .u8 y3, .int .u8 y4, .int .u8 y5] rfl rfl (box_at S5x 3 rfl) (by kernel_rfl) rfl (by simp [Value.oneCell']) ?_
                      intro w6x ht hr
                      have S6x := Sl.Sep.put (r' := boxR w3x.heap.size 141 #[.int .u8 y0, .int .u8 y1, .int .u8 y2, .int .u8 y3, .int .u8 y4, .int .u8 y5]) S5x 3 rfl ht hr (fun b hb => hb)
                      clear ht hr
                      refine hK.out _ _ ⟨(box3 S6x 0 rfl).2.1, (box3 S6x 1 rfl).2.1⟩ (fun hS => ?_)
                      clear hK K
                      try simp only [zp0, zp1, zp2, zp3, zp4]
                      refine wpAnyH_done (by kernel_rfl) ?_ _
                      go_wp2_with fail
                      go_meet
                      case rel => exact ⟨_, _, rfl, rfl, And.intro (box_at S6x 2 rfl) (And.intro (box_at S6x 3 rfl) (sep_two S6x))⟩
                    exact AllReadyH.nil
                  exact AllReadyH.nil
                exact AllReadyH.nil
              refine AllReadyH.cons rfl (fun K hK => ?_) ?_
              · have S7x := push_box S2x 141 #[.int .u8 0, .int .u8 0, .int .u8 0, .int .u8 0, .int .u8 0, .int .u8 0] w2x.heap.size rfl
                go_simp
                refine hK.out _ _ ⟨(box3 S7x 0 rfl).2.1, (box3 S7x 1 rfl).2.1⟩ (fun hS => ?_)
                clear hK K
                try simp only [zp0, zp1, zp2, zp3, zp4]
                generalize w2x.alloc (.cells #[.int .u8 0, .int .u8 0, .int .u8 0, .int .u8 0, .int .u8 0, .int .u8 0] 141) = w7x at hS S7x ⊢
                refine wpAnyH_ready (rs := [6]) (by kernel_rfl) (by simp) ?_
                refine AllReadyH.cons rfl (fun K hK => ?_) ?_
                · have S8x := push_box S7x 141 #[.int .u8 0, .int .u8 0, .int .u8 0, .int .u8 0, .int .u8 0, .int .u8 0] w7x.heap.size rfl
                  go_simp
                  refine hK.out _ _ ⟨(box3 S8x 0 rfl).2.1, (box3 S8x 1 rfl).2.1⟩ (fun hS => ?_)
                  clear hK K
                  try simp only [zp0, zp1, zp2, zp3, zp4]
                  generalize w7x.alloc (.cells #[.int .u8 0, .int .u8 0, .int .u8 0, .int .u8 0, .int .u8 0, .int .u8 0] 141) = w8x at hS S8x ⊢
                  refine wpAnyH_ready (rs := [8]) (by kernel_rfl) (by simp) ?_
                  refine AllReadyH.cons rfl (fun K hK => ?_) ?_
                  · refine step_store_box rfl 141 (.tmp 5) (.tmp 27) rfl w7x.heap.size 141 #[.int .u8 0, .int .u8 0, .int .u8 0, .int .u8 0, .int .u8 0, .int .u8 0] #[.int .u8 x0, .int .u8 x1, .int .u8 x2, .int .u8 x3, .int .u8 x4, .int .u8 x5] rfl rfl (box_at S8x 3 rfl) (by kernel_rfl) rfl (by simp [Value.oneCell']) ?_
                    intro w9x ht hr
                    have S9x := Sl.Sep.put (r' := boxR w7x.heap.size 141 #[.int .u8 x0, .int .u8 x1, .int .u8 x2, .int .u8 x3, .int .u8 x4, .int .u8 x5]) S8x 3 rfl ht hr (fun b hb => hb)
                    clear ht hr
                    refine hK.out _ _ ⟨(box3 S9x 0 rfl).2.1, (box3 S9x 1 rfl).2.1⟩ (fun hS => ?_)
                    clear hK K
                    try simp only [zp0, zp1, zp2, zp3, zp4]
                    refine wpAnyH_ready (rs := [9]) (by kernel_rfl) (by simp) ?_
                    refine AllReadyH.cons rfl (fun K hK => ?_) ?_
                    · refine step_store_box rfl 141 (.tmp 6) (.tmp 30) rfl w2x.heap.size 141 #[.int .u8 0, .int .u8 0, .int .u8 0, .int .u8 0, .int .u8 0, .int .u8 0] #[.int .u8 y0, .int .u8 y1, .int .u8 y2, .int .u8 y3, .int .u8 y4, .int .u8 y5] rfl rfl (box_at S9x 2 rfl) (by kernel_rfl) rfl (by simp [Value.oneCell']) ?_
                      intro w10x ht hr
                      have S10x := Sl.Sep.put (r' := boxR w2x.heap.size 141 #[.int .u8 y0, .int .u8 y1, .int .u8 y2, .int .u8 y3, .int .u8 y4, .int .u8 y5]) S9x 2 rfl ht hr (fun b hb => hb)
                      clear ht hr
                      refine hK.out _ _ ⟨(box3 S10x 0 rfl).2.1, (box3 S10x 1 rfl).2.1⟩ (fun hS => ?_)
                      clear hK K
                      try simp only [zp0, zp1, zp2, zp3, zp4]
                      refine wpAnyH_done (by kernel_rfl) ?_ _
                      go_wp2_with fail
                      go_meet
                      case rel => exact ⟨_, _, rfl, rfl, And.intro (box_at S10x 3 rfl) (And.intro (box_at S10x 2 rfl) (sep_two S10x))⟩
                    exact AllReadyH.nil
                  exact AllReadyH.nil
                exact AllReadyH.nil
              exact AllReadyH.nil
            refine AllReadyH.cons rfl (fun K hK => ?_) ?_
            · have S11x := push_box S1x 141 #[.int .u8 0, .int .u8 0, .int .u8 0, .int .u8 0, .int .u8 0, .int .u8 0] w1x.heap.size rfl
              go_simp
              refine hK.out _ _ ⟨(box3 S11x 0 rfl).2.1, (box3 S11x 1 rfl).2.1⟩ (fun hS => ?_)
              clear hK K
              try simp only [zp0, zp1, zp2, zp3, zp4]
              generalize w1x.alloc (.cells #[.int .u8 0, .int .u8 0, .int .u8 0, .int .u8 0, .int .u8 0, .int .u8 0] 141) = w11x at hS S11x ⊢
              refine wpAnyH_ready (rs := [5, 7]) (by kernel_rfl) (by simp) ?_
              refine AllReadyH.cons rfl (fun K hK => ?_) ?_
              · go_simp
                go_at_call 122
                refine (HB.out _).mono ?_
                rintro e w12x ⟨rfl, hb⟩
                have S12x := Sl.Sep.keep S11x hb
                clear hb S11x
                go_wp2_with fail
                refine hK.out _ _ ⟨(box3 S12x 0 rfl).2.1, (box3 S12x 1 rfl).2.1⟩ (fun hS => ?_)
                clear hK K
                try simp only [zp0, zp1, zp2, zp3, zp4]
                refine wpAnyH_ready (rs := [7]) (by kernel_rfl) (by simp) ?_
                refine AllReadyH.cons rfl (fun K hK => ?_) ?_
                · have S13x := push_box S12x 141 #[.int .u8 0, .int .u8 0, .int .u8 0, .int .u8 0, .int .u8 0, .int .u8 0] w12x.heap.size rfl
                  go_simp
                  refine hK.out _ _ ⟨(box3 S13x 0 rfl).2.1, (box3 S13x 1 rfl).2.1⟩ (fun hS => ?_)
                  clear hK K
                  try simp only [zp0, zp1, zp2, zp3, zp4]
                  generalize w12x.alloc (.cells #[.int .u8 0, .int .u8 0, .int .u8 0, .int .u8 0, .int .u8 0, .int .u8 0] 141) = w13x at hS S13x ⊢
                  refine wpAnyH_ready (rs := [8]) (by kernel_rfl) (by simp) ?_
                  refine AllReadyH.cons rfl (fun K hK => ?_) ?_
                  · refine step_store_box rfl 141 (.tmp 5) (.tmp 27) rfl w1x.heap.size 141 #[.int .u8 0, .int .u8 0, .int .u8 0, .int .u8 0, .int .u8 0, .int .u8 0] #[.int .u8 x0, .int .u8 x1, .int .u8 x2, .int .u8 x3, .int .u8 x4, .int .u8 x5] rfl rfl (box_at S13x 2 rfl) (by kernel_rfl) rfl (by simp [Value.oneCell']) ?_
                    intro w14x ht hr
                    have S14x := Sl.Sep.put (r' := boxR w1x.heap.size 141 #[.int .u8 x0, .int .u8 x1, .int .u8 x2, .int .u8 x3, .int .u8 x4, .int .u8 x5]) S13x 2 rfl ht hr (fun b hb => hb)
                    clear ht hr
                    refine hK.out _ _ ⟨(box3 S14x 0 rfl).2.1, (box3 S14x 1 rfl).2.1⟩ (fun hS => ?_)
                    clear hK K
                    try simp only [zp0, zp1, zp2, zp3, zp4]
                    refine wpAnyH_ready (rs := [9]) (by kernel_rfl) (by simp) ?_
                    refine AllReadyH.cons rfl (fun K hK => ?_) ?_
                    · refine step_store_box rfl 141 (.tmp 6) (.tmp 30) rfl w12x.heap.size 141 #[.int .u8 0, .int .u8 0, .int .u8 0, .int .u8 0, .int .u8 0, .int .u8 0] #[.int .u8 y0, .int .u8 y1, .int .u8 y2, .int .u8 y3, .int .u8 y4, .int .u8 y5] rfl rfl (box_at S14x 3 rfl) (by kernel_rfl) rfl (by simp [Value.oneCell']) ?_
                      intro w15x ht hr
                      have S15x := Sl.Sep.put (r' := boxR w12x.heap.size 141 #[.int .u8 y0, .int .u8 y1, .int .u8 y2, .int .u8 y3, .int .u8 y4, .int .u8 y5]) S14x 3 rfl ht hr (fun b hb => hb)
                      clear ht hr
                      refine hK.out _ _ ⟨(box3 S15x 0 rfl).2.1, (box3 S15x 1 rfl).2.1⟩ (fun hS => ?_)
                      clear hK K
                      try simp only [zp0, zp1, zp2, zp3, zp4]
                      refine wpAnyH_done (by kernel_rfl) ?_ _
                      go_wp2_with fail
                      go_meet
                      case rel => exact ⟨_, _, rfl, rfl, And.intro (box_at S15x 2 rfl) (And.intro (box_at S15x 3 rfl) (sep_two S15x))⟩
                    exact AllReadyH.nil
                  exact AllReadyH.nil
                exact AllReadyH.nil
              refine AllReadyH.cons rfl (fun K hK => ?_) ?_
              · have S16x := push_box S11x 141 #[.int .u8 0, .int .u8 0, .int .u8 0, .int .u8 0, .int .u8 0, .int .u8 0] w11x.heap.size rfl
                go_simp
                refine hK.out _ _ ⟨(box3 S16x 0 rfl).2.1, (box3 S16x 1 rfl).2.1⟩ (fun hS => ?_)
                clear hK K
                try simp only [zp0, zp1, zp2, zp3, zp4]
                generalize w11x.alloc (.cells #[.int .u8 0, .int .u8 0, .int .u8 0, .int .u8 0, .int .u8 0, .int .u8 0] 141) = w16x at hS S16x ⊢
                refine wpAnyH_ready (rs := [5]) (by kernel_rfl) (by simp) ?_
                refine AllReadyH.cons rfl (fun K hK => ?_) ?_
                · go_simp
                  go_at_call 122
                  refine (HB.out _).mono ?_
                  rintro e w17x ⟨rfl, hb⟩
                  have S17x := Sl.Sep.keep S16x hb
                  clear hb S16x
                  go_wp2_with fail
                  refine hK.out _ _ ⟨(box3 S17x 0 rfl).2.1, (box3 S17x 1 rfl).2.1⟩ (fun hS => ?_)
                  clear hK K
                  try simp only [zp0, zp1, zp2, zp3, zp4]
                  refine wpAnyH_ready (rs := [8]) (by kernel_rfl) (by simp) ?_
                  refine AllReadyH.cons rfl (fun K hK => ?_) ?_
                  · refine step_store_box rfl 141 (.tmp 5) (.tmp 27) rfl w1x.heap.size 141 #[.int .u8 0, .int .u8 0, .int .u8 0, .int .u8 0, .int .u8 0, .int .u8 0] #[.int .u8 x0, .int .u8 x1, .int .u8 x2, .int .u8 x3, .int .u8 x4, .int .u8 x5] rfl rfl (box_at S17x 2 rfl) (by kernel_rfl) rfl (by simp [Value.oneCell']) ?_
                    intro w18x ht hr
                    have S18x := Sl.Sep.put (r' := boxR w1x.heap.size 141 #[.int .u8 x0, .int .u8 x1, .int .u8 x2, .int .u8 x3, .int .u8 x4, .int .u8 x5]) S17x 2 rfl ht hr (fun b hb => hb)
                    clear ht hr
                    refine hK.out _ _ ⟨(box3 S18x 0 rfl).2.1, (box3 S18x 1 rfl).2.1⟩ (fun hS => ?_)
                    clear hK K
                    try simp only [zp0, zp1, zp2, zp3, zp4]
                    refine wpAnyH_ready (rs := [9]) (by kernel_rfl) (by simp) ?_
                    refine AllReadyH.cons rfl (fun K hK => ?_) ?_
                    · refine step_store_box rfl 141 (.tmp 6) (.tmp 30) rfl w11x.heap.size 141 #[.int .u8 0, .int .u8 0, .int .u8 0, .int .u8 0, .int .u8 0, .int .u8 0] #[.int .u8 y0, .int .u8 y1, .int .u8 y2, .int .u8 y3, .int .u8 y4, .int .u8 y5] rfl rfl (box_at S18x 3 rfl) (by kernel_rfl) rfl (by simp [Value.oneCell']) ?_
                      intro w19x ht hr
                      have S19x := Sl.Sep.put (r' := boxR w11x.heap.size 141 #[.int .u8 y0, .int .u8 y1, .int .u8 y2, .int .u8 y3, .int .u8 y4, .int .u8 y5]) S18x 3 rfl ht hr (fun b hb => hb)
                      clear ht hr
                      refine hK.out _ _ ⟨(box3 S19x 0 rfl).2.1, (box3 S19x 1 rfl).2.1⟩ (fun hS => ?_)
                      clear hK K
                      try simp only [zp0, zp1, zp2, zp3, zp4]
                      refine wpAnyH_done (by kernel_rfl) ?_ _
                      go_wp2_with fail
                      go_meet
                      case rel => exact ⟨_, _, rfl, rfl, And.intro (box_at S19x 2 rfl) (And.intro (box_at S19x 3 rfl) (sep_two S19x))⟩
                    exact AllReadyH.nil
                  exact AllReadyH.nil
                exact AllReadyH.nil
              exact AllReadyH.nil
            refine AllReadyH.cons rfl (fun K hK => ?_) ?_
            · have S20x := push_box S1x 141 #[.int .u8 0, .int .u8 0, .int .u8 0, .int .u8 0, .int .u8 0, .int .u8 0] w1x.heap.size rfl
              go_simp
              refine hK.out _ _ ⟨(box3 S20x 0 rfl).2.1, (box3 S20x 1 rfl).2.1⟩ (fun hS => ?_)
              clear hK K
              try simp only [zp0, zp1, zp2, zp3, zp4]
              generalize w1x.alloc (.cells #[.int .u8 0, .int .u8 0, .int .u8 0, .int .u8 0, .int .u8 0, .int .u8 0] 141) = w20x at hS S20x ⊢
              refine wpAnyH_ready (rs := [5, 6]) (by kernel_rfl) (by simp) ?_
              refine AllReadyH.cons rfl (fun K hK => ?_) ?_
              · go_simp
                go_at_call 122
                refine (HB.out _).mono ?_
                rintro e w21x ⟨rfl, hb⟩
                have S21x := Sl.Sep.keep S20x hb
                clear hb S20x
                go_wp2_with fail
                refine hK.out _ _ ⟨(box3 S21x 0 rfl).2.1, (box3 S21x 1 rfl).2.1⟩ (fun hS => ?_)
                clear hK K
                try simp only [zp0, zp1, zp2, zp3, zp4]
                refine wpAnyH_ready (rs := [6]) (by kernel_rfl) (by simp) ?_
                refine AllReadyH.cons rfl (fun K hK => ?_) ?_
                · have S22x := push_box S21x 141 #[.int .u8 0, .int .u8 0, .int .u8 0, .int .u8 0, .int .u8 0, .int .u8 0] w21x.heap.size rfl
                  go_simp
                  refine hK.out _ _ ⟨(box3 S22x 0 rfl).2.1, (box3 S22x 1 rfl).2.1⟩ (fun hS => ?_)
                  clear hK K
                  try simp only [zp0, zp1, zp2, zp3, zp4]
                  generalize w21x.alloc (.cells #[.int .u8 0, .int .u8 0, .int .u8 0, .int .u8 0, .int .u8 0, .int .u8 0] 141) = w22x at hS S22x ⊢
                  refine wpAnyH_ready (rs := [8]) (by kernel_rfl) (by simp) ?_
                  refine AllReadyH.cons rfl (fun K hK => ?_) ?_
                  · refine step_store_box rfl 141 (.tmp 5) (.tmp 27) rfl w21x.heap.size 141 #[.int .u8 0, .int .u8 0, .int .u8 0, .int .u8 0, .int .u8 0, .int .u8 0] #[.int .u8 x0, .int .u8 x1, .int .u8 x2, .int .u8 x3, .int .u8 x4, .int .u8 x5] rfl rfl (box_at S22x 3 rfl) (by kernel_rfl) rfl (by simp [Value.oneCell']) ?_
                    intro w23x ht hr
                    have S23x := Sl.Sep.put (r' := boxR w21x.heap.size 141 #[.int .u8 x0, .int .u8 x1, .int .u8 x2, .int .u8 x3, .int .u8 x4, .int .u8 x5]) S22x 3 rfl ht hr (fun b hb => hb)
                    clear ht hr
                    refine hK.out _ _ ⟨(box3 S23x 0 rfl).2.1, (box3 S23x 1 rfl).2.1⟩ (fun hS => ?_)
                    clear hK K
                    try simp only [zp0, zp1, zp2, zp3, zp4]
                    refine wpAnyH_ready (rs := [9]) (by kernel_rfl) (by simp) ?_
                    refine AllReadyH.cons rfl (fun K hK => ?_) ?_
                    · refine step_store_box rfl 141 (.tmp 6) (.tmp 30) rfl w1x.heap.size 141 #[.int .u8 0, .int .u8 0, .int .u8 0, .int .u8 0, .int .u8 0, .int .u8 0] #[.int .u8 y0, .int .u8 y1, .int .u8 y2, .int .u8 y3, .int .u8 y4, .int .u8 y5] rfl rfl (box_at S23x 2 rfl) (by kernel_rfl) rfl (by simp [Value.oneCell']) ?_
                      intro w24x ht hr
                      have S24x := Sl.Sep.put (r' := boxR w1x.heap.size 141 #[.int .u8 y0, .int .u8 y1, .int .u8 y2, .int .u8 y3, .int .u8 y4, .int .u8 y5]) S23x 2 rfl ht hr (fun b hb => hb)
                      clear ht hr
                      refine hK.out _ _ ⟨(box3 S24x 0 rfl).2.1, (box3 S24x 1 rfl).2.1⟩ (fun hS => ?_)
                      clear hK K
                      try simp only [zp0, zp1, zp2, zp3, zp4]
                      refine wpAnyH_done (by kernel_rfl) ?_ _
                      go_wp2_with fail
                      go_meet
                      case rel => exact ⟨_, _, rfl, rfl, And.intro (box_at S24x 3 rfl) (And.intro (box_at S24x 2 rfl) (sep_two S24x))⟩
                    exact AllReadyH.nil
                  exact AllReadyH.nil
                exact AllReadyH.nil
              refine AllReadyH.cons rfl (fun K hK => ?_) ?_
              · have S25x := push_box S20x 141 #[.int .u8 0, .int .u8 0, .int .u8 0, .int .u8 0, .int .u8 0, .int .u8 0] w20x.heap.size rfl
                go_simp
                refine hK.out _ _ ⟨(box3 S25x 0 rfl).2.1, (box3 S25x 1 rfl).2.1⟩ (fun hS => ?_)
                clear hK K
                try simp only [zp0, zp1, zp2, zp3, zp4]
                generalize w20x.alloc (.cells #[.int .u8 0, .int .u8 0, .int .u8 0, .int .u8 0, .int .u8 0, .int .u8 0] 141) = w25x at hS S25x ⊢
                refine wpAnyH_ready (rs := [5]) (by kernel_rfl) (by simp) ?_
                refine AllReadyH.cons rfl (fun K hK => ?_) ?_
                · go_simp
                  go_at_call 122
                  refine (HB.out _).mono ?_
                  rintro e w26x ⟨rfl, hb⟩
                  have S26x := Sl.Sep.keep S25x hb
                  clear hb S25x
                  go_wp2_with fail
                  refine hK.out _ _ ⟨(box3 S26x 0 rfl).2.1, (box3 S26x 1 rfl).2.1⟩ (fun hS => ?_)
                  clear hK K
                  try simp only [zp0, zp1, zp2, zp3, zp4]
                  refine wpAnyH_ready (rs := [8]) (by kernel_rfl) (by simp) ?_
                  refine AllReadyH.cons rfl (fun K hK => ?_) ?_
                  · refine step_store_box rfl 141 (.tmp 5) (.tmp 27) rfl w20x.heap.size 141 #[.int .u8 0, .int .u8 0, .int .u8 0, .int .u8 0, .int .u8 0, .int .u8 0] #[.int .u8 x0, .int .u8 x1, .int .u8 x2, .int .u8 x3, .int .u8 x4, .int .u8 x5] rfl rfl (box_at S26x 3 rfl) (by kernel_rfl) rfl (by simp [Value.oneCell']) ?_
                    intro w27x ht hr
                    have S27x := Sl.Sep.put (r' := boxR w20x.heap.size 141 #[.int .u8 x0, .int .u8 x1, .int .u8 x2, .int .u8 x3, .int .u8 x4, .int .u8 x5]) S26x 3 rfl ht hr (fun b hb => hb)
                    clear ht hr
                    refine hK.out _ _ ⟨(box3 S27x 0 rfl).2.1, (box3 S27x 1 rfl).2.1⟩ (fun hS => ?_)
                    clear hK K
                    try simp only [zp0, zp1, zp2, zp3, zp4]
                    refine wpAnyH_ready (rs := [9]) (by kernel_rfl) (by simp) ?_
                    refine AllReadyH.cons rfl (fun K hK => ?_) ?_
                    · refine step_store_box rfl 141 (.tmp 6) (.tmp 30) rfl w1x.heap.size 141 #[.int .u8 0, .int .u8 0, .int .u8 0, .int .u8 0, .int .u8 0, .int .u8 0] #[.int .u8 y0, .int .u8 y1, .int .u8 y2, .int .u8 y3, .int .u8 y4, .int .u8 y5] rfl rfl (box_at S27x 2 rfl) (by kernel_rfl) rfl (by simp [Value.oneCell']) ?_
                      intro w28x ht hr
                      have S28x := Sl.Sep.put (r' := boxR w1x.heap.size 141 #[.int .u8 y0, .int .u8 y1, .int .u8 y2, .int .u8 y3, .int .u8 y4, .int .u8 y5]) S27x 2 rfl ht hr (fun b hb => hb)
                      clear ht hr
                      refine hK.out _ _ ⟨(box3 S28x 0 rfl).2.1, (box3 S28x 1 rfl).2.1⟩ (fun hS => ?_)
                      clear hK K
                      try simp only [zp0, zp1, zp2, zp3, zp4]
                      refine wpAnyH_done (by kernel_rfl) ?_ _
                      go_wp2_with fail
                      go_meet
                      case rel => exact ⟨_, _, rfl, rfl, And.intro (box_at S28x 3 rfl) (And.intro (box_at S28x 2 rfl) (sep_two S28x))⟩
                    exact AllReadyH.nil
                  exact AllReadyH.nil
                exact AllReadyH.nil
              exact AllReadyH.nil
            exact AllReadyH.nil
          refine AllReadyH.cons rfl (fun K hK => ?_) ?_
          · have S29x := push_box S4d 141 #[.int .u8 0, .int .u8 0, .int .u8 0, .int .u8 0, .int .u8 0, .int .u8 0] wd.heap.size rfl
            go_simp
            refine hK.out _ _ ⟨(box3 S29x 0 rfl).2.1, (box3 S29x 1 rfl).2.1⟩ (fun hS => ?_)
            clear hK K
            try simp only [zp0, zp1, zp2, zp3, zp4]
            generalize wd.alloc (.cells #[.int .u8 0, .int .u8 0, .int .u8 0, .int .u8 0, .int .u8 0, .int .u8 0] 141) = w29x at hS S29x ⊢
            refine wpAnyH_ready (rs := [2, 7]) (by kernel_rfl) (by simp) ?_
            refine AllReadyH.cons rfl (fun K hK => ?_) ?_
            · go_simp
              go_at_call 122
              refine (HA.out _).mono ?_
              rintro e w30x ⟨rfl, hb⟩
              have S30x := Sl.Sep.keep S29x hb
              clear hb S29x
              go_wp2_with fail
              refine hK.out _ _ ⟨(box3 S30x 0 rfl).2.1, (box3 S30x 1 rfl).2.1⟩ (fun hS => ?_)
              clear hK K
              try simp only [zp0, zp1, zp2, zp3, zp4]
              refine wpAnyH_ready (rs := [5, 7]) (by kernel_rfl) (by simp) ?_
              refine AllReadyH.cons rfl (fun K hK => ?_) ?_
              · go_simp
                go_at_call 122
                refine (HB.out _).mono ?_
                rintro e w31x ⟨rfl, hb⟩
                have S31x := Sl.Sep.keep S30x hb
                clear hb S30x
                go_wp2_with fail
                refine hK.out _ _ ⟨(box3 S31x 0 rfl).2.1, (box3 S31x 1 rfl).2.1⟩ (fun hS => ?_)
                clear hK K
                try simp only [zp0, zp1, zp2, zp3, zp4]
                refine wpAnyH_ready (rs := [7]) (by kernel_rfl) (by simp) ?_
                refine AllReadyH.cons rfl (fun K hK => ?_) ?_
                · have S32x := push_box S31x 141 #[.int .u8 0, .int .u8 0, .int .u8 0, .int .u8 0, .int .u8 0, .int .u8 0] w31x.heap.size rfl
                  go_simp
                  refine hK.out _ _ ⟨(box3 S32x 0 rfl).2.1, (box3 S32x 1 rfl).2.1⟩ (fun hS => ?_)
                  clear hK K
                  try simp only [zp0, zp1, zp2, zp3, zp4]
                  generalize w31x.alloc (.cells #[.int .u8 0, .int .u8 0, .int .u8 0, .int .u8 0, .int .u8 0, .int .u8 0] 141) = w32x at hS S32x ⊢
                  refine wpAnyH_ready (rs := [8]) (by kernel_rfl) (by simp) ?_
                  refine AllReadyH.cons rfl (fun K hK => ?_) ?_
                  · refine step_store_box rfl 141 (.tmp 5) (.tmp 27) rfl wd.heap.size 141 #[.int .u8 0, .int .u8 0, .int .u8 0, .int .u8 0, .int .u8 0, .int .u8 0] #[.int .u8 x0, .int .u8 x1, .int .u8 x2, .int .u8 x3, .int .u8 x4, .int .u8 x5] rfl rfl (box_at S32x 2 rfl) (by kernel_rfl) rfl (by simp [Value.oneCell']) ?_
                    intro w33x ht hr
                    have S33x := Sl.Sep.put (r' := boxR wd.heap.size 141 #[.int .u8 x0, .int .u8 x1, .int .u8 x2, .int .u8 x3, .int .u8 x4, .int .u8 x5]) S32x 2 rfl ht hr (fun b hb => hb)
                    clear ht hr
                    refine hK.out _ _ ⟨(box3 S33x 0 rfl).2.1, (box3 S33x 1 rfl).2.1⟩ (fun hS => ?_)
                    clear hK K
                    try simp only [zp0, zp1, zp2, zp3, zp4]
                    refine wpAnyH_ready (rs := [9]) (by kernel_rfl) (by simp) ?_
                    refine AllReadyH.cons rfl (fun K hK => ?_) ?_
                    · refine step_store_box rfl 141 (.tmp 6) (.tmp 30) rfl w31x.heap.size 141 #[.int .u8 0, .int .u8 0, .int .u8 0, .int .u8 0, .int .u8 0, .int .u8 0] #[.int .u8 y0, .int .u8 y1, .int .u8 y2, .int .u8 y3, .int .u8 y4, .int .u8 y5] rfl rfl (box_at S33x 3 rfl) (by kernel_rfl) rfl (by simp [Value.oneCell']) ?_
                      intro w34x ht hr
                      have S34x := Sl.Sep.put (r' := boxR w31x.heap.size 141 #[.int .u8 y0, .int .u8 y1, .int .u8 y2, .int .u8 y3, .int .u8 y4, .int .u8 y5]) S33x 3 rfl ht hr (fun b hb => hb)
                      clear ht hr
                      refine hK.out _ _ ⟨(box3 S34x 0 rfl).2.1, (box3 S34x 1 rfl).2.1⟩ (fun hS => ?_)
                      clear hK K
                      try simp only [zp0, zp1, zp2, zp3, zp4]
                      refine wpAnyH_done (by kernel_rfl) ?_ _
                      go_wp2_with fail
                      go_meet
                      case rel => exact ⟨_, _, rfl, rfl, And.intro (box_at S34x 2 rfl) (And.intro (box_at S34x 3 rfl) (sep_two S34x))⟩
                    exact AllReadyH.nil
                  exact AllReadyH.nil
                exact AllReadyH.nil
              refine AllReadyH.cons rfl (fun K hK => ?_) ?_
              · have S35x := push_box S30x 141 #[.int .u8 0, .int .u8 0, .int .u8 0, .int .u8 0, .int .u8 0, .int .u8 0] w30x.heap.size rfl
                go_simp
                refine hK.out _ _ ⟨(box3 S35x 0 rfl).2.1, (box3 S35x 1 rfl).2.1⟩ (fun hS => ?_)
                clear hK K
                try simp only [zp0, zp1, zp2, zp3, zp4]
                generalize w30x.alloc (.cells #[.int .u8 0, .int .u8 0, .int .u8 0, .int .u8 0, .int .u8 0, .int .u8 0] 141) = w35x at hS S35x ⊢
                refine wpAnyH_ready (rs := [5]) (by kernel_rfl) (by simp) ?_
                refine AllReadyH.cons rfl (fun K hK => ?_) ?_
                · go_simp
                  go_at_call 122
                  refine (HB.out _).mono ?_
                  rintro e w36x ⟨rfl, hb⟩
                  have S36x := Sl.Sep.keep S35x hb
                  clear hb S35x
                  go_wp2_with fail
                  refine hK.out _ _ ⟨(box3 S36x 0 rfl).2.1, (box3 S36x 1 rfl).2.1⟩ (fun hS => ?_)
                  clear hK K
                  try simp only [zp0, zp1, zp2, zp3, zp4]
                  refine wpAnyH_ready (rs := [8]) (by kernel_rfl) (by simp) ?_
                  refine AllReadyH.cons rfl (fun K hK => ?_) ?_
                  · refine step_store_box rfl 141 (.tmp 5) (.tmp 27) rfl wd.heap.size 141 #[.int .u8 0, .int .u8 0, .int .u8 0, .int .u8 0, .int .u8 0, .int .u8 0] #[.int .u8 x0, .int .u8 x1, .int .u8 x2, .int .u8 x3, .int .u8 x4, .int .u8 x5] rfl rfl (box_at S36x 2 rfl) (by kernel_rfl) rfl (by simp [Value.oneCell']) ?_
                    intro w37x ht hr
                    have S37x := Sl.Sep.put (r' := boxR wd.heap.size 141 #[.int .u8 x0, .int .u8 x1, .int .u8 x2, .int .u8 x3, .int .u8 x4, .int .u8 x5]) S36x 2 rfl ht hr (fun b hb => hb)
                    clear ht hr
                    refine hK.out _ _ ⟨(box3 S37x 0 rfl).2.1, (box3 S37x 1 rfl).2.1⟩ (fun hS => ?_)
                    clear hK K
                    try simp only [zp0, zp1, zp2, zp3, zp4]
                    refine wpAnyH_ready (rs := [9]) (by kernel_rfl) (by simp) ?_
                    refine AllReadyH.cons rfl (fun K hK => ?_) ?_
                    · refine step_store_box rfl 141 (.tmp 6) (.tmp 30) rfl w30x.heap.size 141 #[.int .u8 0, .int .u8 0, .int .u8 0, .int .u8 0, .int .u8 0, .int .u8 0] #[.int .u8 y0, .int .u8 y1, .int .u8 y2, .int .u8 y3, .int .u8 y4, .int .u8 y5] rfl rfl (box_at S37x 3 rfl) (by kernel_rfl) rfl (by simp [Value.oneCell']) ?_
                      intro w38x ht hr
                      have S38x := Sl.Sep.put (r' := boxR w30x.heap.size 141 #[.int .u8 y0, .int .u8 y1, .int .u8 y2, .int .u8 y3, .int .u8 y4, .int .u8 y5]) S37x 3 rfl ht hr (fun b hb => hb)
                      clear ht hr
                      refine hK.out _ _ ⟨(box3 S38x 0 rfl).2.1, (box3 S38x 1 rfl).2.1⟩ (fun hS => ?_)
                      clear hK K
                      try simp only [zp0, zp1, zp2, zp3, zp4]
                      refine wpAnyH_done (by kernel_rfl) ?_ _
                      go_wp2_with fail
                      go_meet
                      case rel => exact ⟨_, _, rfl, rfl, And.intro (box_at S38x 2 rfl) (And.intro (box_at S38x 3 rfl) (sep_two S38x))⟩
                    exact AllReadyH.nil
                  exact AllReadyH.nil
                exact AllReadyH.nil
              exact AllReadyH.nil
            refine AllReadyH.cons rfl (fun K hK => ?_) ?_
            · have S39x := push_box S29x 141 #[.int .u8 0, .int .u8 0, .int .u8 0, .int .u8 0, .int .u8 0, .int .u8 0] w29x.heap.size rfl
              go_simp
              refine hK.out _ _ ⟨(box3 S39x 0 rfl).2.1, (box3 S39x 1 rfl).2.1⟩ (fun hS => ?_)
              clear hK K
              try simp only [zp0, zp1, zp2, zp3, zp4]
              generalize w29x.alloc (.cells #[.int .u8 0, .int .u8 0, .int .u8 0, .int .u8 0, .int .u8 0, .int .u8 0] 141) = w39x at hS S39x ⊢
              refine wpAnyH_ready (rs := [2]) (by kernel_rfl) (by simp) ?_
              refine AllReadyH.cons rfl (fun K hK => ?_) ?_
              · go_simp
                go_at_call 122
                refine (HA.out _).mono ?_
                rintro e w40x ⟨rfl, hb⟩
                have S40x := Sl.Sep.keep S39x hb
                clear hb S39x
                go_wp2_with fail
                refine hK.out _ _ ⟨(box3 S40x 0 rfl).2.1, (box3 S40x 1 rfl).2.1⟩ (fun hS => ?_)
                clear hK K
                try simp only [zp0, zp1, zp2, zp3, zp4]
                refine wpAnyH_ready (rs := [5]) (by kernel_rfl) (by simp) ?_
                refine AllReadyH.cons rfl (fun K hK => ?_) ?_
                · go_simp
                  go_at_call 122
                  refine (HB.out _).mono ?_
                  rintro e w41x ⟨rfl, hb⟩
                  have S41x := Sl.Sep.keep S40x hb
                  clear hb S40x
                  go_wp2_with fail
                  refine hK.out _ _ ⟨(box3 S41x 0 rfl).2.1, (box3 S41x 1 rfl).2.1⟩ (fun hS => ?_)
                  clear hK K
                  try simp only [zp0, zp1, zp2, zp3, zp4]
                  refine wpAnyH_ready (rs := [8]) (by kernel_rfl) (by simp) ?_
                  refine AllReadyH.cons rfl (fun K hK => ?_) ?_
                  · refine step_store_box rfl 141 (.tmp 5) (.tmp 27) rfl wd.heap.size 141 #[.int .u8 0, .int .u8 0, .int .u8 0, .int .u8 0, .int .u8 0, .int .u8 0] #[.int .u8 x0, .int .u8 x1, .int .u8 x2, .int .u8 x3, .int .u8 x4, .int .u8 x5] rfl rfl (box_at S41x 2 rfl) (by kernel_rfl) rfl (by simp [Value.oneCell']) ?_
                    intro w42x ht hr
                    have S42x := Sl.Sep.put (r' := boxR wd.heap.size 141 #[.int .u8 x0, .int .u8 x1, .int .u8 x2, .int .u8 x3, .int .u8 x4, .int .u8 x5]) S41x 2 rfl ht hr (fun b hb => hb)
                    clear ht hr
                    refine hK.out _ _ ⟨(box3 S42x 0 rfl).2.1, (box3 S42x 1 rfl).2.1⟩ (fun hS => ?_)
                    clear hK K
                    try simp only [zp0, zp1, zp2, zp3, zp4]
                    refine wpAnyH_ready (rs := [9]) (by kernel_rfl) (by simp) ?_
                    refine AllReadyH.cons rfl (fun K hK => ?_) ?_
                    · refine step_store_box rfl 141 (.tmp 6) (.tmp 30) rfl w29x.heap.size 141 #[.int .u8 0, .int .u8 0, .int .u8 0, .int .u8 0, .int .u8 0, .int .u8 0] #[.int .u8 y0, .int .u8 y1, .int .u8 y2, .int .u8 y3, .int .u8 y4, .int .u8 y5] rfl rfl (box_at S42x 3 rfl) (by kernel_rfl) rfl (by simp [Value.oneCell']) ?_
                      intro w43x ht hr
                      have S43x := Sl.Sep.put (r' := boxR w29x.heap.size 141 #[.int .u8 y0, .int .u8 y1, .int .u8 y2, .int .u8 y3, .int .u8 y4, .int .u8 y5]) S42x 3 rfl ht hr (fun b hb => hb)
                      clear ht hr
                      refine hK.out _ _ ⟨(box3 S43x 0 rfl).2.1, (box3 S43x 1 rfl).2.1⟩ (fun hS => ?_)
                      clear hK K
                      try simp only [zp0, zp1, zp2, zp3, zp4]
                      refine wpAnyH_done (by kernel_rfl) ?_ _
                      go_wp2_with fail
                      go_meet
                      case rel => exact ⟨_, _, rfl, rfl, And.intro (box_at S43x 2 rfl) (And.intro (box_at S43x 3 rfl) (sep_two S43x))⟩
                    exact AllReadyH.nil
                  exact AllReadyH.nil
                exact AllReadyH.nil
              exact AllReadyH.nil
            exact AllReadyH.nil
          refine AllReadyH.cons rfl (fun K hK => ?_) ?_
          · have S44x := push_box S4d 141 #[.int .u8 0, .int .u8 0, .int .u8 0, .int .u8 0, .int .u8 0, .int .u8 0] wd.heap.size rfl
            go_simp
            refine hK.out _ _ ⟨(box3 S44x 0 rfl).2.1, (box3 S44x 1 rfl).2.1⟩ (fun hS => ?_)
            clear hK K
            try simp only [zp0, zp1, zp2, zp3, zp4]
            generalize wd.alloc (.cells #[.int .u8 0, .int .u8 0, .int .u8 0, .int .u8 0, .int .u8 0, .int .u8 0] 141) = w44x at hS S44x ⊢
            refine wpAnyH_ready (rs := [2, 6]) (by kernel_rfl) (by simp) ?_
            refine AllReadyH.cons rfl (fun K hK => ?_) ?_
            · go_simp
              go_at_call 122
              refine (HA.out _).mono ?_
              rintro e w45x ⟨rfl, hb⟩
              have S45x := Sl.Sep.keep S44x hb
              clear hb S44x
              go_wp2_with fail
              refine hK.out _ _ ⟨(box3 S45x 0 rfl).2.1, (box3 S45x 1 rfl).2.1⟩ (fun hS => ?_)
              clear hK K
              try simp only [zp0, zp1, zp2, zp3, zp4]
              refine wpAnyH_ready (rs := [5, 6]) (by kernel_rfl) (by simp) ?_
              refine AllReadyH.cons rfl (fun K hK => ?_) ?_
              · go_simp
                go_at_call 122
                refine (HB.out _).mono ?_
                rintro e w46x ⟨rfl, hb⟩
                have S46x := Sl.Sep.keep S45x hb
                clear hb S45x
                go_wp2_with fail
                refine hK.out _ _ ⟨(box3 S46x 0 rfl).2.1, (box3 S46x 1 rfl).2.1⟩ (fun hS => ?_)
                clear hK K
                try simp only [zp0, zp1, zp2, zp3, zp4]
                refine wpAnyH_ready (rs := [6]) (by kernel_rfl) (by simp) ?_
                refine AllReadyH.cons rfl (fun K hK => ?_) ?_
                · have S47x := push_box S46x 141 #[.int .u8 0, .int .u8 0, .int .u8 0, .int .u8 0, .int .u8 0, .int .u8 0] w46x.heap.size rfl
                  go_simp
                  refine hK.out _ _ ⟨(box3 S47x 0 rfl).2.1, (box3 S47x 1 rfl).2.1⟩ (fun hS => ?_)
                  clear hK K
                  try simp only [zp0, zp1, zp2, zp3, zp4]
                  generalize w46x.alloc (.cells #[.int .u8 0, .int .u8 0, .int .u8 0, .int .u8 0, .int .u8 0, .int .u8 0] 141) = w47x at hS S47x ⊢
                  refine wpAnyH_ready (rs := [8]) (by kernel_rfl) (by simp) ?_
                  refine AllReadyH.cons rfl (fun K hK => ?_) ?_
                  · refine step_store_box rfl 141 (.tmp 5) (.tmp 27) rfl w46x.heap.size 141 #[.int .u8 0, .int .u8 0, .int .u8 0, .int .u8 0, .int .u8 0, .int .u8 0] #[.int .u8 x0, .int .u8 x1, .int .u8 x2, .int .u8 x3, .int .u8 x4, .int .u8 x5] rfl rfl (box_at S47x 3 rfl) (by kernel_rfl) rfl (by simp [Value.oneCell']) ?_
                    intro w48x ht hr
                    have S48x := Sl.Sep.put (r' := boxR w46x.heap.size 141 #[.int .u8 x0, .int .u8 x1, .int .u8 x2, .int .u8 x3, .int .u8 x4, .int .u8 x5]) S47x 3 rfl ht hr (fun b hb => hb)
                    clear ht hr
                    refine hK.out _ _ ⟨(box3 S48x 0 rfl).2.1, (box3 S48x 1 rfl).2.1⟩ (fun hS => ?_)
                    clear hK K
                    try simp only [zp0, zp1, zp2, zp3, zp4]
                    refine wpAnyH_ready (rs := [9]) (by kernel_rfl) (by simp) ?_
                    refine AllReadyH.cons rfl (fun K hK => ?_) ?_
                    · refine step_store_box rfl 141 (.tmp 6) (.tmp 30) rfl wd.heap.size 141 #[.int .u8 0, .int .u8 0, .int .u8 0, .int .u8 0, .int .u8 0, .int .u8 0] #[.int .u8 y0, .int .u8 y1, .int .u8 y2, .int .u8 y3, .int .u8 y4, .int .u8 y5] rfl rfl (box_at S48x 2 rfl) (by kernel_rfl) rfl (by simp [Value.oneCell']) ?_
                      intro w49x ht hr
                      have S49x := Sl.Sep.put (r' := boxR wd.heap.size 141 #[.int .u8 y0, .int .u8 y1, .int .u8 y2, .int .u8 y3, .int .u8 y4, .int .u8 y5]) S48x 2 rfl ht hr (fun b hb => hb)
                      clear ht hr
                      refine hK.out _ _ ⟨(box3 S49x 0 rfl).2.1, (box3 S49x 1 rfl).2.1⟩ (fun hS => ?_)
                      clear hK K
                      try simp only [zp0, zp1, zp2, zp3, zp4]
                      refine wpAnyH_done (by kernel_rfl) ?_ _
                      go_wp2_with fail
                      go_meet
                      case rel => exact ⟨_, _, rfl, rfl, And.intro (box_at S49x 3 rfl) (And.intro (box_at S49x 2 rfl) (sep_two S49x))⟩
                    exact AllReadyH.nil
                  exact AllReadyH.nil
                exact AllReadyH.nil
              refine AllReadyH.cons rfl (fun K hK => ?_) ?_
              · have S50x := push_box S45x 141 #[.int .u8 0, .int .u8 0, .int .u8 0, .int .u8 0, .int .u8 0, .int .u8 0] w45x.heap.size rfl
                go_simp
                refine hK.out _ _ ⟨(box3 S50x 0 rfl).2.1, (box3 S50x 1 rfl).2.1⟩ (fun hS => ?_)
                clear hK K
                try simp only [zp0, zp1, zp2, zp3, zp4]
                generalize w45x.alloc (.cells #[.int .u8 0, .int .u8 0, .int .u8 0, .int .u8 0, .int .u8 0, .int .u8 0] 141) = w50x at hS S50x ⊢
                refine wpAnyH_ready (rs := [5]) (by kernel_rfl) (by simp) ?_
                refine AllReadyH.cons rfl (fun K hK => ?_) ?_
                · go_simp
                  go_at_call 122
                  refine (HB.out _).mono ?_
                  rintro e w51x ⟨rfl, hb⟩
                  have S51x := Sl.Sep.keep S50x hb
                  clear hb S50x
                  go_wp2_with fail
                  refine hK.out _ _ ⟨(box3 S51x 0 rfl).2.1, (box3 S51x 1 rfl).2.1⟩ (fun hS => ?_)
                  clear hK K
                  try simp only [zp0, zp1, zp2, zp3, zp4]
                  refine wpAnyH_ready (rs := [8]) (by kernel_rfl) (by simp) ?_
                  refine AllReadyH.cons rfl (fun K hK => ?_) ?_
                  · refine step_store_box rfl 141 (.tmp 5) (.tmp 27) rfl w45x.heap.size 141 #[.int .u8 0, .int .u8 0, .int .u8 0, .int .u8 0, .int .u8 0, .int .u8 0] #[.int .u8 x0, .int .u8 x1, .int .u8 x2, .int .u8 x3, .int .u8 x4, .int .u8 x5] rfl rfl (box_at S51x 3 rfl) (by kernel_rfl) rfl (by simp [Value.oneCell']) ?_
                    intro w52x ht hr
                    have S52x := Sl.Sep.put (r' := boxR w45x.heap.size 141 #[.int .u8 x0, .int .u8 x1, .int .u8 x2, .int .u8 x3, .int .u8 x4, .int .u8 x5]) S51x 3 rfl ht hr (fun b hb => hb)
                    clear ht hr
                    refine hK.out _ _ ⟨(box3 S52x 0 rfl).2.1, (box3 S52x 1 rfl).2.1⟩ (fun hS => ?_)
                    clear hK K
                    try simp only [zp0, zp1, zp2, zp3, zp4]
                    refine wpAnyH_ready (rs := [9]) (by kernel_rfl) (by simp) ?_
                    refine AllReadyH.cons rfl (fun K hK => ?_) ?_
                    · refine step_store_box rfl 141 (.tmp 6) (.tmp 30) rfl wd.heap.size 141 #[.int .u8 0, .int .u8 0, .int .u8 0, .int .u8 0, .int .u8 0, .int .u8 0] #[.int .u8 y0, .int .u8 y1, .int .u8 y2, .int .u8 y3, .int .u8 y4, .int .u8 y5] rfl rfl (box_at S52x 2 rfl) (by kernel_rfl) rfl (by simp [Value.oneCell']) ?_
                      intro w53x ht hr
                      have S53x := Sl.Sep.put (r' := boxR wd.heap.size 141 #[.int .u8 y0, .int .u8 y1, .int .u8 y2, .int .u8 y3, .int .u8 y4, .int .u8 y5]) S52x 2 rfl ht hr (fun b hb => hb)
                      clear ht hr
                      refine hK.out _ _ ⟨(box3 S53x 0 rfl).2.1, (box3 S53x 1 rfl).2.1⟩ (fun hS => ?_)
                      clear hK K
                      try simp only [zp0, zp1, zp2, zp3, zp4]
                      refine wpAnyH_done (by kernel_rfl) ?_ _
                      go_wp2_with fail
                      go_meet
                      case rel => exact ⟨_, _, rfl, rfl, And.intro (box_at S53x 3 rfl) (And.intro (box_at S53x 2 rfl) (sep_two S53x))⟩
                    exact AllReadyH.nil
                  exact AllReadyH.nil
                exact AllReadyH.nil
              exact AllReadyH.nil
            refine AllReadyH.cons rfl (fun K hK => ?_) ?_
            · have S54x := push_box S44x 141 #[.int .u8 0, .int .u8 0, .int .u8 0, .int .u8 0, .int .u8 0, .int .u8 0] w44x.heap.size rfl
              go_simp
              refine hK.out _ _ ⟨(box3 S54x 0 rfl).2.1, (box3 S54x 1 rfl).2.1⟩ (fun hS => ?_)
              clear hK K
              try simp only [zp0, zp1, zp2, zp3, zp4]
              generalize w44x.alloc (.cells #[.int .u8 0, .int .u8 0, .int .u8 0, .int .u8 0, .int .u8 0, .int .u8 0] 141) = w54x at hS S54x ⊢
              refine wpAnyH_ready (rs := [2]) (by kernel_rfl) (by simp) ?_
              refine AllReadyH.cons rfl (fun K hK => ?_) ?_
              · go_simp
                go_at_call 122
                refine (HA.out _).mono ?_
                rintro e w55x ⟨rfl, hb⟩
                have S55x := Sl.Sep.keep S54x hb
                clear hb S54x
                go_wp2_with fail
                refine hK.out _ _ ⟨(box3 S55x 0 rfl).2.1, (box3 S55x 1 rfl).2.1⟩ (fun hS => ?_)
                clear hK K
                try simp only [zp0, zp1, zp2, zp3, zp4]
                refine wpAnyH_ready (rs := [5]) (by kernel_rfl) (by simp) ?_
                refine AllReadyH.cons rfl (fun K hK => ?_) ?_
                · go_simp
                  go_at_call 122
                  refine (HB.out _).mono ?_
                  rintro e w56x ⟨rfl, hb⟩
                  have S56x := Sl.Sep.keep S55x hb
                  clear hb S55x
                  go_wp2_with fail
                  refine hK.out _ _ ⟨(box3 S56x 0 rfl).2.1, (box3 S56x 1 rfl).2.1⟩ (fun hS => ?_)
                  clear hK K
                  try simp only [zp0, zp1, zp2, zp3, zp4]
                  refine wpAnyH_ready (rs := [8]) (by kernel_rfl) (by simp) ?_
                  refine AllReadyH.cons rfl (fun K hK => ?_) ?_
                  · refine step_store_box rfl 141 (.tmp 5) (.tmp 27) rfl w44x.heap.size 141 #[.int .u8 0, .int .u8 0, .int .u8 0, .int .u8 0, .int .u8 0, .int .u8 0] #[.int .u8 x0, .int .u8 x1, .int .u8 x2, .int .u8 x3, .int .u8 x4, .int .u8 x5] rfl rfl (box_at S56x 3 rfl) (by kernel_rfl) rfl (by simp [Value.oneCell']) ?_
                    intro w57x ht hr
                    have S57x := Sl.Sep.put (r' := boxR w44x.heap.size 141 #[.int .u8 x0, .int .u8 x1, .int .u8 x2, .int .u8 x3, .int .u8 x4, .int .u8 x5]) S56x 3 rfl ht hr (fun b hb => hb)
                    clear ht hr
                    refine hK.out _ _ ⟨(box3 S57x 0 rfl).2.1, (box3 S57x 1 rfl).2.1⟩ (fun hS => ?_)
                    clear hK K
                    try simp only [zp0, zp1, zp2, zp3, zp4]
                    refine wpAnyH_ready (rs := [9]) (by kernel_rfl) (by simp) ?_
                    refine AllReadyH.cons rfl (fun K hK => ?_) ?_
                    · refine step_store_box rfl 141 (.tmp 6) (.tmp 30) rfl wd.heap.size 141 #[.int .u8 0, .int .u8 0, .int .u8 0, .int .u8 0, .int .u8 0, .int .u8 0] #[.int .u8 y0, .int .u8 y1, .int .u8 y2, .int .u8 y3, .int .u8 y4, .int .u8 y5] rfl rfl (box_at S57x 2 rfl) (by kernel_rfl) rfl (by simp [Value.oneCell']) ?_
                      intro w58x ht hr
                      have S58x := Sl.Sep.put (r' := boxR wd.heap.size 141 #[.int .u8 y0, .int .u8 y1, .int .u8 y2, .int .u8 y3, .int .u8 y4, .int .u8 y5]) S57x 2 rfl ht hr (fun b hb => hb)
                      clear ht hr
                      refine hK.out _ _ ⟨(box3 S58x 0 rfl).2.1, (box3 S58x 1 rfl).2.1⟩ (fun hS => ?_)
                      clear hK K
                      try simp only [zp0, zp1, zp2, zp3, zp4]
                      refine wpAnyH_done (by kernel_rfl) ?_ _
                      go_wp2_with fail
                      go_meet
                      case rel => exact ⟨_, _, rfl, rfl, And.intro (box_at S58x 3 rfl) (And.intro (box_at S58x 2 rfl) (sep_two S58x))⟩
                    exact AllReadyH.nil
                  exact AllReadyH.nil
                exact AllReadyH.nil
              exact AllReadyH.nil
            exact AllReadyH.nil
          exact AllReadyH.nil
        case rest =>
          obtain ⟨g1, g2, rfl, rfl, HR⟩ := hcut
          obtain ⟨p0, p1, p2, p3, p4, p5⟩ := box6 HR.out.1
          obtain ⟨q0, q1, q2, q3, q4, q5⟩ := box6 HR.out.2.1
          have hdec : decide ([x0, x1, x2, x3, x4, x5] = [y0, y1, y2, y3, y4, y5]) = decide (na = nb) := by
            obtain ⟨h1, h2, h3, h4⟩ := HM.out
            by_cases hn : na = nb
            · obtain rfl : ma = mb := by omega
              rw [decide_eq_true hn, decide_eq_true (h3.symm.trans h4)]
            · have hne : ¬ [x0, x1, x2, x3, x4, x5] = [y0, y1, y2, y3, y4, y5] := fun e => by
                rw [← h3, ← h4] at e
                have e2 := congrArg toU e
                rw [toU_toI, toU_toI] at e2
                have p6 : (256 : Nat) ^ 6 = 281474976710656 := by decide
                have g9 := HM2.out
                have := be_inj 6 ma mb (by rw [p6]; omega) (by rw [p6]; omega) e2
                omega
              rw [decide_eq_false hn, decide_eq_false hne]
          have heq : ∀ w, (Op.equalIn 10000 141 (.agg #[.int .u8 x0, .int .u8 x1, .int .u8 x2, .int .u8 x3, .int .u8 x4, .int .u8 x5]) (.agg #[.int .u8 y0, .int .u8 y1, .int .u8 y2, .int .u8 y3, .int .u8 y4, .int .u8 y5])).run Try.prog w = .ok (decide (na = nb)) w := fun w => by
            rw [array_eq, hdec]
          clear hdec
          by_cases hn : na = nb
          · have hd : decide (na = nb) = true := decide_eq_true hn
            rw [hd] at heq
            have HE := Lib.hid (HE1.out hn)
            clear HE1 HE2 hd
            obtain ⟨f0_0, f0_1, f0_2⟩ := L4.box3 HR.out.2.2 0 rfl
            obtain ⟨f1_0, f1_1, f1_2⟩ := L4.box3 HR.out.2.2 1 rfl
            have HC := Lib.hid (fun w => stringsCompare_any sa sb w)
            go_wp2_with (go_at_call 127; refine (HC.out _).mono ?_; rintro e w5 ⟨rfl, rfl⟩)
            go_ret
            refine ⟨?_, HR.out.2.2.old⟩
            rw [HE.out, ByteArray.toList_eq, ByteArray.toList_eq]
            simp [cmpL]
          · have hd : decide (na = nb) = false := decide_eq_false hn
            rw [hd] at heq
            have HE := Lib.hid (HE2.out hn)
            clear HE1 HE2 hd
            have HC := Lib.hid (show ∀ w', Row w' g1 141 #[.int .u8 x0, .int .u8 x1, .int .u8 x2, .int .u8 x3, .int .u8 x4, .int .u8 x5] → Row w' g2 141 #[.int .u8 y0, .int .u8 y1, .int .u8 y2, .int .u8 y3, .int .u8 y4, .int .u8 y5] →
                Calls Try.prog 126 #[.slice (some ⟨g1, 0, none⟩) 6 6, .slice (some ⟨g2, 0, none⟩) 6 6] w' fun e w'' => e = .returned (.int .i64 (sgn (decide (na < nb)) true)) ∧ Drew w' w'' from fun w' r1 r2 => by
              obtain ⟨h1, h2, h3, h4⟩ := HM.out
              have c := implCompareBytes_any (some ⟨g1, 0, none⟩) (some ⟨g2, 0, none⟩) 6 6 (toI (be 6 ma)) (toI (be 6 mb)) w' w'.heap.size (reads_row (t := 141) (by rw [h3]; exact r1)) (reads_row (t := 141) (by rw [h4]; exact r2))
              rw [toU_toI, toU_toI] at c
              have e1 : cmpL (be 6 ma) (be 6 mb) = sgn (decide (na < nb)) true := by
                have p6 : (256 : Nat) ^ 6 = 281474976710656 := by decide
                have g9 := HM2.out
                have l1 := be_less 6 ma mb (by rw [p6]; omega) (by rw [p6]; omega)
                have l2 := be_less 6 mb ma (by rw [p6]; omega) (by rw [p6]; omega)
                by_cases hlt : na < nb
                · rw [decide_eq_true (show ma < mb by omega)] at l1
                  rw [cmpL_less l1, decide_eq_true hlt]
                  rfl
                · rw [decide_eq_true (show mb < ma by omega)] at l2
                  rw [cmpL_more l2, decide_eq_false hlt]
                  rfl
              rw [e1, toI_length, toI_length, be_length, be_length] at c
              exact c)
            go_wp2_with fail
            go_region_held3 (fun _ => True) (exact trivial) ((go_at_call 126; refine (HC.out wc.drew HR.out.1 HR.out.2.1).mono ?_; rintro e w5 ⟨rfl, hd⟩))
            have hold := Lib.hid ((Sl.Sep.drews HR.out.2.2 1).keep (hd.below _)).old
            go_wp2_with fail
            go_ret
            exact ⟨by rw [HE.out]; rfl, hold.out⟩
      · have HE := Lib.hid (cmpK_kind hia hib hk)
        have HC := Lib.hid (fun w => cmpInt_any ka kb hk w)
        go_wp2_with (go_at_call 86; refine (HC.out _).mono ?_; rintro e w5 ⟨rfl, rfl⟩)
        go_ret
        exact ⟨by rw [HE.out]; rfl, S4.old⟩
end Go.Proofs.Ytmnedjhfibmcnaa.L4

