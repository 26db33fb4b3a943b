/-
  The contracts of chapter 5's stateOf and mergeStates of the program. Conditions: at most 2^40 fields. (The region that draws its order is written by my program gen_l5ih.py.)
-/
import Derived.Test.YtephiilicebdcaaL5Ig
import Derived.Test.YtephiilicebdcaaL5Mrg
import Derived.Test.YtephiilicebdcaaL5Ihe
namespace Go.Proofs.Ytephiilicebdcaa.L5
set_option maxRecDepth 100000
open L4 (boxR push_box box_at)
open Go.ChangeShapes Go.WideShapes Go.ChangeAt Go.RowKit Mem Sl Ex L2 Sv
set_option linter.unusedVariables false
set_option linter.unusedSimpArgs false

set_option maxHeartbeats 2000000 in
theorem stateOf_any (a : Option Addr) (c : Nat) (l : List F) (s : ByteArray) (hl : l.length ≤ 1099511627776) (w : World) (hr : Reads w w.heap.size a (cellsF l)) :
    Calls Try.prog 53 #[.agg #[.slice a l.length c], .string s] w fun e w' => e = .returned (.agg #[.bool (getB l s.data.toList), .int .i64 (getN l s.data.toList)]) ∧ Below w.heap.size w w' := by
  have HG := Lib.hid (fun w' (h : Below w.heap.size w w') => getField_any a c l s hl w' ((hr.below h).more h.size))
  obtain ⟨n, hn⟩ : ∃ n, n = l.length := ⟨_, rfl⟩
  rw [← hn]
  rw [← hn] at HG
  obtain ⟨x, hx⟩ : ∃ r, r = getN l s.data.toList := ⟨_, rfl⟩
  obtain ⟨b, hb⟩ : ∃ r, r = getB l s.data.toList := ⟨_, rfl⟩
  rw [← hx, ← hb] at HG ⊢
  clear hn hr hx hb
  have S0 := Sep.start w
  have S1 := push_box S0 26 #[.slice a n c] w.heap.size rfl
  have S2 := Lib.hid (push_box S1 80 #[.bool false, .int .i64 0] (w.heap.size + 1) (by simp))
  clear S0 S1
  obtain ⟨W1, hW1⟩ : ∃ u, u = (w.alloc (.cells #[.slice a n c] 26)).alloc (.cells #[.bool false, .int .i64 0] 80) := ⟨_, rfl⟩
  rw [← hW1] at S2
  go_enter Try.func53, Try.ntmps53
  go_upto_region 1 with fail
  rw [← hW1]
  clear hW1
  obtain ⟨r0, r1⟩ := Row.one (box_at S2.out 0 rfl)
  go_wp2_with fail
  go_at_call 13
  refine (HG.out _ S2.out.old).mono ?_
  rintro e w3 ⟨rfl, h3⟩
  have S3 := Lib.hid (S2.out.keep h3)
  clear h3 r0 r1
  obtain ⟨z0, z1⟩ := Row.two (box_at S3.out 1 rfl)
  have z2 := (box_at S3.out 1 rfl).free 0
  have z3 := (box_at S3.out 1 rfl).free 1
  have S4 := Lib.hid (put_two (x' := .bool b) (y' := .int .i64 x) S3.out 1 rfl)
  go_wp2_with fail
  refine bodyPost_ret (v := .agg #[.bool b, .int .i64 x]) (by simp [results, Try.results53, go_sem, z0, z1]) rfl ?_
  exact ⟨rfl, S4.out.old⟩
/-- mergeStates' answer. -/
def mrgV (n x y : Int) (h o f : Bool) : Value := .agg #[.bool (mrg n x y h o f).2, .int .i64 (mrg n x y h o f).1]
theorem mrgV_base {n y : Int} {h f : Bool} : mrgV n n y h h f = .agg #[.bool f, .int .i64 y] := by simp [mrgV, mrg]
theorem mrgV_side {n x : Int} {h o : Bool} (hne : ¬ (x = n ∧ o = h)) : mrgV n x n h o h = .agg #[.bool o, .int .i64 x] := by simp [mrgV, mrg, hne]
theorem mrgV_both {n x y : Int} {h o f : Bool} (h1 : ¬ (x = n ∧ o = h)) (h2 : ¬ (y = n ∧ f = h)) : mrgV n x y h o f = .agg #[.bool (o || f), .int .i64 (max x y)] := by simp [mrgV, mrg, h1, h2]
set_option maxHeartbeats 8000000 in
theorem mergeStates_any (n x y : Int) (h o f : Bool) (w : World) :
    Calls Try.prog 52 #[.agg #[.bool h, .int .i64 n], .agg #[.bool o, .int .i64 x], .agg #[.bool f, .int .i64 y]] w fun e w' => e = .returned (mrgV n x y h o f) ∧ Below w.heap.size w w' := by
  have HM := Lib.hid (L3.implMax_b x y)
  have S0 := Sep.start w
  have S1 := push_box S0 80 #[.bool h, .int .i64 n] w.heap.size rfl
  have S2 := push_box S1 80 #[.bool o, .int .i64 x] (w.heap.size + 1) (by simp)
  have S3 := push_box S2 80 #[.bool f, .int .i64 y] (w.heap.size + 1 + 1) (by simp)
  have S4 := Lib.hid (push_box S3 80 #[.bool false, .int .i64 0] (w.heap.size + 1 + 1 + 1) (by simp))
  clear S0 S1 S2 S3
  obtain ⟨W1, hW1⟩ : ∃ u, u = (((w.alloc (.cells #[.bool h, .int .i64 n] 80)).alloc (.cells #[.bool o, .int .i64 x] 80)).alloc (.cells #[.bool f, .int .i64 y] 80)).alloc (.cells #[.bool false, .int .i64 0] 80) := ⟨_, rfl⟩
  rw [← hW1] at S4
  go_enter Try.func52, Try.ntmps52
  go_upto_region 1 with fail
  rw [← hW1]
  clear hW1
  obtain ⟨b0, b1⟩ := Row.two (box_at S4.out 0 rfl)
  obtain ⟨a0, a1⟩ := Row.two (box_at S4.out 1 rfl)
  obtain ⟨c0, c1⟩ := Row.two (box_at S4.out 2 rfl)
  obtain ⟨z0, z1⟩ := Row.two (box_at S4.out 3 rfl)
  have z2 := (box_at S4.out 3 rfl).free 0
  have z3 := (box_at S4.out 3 rfl).free 1
  by_cases h1 : x = n ∧ o = h
  · obtain ⟨rfl, rfl⟩ := h1
    have S5 := Lib.hid (put_two (x' := .bool f) (y' := .int .i64 y) S4.out 3 rfl)
    have HE := Lib.hid (mrgV_base (n := x) (y := y) (h := o) (f := f))
    have hx : (x == x) = true := by simp
    cases o <;>
      (go_wp2_with fail
       refine bodyPost_ret (v := .agg #[.bool f, .int .i64 y]) (by simp [results, Try.results52, go_sem, z0, z1]) rfl ?_
       rw [HE.out]
       exact ⟨rfl, S5.out.old⟩)
  · by_cases h2 : y = n ∧ f = h
    · obtain ⟨rfl, rfl⟩ := h2
      have S5 := Lib.hid (put_two (x' := .bool o) (y' := .int .i64 x) S4.out 3 rfl)
      have HE := Lib.hid (mrgV_side h1)
      have hyy : (y == y) = true := by simp
      by_cases hx : x = y
      · subst hx
        have hof : ¬ o = f := fun e => h1 ⟨rfl, e⟩
        clear h1
        cases o <;> cases f <;> simp at hof <;>
          (go_wp2_with fail
           refine bodyPost_ret (v := .agg #[.bool _, .int .i64 x]) (by simp [results, Try.results52, go_sem, z0, z1]; rfl) rfl ?_
           rw [HE.out]
           exact ⟨rfl, S5.out.old⟩)
      · have hx' : (x == y) = false := by rw [beq_eq_false_iff_ne]; exact hx
        clear h1
        cases o <;> cases f <;>
          (go_wp2_with fail
           refine bodyPost_ret (v := .agg #[.bool _, .int .i64 x]) (by simp [results, Try.results52, go_sem, z0, z1]; rfl) rfl ?_
           rw [HE.out]
           exact ⟨rfl, S5.out.old⟩)
    · have HE := Lib.hid (mrgV_both h1 h2)
      have HN1 := Lib.hid h1
      have HN2 := Lib.hid h2
      clear h1 h2
      cases o <;> cases f <;> cases h
      · -- o false f false h false
        have hneg1 : (x == n) = false := by rw [beq_eq_false_iff_ne]; exact fun e => HN1.out ⟨e, rfl⟩
        have hneg2 : (y == n) = false := by rw [beq_eq_false_iff_ne]; exact fun e => HN2.out ⟨e, rfl⟩
        have hx := 0
        go_upto_region 5 with fail
        clear b0 b1 z0 z1 z2 z3 hneg1 hneg2 hx
        refine wp_region_held_drew (S := (fun w' => w'.cell? ⟨w.heap.size + 1, 0, none⟩ = some (.bool false) ∧ w'.cell? ⟨w.heap.size + 1, 1, none⟩ = some (.int .i64 x) ∧ w'.cell? ⟨w.heap.size + 1 + 1, 0, none⟩ = some (.bool false) ∧ w'.cell? ⟨w.heap.size + 1 + 1, 1, none⟩ = some (.int .i64 y))) (by kernel_rfl) ⟨a0, a1, c0, c1⟩ (fun hS => ?_)
        refine Reg.take_op (i := 0) (v := ?_) rfl (by kernel_rfl) (by kernel_rfl) (by kernel_rfl) (fun _ _ _ h => h) (by rfl) ?_ (by assumption) ?_
        rotate_left
        · (intro w hSw; (try dsimp only at hSw); go_simp; try with_reducible rfl)
        try simp only [Act.put, List.setIfInBounds_toArray, List.set_cons_zero, List.set_cons_succ]
        refine Reg.take_op (i := 1) (v := ?_) rfl (by kernel_rfl) (by kernel_rfl) (by kernel_rfl) (fun _ _ _ h => h) (by rfl) ?_ (by assumption) ?_
        rotate_left
        · (intro w hSw; (try dsimp only at hSw); go_simp; try with_reducible rfl)
        try simp only [Act.put, List.setIfInBounds_toArray, List.set_cons_zero, List.set_cons_succ]
        refine Reg.take_op (i := 2) (v := ?_) rfl (by kernel_rfl) (by kernel_rfl) (by kernel_rfl) (fun _ _ _ h => h) (by rfl) ?_ (by assumption) ?_
        rotate_left
        · (intro w hSw; (try dsimp only at hSw); go_simp; try with_reducible rfl)
        try simp only [Act.put, List.setIfInBounds_toArray, List.set_cons_zero, List.set_cons_succ]
        refine Reg.take_op (i := 3) (v := ?_) rfl (by kernel_rfl) (by kernel_rfl) (by kernel_rfl) (fun _ _ _ h => h) (by rfl) ?_ (by assumption) ?_
        rotate_left
        · (intro w hSw; (try dsimp only at hSw); go_simp; try with_reducible rfl)
        try simp only [Act.put, List.setIfInBounds_toArray, List.set_cons_zero, List.set_cons_succ]
        refine Reg.take_op (i := 4) (v := ?_) rfl (by kernel_rfl) (by kernel_rfl) (by kernel_rfl) (fun _ _ _ h => h) (by rfl) ?_ (by assumption) ?_
        rotate_left
        · (intro w hSw; (try dsimp only at hSw); go_simp; try with_reducible rfl)
        try simp only [Act.put, List.setIfInBounds_toArray, List.set_cons_zero, List.set_cons_succ]
        refine Reg.take_op (i := 5) (v := ?_) rfl (by kernel_rfl) (by kernel_rfl) (by kernel_rfl) (fun _ _ _ h => h) (by rfl) ?_ (by assumption) ?_
        rotate_left
        · (intro w hSw; (try dsimp only at hSw); go_simp; try with_reducible rfl)
        try simp only [Act.put, List.setIfInBounds_toArray, List.set_cons_zero, List.set_cons_succ]
        refine Reg.take_op (i := 6) (v := ?_) rfl (by kernel_rfl) (by kernel_rfl) (by kernel_rfl) (fun _ _ _ h => h) (by rfl) ?_ (by assumption) ?_
        rotate_left
        · (intro w hSw; (try dsimp only at hSw); go_simp; try with_reducible rfl)
        try simp only [Act.put, List.setIfInBounds_toArray, List.set_cons_zero, List.set_cons_succ]
        refine Reg.take_op (i := 7) (v := ?_) rfl (by kernel_rfl) (by kernel_rfl) (by kernel_rfl) (fun _ _ _ h => h) (by rfl) ?_ (by assumption) ?_
        rotate_left
        · (intro w hSw; (try dsimp only at hSw); go_simp; try with_reducible rfl)
        try simp only [Act.put, List.setIfInBounds_toArray, List.set_cons_zero, List.set_cons_succ]
        refine Reg.take_op (i := 8) (v := ?_) rfl (by kernel_rfl) (by kernel_rfl) (by kernel_rfl) (fun _ _ _ h => h) (by rfl) ?_ (by assumption) ?_
        rotate_left
        · (intro w hSw; (try dsimp only at hSw); go_simp; try with_reducible rfl)
        try simp only [Act.put, List.setIfInBounds_toArray, List.set_cons_zero, List.set_cons_succ]
        refine Reg.take_op (i := 9) (v := ?_) rfl (by kernel_rfl) (by kernel_rfl) (by kernel_rfl) (fun _ _ _ h => h) (by rfl) ?_ (by assumption) ?_
        rotate_left
        · (intro w hSw; (try dsimp only at hSw); go_simp; try with_reducible rfl)
        try simp only [Act.put, List.setIfInBounds_toArray, List.set_cons_zero, List.set_cons_succ]
        refine Reg.one_op (i := 10) rfl (by kernel_rfl) (fun K hK => ?_)
        go_simp
        go_at_call 73
        refine (HM.out _).mono ?_
        rintro e w5 ⟨rfl, h5⟩
        have S5 := Lib.hid ((S4.out.drews 1).keep h5)
        clear h5
        go_wp2_with fail
        refine hK.out _ _ ⟨(Row.two (box_at S5.out 1 rfl)).1, (Row.two (box_at S5.out 1 rfl)).2, (Row.two (box_at S5.out 2 rfl)).1, (Row.two (box_at S5.out 2 rfl)).2⟩ (fun hS => ?_)
        clear hK K
        try simp only [Act.put, List.setIfInBounds_toArray, List.set_cons_zero, List.set_cons_succ]
        refine Reg.take_op (i := 11) (v := ?_) rfl (by kernel_rfl) (by kernel_rfl) (by kernel_rfl) (fun _ _ _ h => h) (by rfl) ?_ (by assumption) ?_
        rotate_left
        · (intro w hSw; (try dsimp only at hSw); go_simp; try with_reducible rfl)
        try simp only [Act.put, List.setIfInBounds_toArray, List.set_cons_zero, List.set_cons_succ]
        refine Reg.one_op (i := 12) rfl (by kernel_rfl) (fun K hK => ?_)
        go_simp
        obtain ⟨z0, z1⟩ := Row.two (box_at S5.out 3 rfl)
        have z2 := (box_at S5.out 3 rfl).free 0
        have z3 := (box_at S5.out 3 rfl).free 1
        have S6 := Lib.hid (put_two (x' := .bool false) (y' := .int .i64 (max x y)) S5.out 3 rfl)
        go_simp
        refine hK.out _ _ ⟨(Row.two (box_at S6.out 1 rfl)).1, (Row.two (box_at S6.out 1 rfl)).2, (Row.two (box_at S6.out 2 rfl)).1, (Row.two (box_at S6.out 2 rfl)).2⟩ (fun hS => ?_)
        clear hK K
        try simp only [Act.put, List.setIfInBounds_toArray, List.set_cons_zero, List.set_cons_succ]
        refine wpAnyH_done (by kernel_rfl) ?_ _
        obtain ⟨y0, y1⟩ := Row.two (box_at S6.out 3 rfl)
        go_wp2_with fail
        refine bodyPost_ret (v := .agg #[.bool false, .int .i64 (max x y)]) (by simp [results, Try.results52, go_sem, y0, y1]) rfl ?_
        rw [HE.out]
        exact ⟨rfl, S6.out.old⟩
      · -- o false f false h true
        have hneg1 := 0
        have hneg2 := 0
        have hx := 0
        go_upto_region 5 with fail
        clear b0 b1 z0 z1 z2 z3 hneg1 hneg2 hx
        refine wp_region_held_drew (S := (fun w' => w'.cell? ⟨w.heap.size + 1, 0, none⟩ = some (.bool false) ∧ w'.cell? ⟨w.heap.size + 1, 1, none⟩ = some (.int .i64 x) ∧ w'.cell? ⟨w.heap.size + 1 + 1, 0, none⟩ = some (.bool false) ∧ w'.cell? ⟨w.heap.size + 1 + 1, 1, none⟩ = some (.int .i64 y))) (by kernel_rfl) ⟨a0, a1, c0, c1⟩ (fun hS => ?_)
        refine Reg.take_op (i := 0) (v := ?_) rfl (by kernel_rfl) (by kernel_rfl) (by kernel_rfl) (fun _ _ _ h => h) (by rfl) ?_ (by assumption) ?_
        rotate_left
        · (intro w hSw; (try dsimp only at hSw); go_simp; try with_reducible rfl)
        try simp only [Act.put, List.setIfInBounds_toArray, List.set_cons_zero, List.set_cons_succ]
        refine Reg.take_op (i := 1) (v := ?_) rfl (by kernel_rfl) (by kernel_rfl) (by kernel_rfl) (fun _ _ _ h => h) (by rfl) ?_ (by assumption) ?_
        rotate_left
        · (intro w hSw; (try dsimp only at hSw); go_simp; try with_reducible rfl)
        try simp only [Act.put, List.setIfInBounds_toArray, List.set_cons_zero, List.set_cons_succ]
        refine Reg.take_op (i := 2) (v := ?_) rfl (by kernel_rfl) (by kernel_rfl) (by kernel_rfl) (fun _ _ _ h => h) (by rfl) ?_ (by assumption) ?_
        rotate_left
        · (intro w hSw; (try dsimp only at hSw); go_simp; try with_reducible rfl)
        try simp only [Act.put, List.setIfInBounds_toArray, List.set_cons_zero, List.set_cons_succ]
        refine Reg.take_op (i := 3) (v := ?_) rfl (by kernel_rfl) (by kernel_rfl) (by kernel_rfl) (fun _ _ _ h => h) (by rfl) ?_ (by assumption) ?_
        rotate_left
        · (intro w hSw; (try dsimp only at hSw); go_simp; try with_reducible rfl)
        try simp only [Act.put, List.setIfInBounds_toArray, List.set_cons_zero, List.set_cons_succ]
        refine Reg.take_op (i := 4) (v := ?_) rfl (by kernel_rfl) (by kernel_rfl) (by kernel_rfl) (fun _ _ _ h => h) (by rfl) ?_ (by assumption) ?_
        rotate_left
        · (intro w hSw; (try dsimp only at hSw); go_simp; try with_reducible rfl)
        try simp only [Act.put, List.setIfInBounds_toArray, List.set_cons_zero, List.set_cons_succ]
        refine Reg.take_op (i := 5) (v := ?_) rfl (by kernel_rfl) (by kernel_rfl) (by kernel_rfl) (fun _ _ _ h => h) (by rfl) ?_ (by assumption) ?_
        rotate_left
        · (intro w hSw; (try dsimp only at hSw); go_simp; try with_reducible rfl)
        try simp only [Act.put, List.setIfInBounds_toArray, List.set_cons_zero, List.set_cons_succ]
        refine Reg.take_op (i := 6) (v := ?_) rfl (by kernel_rfl) (by kernel_rfl) (by kernel_rfl) (fun _ _ _ h => h) (by rfl) ?_ (by assumption) ?_
        rotate_left
        · (intro w hSw; (try dsimp only at hSw); go_simp; try with_reducible rfl)
        try simp only [Act.put, List.setIfInBounds_toArray, List.set_cons_zero, List.set_cons_succ]
        refine Reg.take_op (i := 7) (v := ?_) rfl (by kernel_rfl) (by kernel_rfl) (by kernel_rfl) (fun _ _ _ h => h) (by rfl) ?_ (by assumption) ?_
        rotate_left
        · (intro w hSw; (try dsimp only at hSw); go_simp; try with_reducible rfl)
        try simp only [Act.put, List.setIfInBounds_toArray, List.set_cons_zero, List.set_cons_succ]
        refine Reg.take_op (i := 8) (v := ?_) rfl (by kernel_rfl) (by kernel_rfl) (by kernel_rfl) (fun _ _ _ h => h) (by rfl) ?_ (by assumption) ?_
        rotate_left
        · (intro w hSw; (try dsimp only at hSw); go_simp; try with_reducible rfl)
        try simp only [Act.put, List.setIfInBounds_toArray, List.set_cons_zero, List.set_cons_succ]
        refine Reg.take_op (i := 9) (v := ?_) rfl (by kernel_rfl) (by kernel_rfl) (by kernel_rfl) (fun _ _ _ h => h) (by rfl) ?_ (by assumption) ?_
        rotate_left
        · (intro w hSw; (try dsimp only at hSw); go_simp; try with_reducible rfl)
        try simp only [Act.put, List.setIfInBounds_toArray, List.set_cons_zero, List.set_cons_succ]
        refine Reg.one_op (i := 10) rfl (by kernel_rfl) (fun K hK => ?_)
        go_simp
        go_at_call 73
        refine (HM.out _).mono ?_
        rintro e w5 ⟨rfl, h5⟩
        have S5 := Lib.hid ((S4.out.drews 1).keep h5)
        clear h5
        go_wp2_with fail
        refine hK.out _ _ ⟨(Row.two (box_at S5.out 1 rfl)).1, (Row.two (box_at S5.out 1 rfl)).2, (Row.two (box_at S5.out 2 rfl)).1, (Row.two (box_at S5.out 2 rfl)).2⟩ (fun hS => ?_)
        clear hK K
        try simp only [Act.put, List.setIfInBounds_toArray, List.set_cons_zero, List.set_cons_succ]
        refine Reg.take_op (i := 11) (v := ?_) rfl (by kernel_rfl) (by kernel_rfl) (by kernel_rfl) (fun _ _ _ h => h) (by rfl) ?_ (by assumption) ?_
        rotate_left
        · (intro w hSw; (try dsimp only at hSw); go_simp; try with_reducible rfl)
        try simp only [Act.put, List.setIfInBounds_toArray, List.set_cons_zero, List.set_cons_succ]
        refine Reg.one_op (i := 12) rfl (by kernel_rfl) (fun K hK => ?_)
        go_simp
        obtain ⟨z0, z1⟩ := Row.two (box_at S5.out 3 rfl)
        have z2 := (box_at S5.out 3 rfl).free 0
        have z3 := (box_at S5.out 3 rfl).free 1
        have S6 := Lib.hid (put_two (x' := .bool false) (y' := .int .i64 (max x y)) S5.out 3 rfl)
        go_simp
        refine hK.out _ _ ⟨(Row.two (box_at S6.out 1 rfl)).1, (Row.two (box_at S6.out 1 rfl)).2, (Row.two (box_at S6.out 2 rfl)).1, (Row.two (box_at S6.out 2 rfl)).2⟩ (fun hS => ?_)
        clear hK K
        try simp only [Act.put, List.setIfInBounds_toArray, List.set_cons_zero, List.set_cons_succ]
        refine wpAnyH_done (by kernel_rfl) ?_ _
        obtain ⟨y0, y1⟩ := Row.two (box_at S6.out 3 rfl)
        go_wp2_with fail
        refine bodyPost_ret (v := .agg #[.bool false, .int .i64 (max x y)]) (by simp [results, Try.results52, go_sem, y0, y1]) rfl ?_
        rw [HE.out]
        exact ⟨rfl, S6.out.old⟩
      · -- o false f true h false
        have hneg1 : (x == n) = false := by rw [beq_eq_false_iff_ne]; exact fun e => HN1.out ⟨e, rfl⟩
        have hneg2 := 0
        have hx := 0
        go_upto_region 5 with fail
        clear b0 b1 z0 z1 z2 z3 hneg1 hneg2 hx
        refine wp_region_held_drew (S := (fun w' => w'.cell? ⟨w.heap.size + 1, 0, none⟩ = some (.bool false) ∧ w'.cell? ⟨w.heap.size + 1, 1, none⟩ = some (.int .i64 x) ∧ w'.cell? ⟨w.heap.size + 1 + 1, 0, none⟩ = some (.bool true) ∧ w'.cell? ⟨w.heap.size + 1 + 1, 1, none⟩ = some (.int .i64 y))) (by kernel_rfl) ⟨a0, a1, c0, c1⟩ (fun hS => ?_)
        refine Reg.take_op (i := 0) (v := ?_) rfl (by kernel_rfl) (by kernel_rfl) (by kernel_rfl) (fun _ _ _ h => h) (by rfl) ?_ (by assumption) ?_
        rotate_left
        · (intro w hSw; (try dsimp only at hSw); go_simp; try with_reducible rfl)
        try simp only [Act.put, List.setIfInBounds_toArray, List.set_cons_zero, List.set_cons_succ]
        refine Reg.take_op (i := 1) (v := ?_) rfl (by kernel_rfl) (by kernel_rfl) (by kernel_rfl) (fun _ _ _ h => h) (by rfl) ?_ (by assumption) ?_
        rotate_left
        · (intro w hSw; (try dsimp only at hSw); go_simp; try with_reducible rfl)
        try simp only [Act.put, List.setIfInBounds_toArray, List.set_cons_zero, List.set_cons_succ]
        refine Reg.take_op (i := 2) (v := ?_) rfl (by kernel_rfl) (by kernel_rfl) (by kernel_rfl) (fun _ _ _ h => h) (by rfl) ?_ (by assumption) ?_
        rotate_left
        · (intro w hSw; (try dsimp only at hSw); go_simp; try with_reducible rfl)
        try simp only [Act.put, List.setIfInBounds_toArray, List.set_cons_zero, List.set_cons_succ]
        refine Reg.take_op (i := 3) (v := ?_) rfl (by kernel_rfl) (by kernel_rfl) (by kernel_rfl) (fun _ _ _ h => h) (by rfl) ?_ (by assumption) ?_
        rotate_left
        · (intro w hSw; (try dsimp only at hSw); go_simp; try with_reducible rfl)
        try simp only [Act.put, List.setIfInBounds_toArray, List.set_cons_zero, List.set_cons_succ]
        refine Reg.take_op (i := 4) (v := ?_) rfl (by kernel_rfl) (by kernel_rfl) (by kernel_rfl) (fun _ _ _ h => h) (by rfl) ?_ (by assumption) ?_
        rotate_left
        · (intro w hSw; (try dsimp only at hSw); go_simp; try with_reducible rfl)
        try simp only [Act.put, List.setIfInBounds_toArray, List.set_cons_zero, List.set_cons_succ]
        refine Reg.take_op (i := 5) (v := ?_) rfl (by kernel_rfl) (by kernel_rfl) (by kernel_rfl) (fun _ _ _ h => h) (by rfl) ?_ (by assumption) ?_
        rotate_left
        · (intro w hSw; (try dsimp only at hSw); go_simp; try with_reducible rfl)
        try simp only [Act.put, List.setIfInBounds_toArray, List.set_cons_zero, List.set_cons_succ]
        refine Reg.take_op (i := 6) (v := ?_) rfl (by kernel_rfl) (by kernel_rfl) (by kernel_rfl) (fun _ _ _ h => h) (by rfl) ?_ (by assumption) ?_
        rotate_left
        · (intro w hSw; (try dsimp only at hSw); go_simp; try with_reducible rfl)
        try simp only [Act.put, List.setIfInBounds_toArray, List.set_cons_zero, List.set_cons_succ]
        refine Reg.take_op (i := 7) (v := ?_) rfl (by kernel_rfl) (by kernel_rfl) (by kernel_rfl) (fun _ _ _ h => h) (by rfl) ?_ (by assumption) ?_
        rotate_left
        · (intro w hSw; (try dsimp only at hSw); go_simp; try with_reducible rfl)
        try simp only [Act.put, List.setIfInBounds_toArray, List.set_cons_zero, List.set_cons_succ]
        refine Reg.take_op (i := 8) (v := ?_) rfl (by kernel_rfl) (by kernel_rfl) (by kernel_rfl) (fun _ _ _ h => h) (by rfl) ?_ (by assumption) ?_
        rotate_left
        · (intro w hSw; (try dsimp only at hSw); go_simp; try with_reducible rfl)
        try simp only [Act.put, List.setIfInBounds_toArray, List.set_cons_zero, List.set_cons_succ]
        refine Reg.take_op (i := 9) (v := ?_) rfl (by kernel_rfl) (by kernel_rfl) (by kernel_rfl) (fun _ _ _ h => h) (by rfl) ?_ (by assumption) ?_
        rotate_left
        · (intro w hSw; (try dsimp only at hSw); go_simp; try with_reducible rfl)
        try simp only [Act.put, List.setIfInBounds_toArray, List.set_cons_zero, List.set_cons_succ]
        refine Reg.one_op (i := 10) rfl (by kernel_rfl) (fun K hK => ?_)
        go_simp
        go_at_call 73
        refine (HM.out _).mono ?_
        rintro e w5 ⟨rfl, h5⟩
        have S5 := Lib.hid ((S4.out.drews 1).keep h5)
        clear h5
        go_wp2_with fail
        refine hK.out _ _ ⟨(Row.two (box_at S5.out 1 rfl)).1, (Row.two (box_at S5.out 1 rfl)).2, (Row.two (box_at S5.out 2 rfl)).1, (Row.two (box_at S5.out 2 rfl)).2⟩ (fun hS => ?_)
        clear hK K
        try simp only [Act.put, List.setIfInBounds_toArray, List.set_cons_zero, List.set_cons_succ]
        refine Reg.take_op (i := 11) (v := ?_) rfl (by kernel_rfl) (by kernel_rfl) (by kernel_rfl) (fun _ _ _ h => h) (by rfl) ?_ (by assumption) ?_
        rotate_left
        · (intro w hSw; (try dsimp only at hSw); go_simp; try with_reducible rfl)
        try simp only [Act.put, List.setIfInBounds_toArray, List.set_cons_zero, List.set_cons_succ]
        refine Reg.one_op (i := 12) rfl (by kernel_rfl) (fun K hK => ?_)
        go_simp
        obtain ⟨z0, z1⟩ := Row.two (box_at S5.out 3 rfl)
        have z2 := (box_at S5.out 3 rfl).free 0
        have z3 := (box_at S5.out 3 rfl).free 1
        have S6 := Lib.hid (put_two (x' := .bool true) (y' := .int .i64 (max x y)) S5.out 3 rfl)
        go_simp
        refine hK.out _ _ ⟨(Row.two (box_at S6.out 1 rfl)).1, (Row.two (box_at S6.out 1 rfl)).2, (Row.two (box_at S6.out 2 rfl)).1, (Row.two (box_at S6.out 2 rfl)).2⟩ (fun hS => ?_)
        clear hK K
        try simp only [Act.put, List.setIfInBounds_toArray, List.set_cons_zero, List.set_cons_succ]
        refine wpAnyH_done (by kernel_rfl) ?_ _
        obtain ⟨y0, y1⟩ := Row.two (box_at S6.out 3 rfl)
        go_wp2_with fail
        refine bodyPost_ret (v := .agg #[.bool true, .int .i64 (max x y)]) (by simp [results, Try.results52, go_sem, y0, y1]) rfl ?_
        rw [HE.out]
        exact ⟨rfl, S6.out.old⟩
      · -- o false f true h true
        have hneg1 := 0
        have hneg2 : (y == n) = false := by rw [beq_eq_false_iff_ne]; exact fun e => HN2.out ⟨e, rfl⟩
        have hx := 0
        go_upto_region 5 with fail
        clear b0 b1 z0 z1 z2 z3 hneg1 hneg2 hx
        refine wp_region_held_drew (S := (fun w' => w'.cell? ⟨w.heap.size + 1, 0, none⟩ = some (.bool false) ∧ w'.cell? ⟨w.heap.size + 1, 1, none⟩ = some (.int .i64 x) ∧ w'.cell? ⟨w.heap.size + 1 + 1, 0, none⟩ = some (.bool true) ∧ w'.cell? ⟨w.heap.size + 1 + 1, 1, none⟩ = some (.int .i64 y))) (by kernel_rfl) ⟨a0, a1, c0, c1⟩ (fun hS => ?_)
        refine Reg.take_op (i := 0) (v := ?_) rfl (by kernel_rfl) (by kernel_rfl) (by kernel_rfl) (fun _ _ _ h => h) (by rfl) ?_ (by assumption) ?_
        rotate_left
        · (intro w hSw; (try dsimp only at hSw); go_simp; try with_reducible rfl)
        try simp only [Act.put, List.setIfInBounds_toArray, List.set_cons_zero, List.set_cons_succ]
        refine Reg.take_op (i := 1) (v := ?_) rfl (by kernel_rfl) (by kernel_rfl) (by kernel_rfl) (fun _ _ _ h => h) (by rfl) ?_ (by assumption) ?_
        rotate_left
        · (intro w hSw; (try dsimp only at hSw); go_simp; try with_reducible rfl)
        try simp only [Act.put, List.setIfInBounds_toArray, List.set_cons_zero, List.set_cons_succ]
        refine Reg.take_op (i := 2) (v := ?_) rfl (by kernel_rfl) (by kernel_rfl) (by kernel_rfl) (fun _ _ _ h => h) (by rfl) ?_ (by assumption) ?_
        rotate_left
        · (intro w hSw; (try dsimp only at hSw); go_simp; try with_reducible rfl)
        try simp only [Act.put, List.setIfInBounds_toArray, List.set_cons_zero, List.set_cons_succ]
        refine Reg.take_op (i := 3) (v := ?_) rfl (by kernel_rfl) (by kernel_rfl) (by kernel_rfl) (fun _ _ _ h => h) (by rfl) ?_ (by assumption) ?_
        rotate_left
        · (intro w hSw; (try dsimp only at hSw); go_simp; try with_reducible rfl)
        try simp only [Act.put, List.setIfInBounds_toArray, List.set_cons_zero, List.set_cons_succ]
        refine Reg.take_op (i := 4) (v := ?_) rfl (by kernel_rfl) (by kernel_rfl) (by kernel_rfl) (fun _ _ _ h => h) (by rfl) ?_ (by assumption) ?_
        rotate_left
        · (intro w hSw; (try dsimp only at hSw); go_simp; try with_reducible rfl)
        try simp only [Act.put, List.setIfInBounds_toArray, List.set_cons_zero, List.set_cons_succ]
        refine Reg.take_op (i := 5) (v := ?_) rfl (by kernel_rfl) (by kernel_rfl) (by kernel_rfl) (fun _ _ _ h => h) (by rfl) ?_ (by assumption) ?_
        rotate_left
        · (intro w hSw; (try dsimp only at hSw); go_simp; try with_reducible rfl)
        try simp only [Act.put, List.setIfInBounds_toArray, List.set_cons_zero, List.set_cons_succ]
        refine Reg.take_op (i := 6) (v := ?_) rfl (by kernel_rfl) (by kernel_rfl) (by kernel_rfl) (fun _ _ _ h => h) (by rfl) ?_ (by assumption) ?_
        rotate_left
        · (intro w hSw; (try dsimp only at hSw); go_simp; try with_reducible rfl)
        try simp only [Act.put, List.setIfInBounds_toArray, List.set_cons_zero, List.set_cons_succ]
        refine Reg.take_op (i := 7) (v := ?_) rfl (by kernel_rfl) (by kernel_rfl) (by kernel_rfl) (fun _ _ _ h => h) (by rfl) ?_ (by assumption) ?_
        rotate_left
        · (intro w hSw; (try dsimp only at hSw); go_simp; try with_reducible rfl)
        try simp only [Act.put, List.setIfInBounds_toArray, List.set_cons_zero, List.set_cons_succ]
        refine Reg.take_op (i := 8) (v := ?_) rfl (by kernel_rfl) (by kernel_rfl) (by kernel_rfl) (fun _ _ _ h => h) (by rfl) ?_ (by assumption) ?_
        rotate_left
        · (intro w hSw; (try dsimp only at hSw); go_simp; try with_reducible rfl)
        try simp only [Act.put, List.setIfInBounds_toArray, List.set_cons_zero, List.set_cons_succ]
        refine Reg.take_op (i := 9) (v := ?_) rfl (by kernel_rfl) (by kernel_rfl) (by kernel_rfl) (fun _ _ _ h => h) (by rfl) ?_ (by assumption) ?_
        rotate_left
        · (intro w hSw; (try dsimp only at hSw); go_simp; try with_reducible rfl)
        try simp only [Act.put, List.setIfInBounds_toArray, List.set_cons_zero, List.set_cons_succ]
        refine Reg.one_op (i := 10) rfl (by kernel_rfl) (fun K hK => ?_)
        go_simp
        go_at_call 73
        refine (HM.out _).mono ?_
        rintro e w5 ⟨rfl, h5⟩
        have S5 := Lib.hid ((S4.out.drews 1).keep h5)
        clear h5
        go_wp2_with fail
        refine hK.out _ _ ⟨(Row.two (box_at S5.out 1 rfl)).1, (Row.two (box_at S5.out 1 rfl)).2, (Row.two (box_at S5.out 2 rfl)).1, (Row.two (box_at S5.out 2 rfl)).2⟩ (fun hS => ?_)
        clear hK K
        try simp only [Act.put, List.setIfInBounds_toArray, List.set_cons_zero, List.set_cons_succ]
        refine Reg.take_op (i := 11) (v := ?_) rfl (by kernel_rfl) (by kernel_rfl) (by kernel_rfl) (fun _ _ _ h => h) (by rfl) ?_ (by assumption) ?_
        rotate_left
        · (intro w hSw; (try dsimp only at hSw); go_simp; try with_reducible rfl)
        try simp only [Act.put, List.setIfInBounds_toArray, List.set_cons_zero, List.set_cons_succ]
        refine Reg.one_op (i := 12) rfl (by kernel_rfl) (fun K hK => ?_)
        go_simp
        obtain ⟨z0, z1⟩ := Row.two (box_at S5.out 3 rfl)
        have z2 := (box_at S5.out 3 rfl).free 0
        have z3 := (box_at S5.out 3 rfl).free 1
        have S6 := Lib.hid (put_two (x' := .bool true) (y' := .int .i64 (max x y)) S5.out 3 rfl)
        go_simp
        refine hK.out _ _ ⟨(Row.two (box_at S6.out 1 rfl)).1, (Row.two (box_at S6.out 1 rfl)).2, (Row.two (box_at S6.out 2 rfl)).1, (Row.two (box_at S6.out 2 rfl)).2⟩ (fun hS => ?_)
        clear hK K
        try simp only [Act.put, List.setIfInBounds_toArray, List.set_cons_zero, List.set_cons_succ]
        refine wpAnyH_done (by kernel_rfl) ?_ _
        obtain ⟨y0, y1⟩ := Row.two (box_at S6.out 3 rfl)
        go_wp2_with fail
        refine bodyPost_ret (v := .agg #[.bool true, .int .i64 (max x y)]) (by simp [results, Try.results52, go_sem, y0, y1]) rfl ?_
        rw [HE.out]
        exact ⟨rfl, S6.out.old⟩
      · -- o true f false h false
        have hneg1 := 0
        have hneg2 : (y == n) = false := by rw [beq_eq_false_iff_ne]; exact fun e => HN2.out ⟨e, rfl⟩
        have hx := 0
        go_upto_region 5 with fail
        clear b0 b1 z0 z1 z2 z3 hneg1 hneg2 hx
        refine wp_region_held_drew (S := (fun w' => w'.cell? ⟨w.heap.size + 1, 0, none⟩ = some (.bool true) ∧ w'.cell? ⟨w.heap.size + 1, 1, none⟩ = some (.int .i64 x) ∧ w'.cell? ⟨w.heap.size + 1 + 1, 0, none⟩ = some (.bool false) ∧ w'.cell? ⟨w.heap.size + 1 + 1, 1, none⟩ = some (.int .i64 y))) (by kernel_rfl) ⟨a0, a1, c0, c1⟩ (fun hS => ?_)
        refine Reg.take_op (i := 0) (v := ?_) rfl (by kernel_rfl) (by kernel_rfl) (by kernel_rfl) (fun _ _ _ h => h) (by rfl) ?_ (by assumption) ?_
        rotate_left
        · (intro w hSw; (try dsimp only at hSw); go_simp; try with_reducible rfl)
        try simp only [Act.put, List.setIfInBounds_toArray, List.set_cons_zero, List.set_cons_succ]
        refine Reg.take_op (i := 1) (v := ?_) rfl (by kernel_rfl) (by kernel_rfl) (by kernel_rfl) (fun _ _ _ h => h) (by rfl) ?_ (by assumption) ?_
        rotate_left
        · (intro w hSw; (try dsimp only at hSw); go_simp; try with_reducible rfl)
        try simp only [Act.put, List.setIfInBounds_toArray, List.set_cons_zero, List.set_cons_succ]
        refine Reg.take_op (i := 2) (v := ?_) rfl (by kernel_rfl) (by kernel_rfl) (by kernel_rfl) (fun _ _ _ h => h) (by rfl) ?_ (by assumption) ?_
        rotate_left
        · (intro w hSw; (try dsimp only at hSw); go_simp; try with_reducible rfl)
        try simp only [Act.put, List.setIfInBounds_toArray, List.set_cons_zero, List.set_cons_succ]
        refine Reg.skip_op (i := 3) rfl (by kernel_rfl) (by kernel_rfl) (by kernel_rfl) (fun _ _ _ h => h) (by rfl) (by assumption) ?_
        try simp only [Act.put, List.setIfInBounds_toArray, List.set_cons_zero, List.set_cons_succ]
        refine Reg.skip_op (i := 4) rfl (by kernel_rfl) (by kernel_rfl) (by kernel_rfl) (fun _ _ _ h => h) (by rfl) (by assumption) ?_
        try simp only [Act.put, List.setIfInBounds_toArray, List.set_cons_zero, List.set_cons_succ]
        refine Reg.take_op (i := 5) (v := ?_) rfl (by kernel_rfl) (by kernel_rfl) (by kernel_rfl) (fun _ _ _ h => h) (by rfl) ?_ (by assumption) ?_
        rotate_left
        · (intro w hSw; (try dsimp only at hSw); go_simp; try with_reducible rfl)
        try simp only [Act.put, List.setIfInBounds_toArray, List.set_cons_zero, List.set_cons_succ]
        refine Reg.take_op (i := 6) (v := ?_) rfl (by kernel_rfl) (by kernel_rfl) (by kernel_rfl) (fun _ _ _ h => h) (by rfl) ?_ (by assumption) ?_
        rotate_left
        · (intro w hSw; (try dsimp only at hSw); go_simp; try with_reducible rfl)
        try simp only [Act.put, List.setIfInBounds_toArray, List.set_cons_zero, List.set_cons_succ]
        refine Reg.take_op (i := 7) (v := ?_) rfl (by kernel_rfl) (by kernel_rfl) (by kernel_rfl) (fun _ _ _ h => h) (by rfl) ?_ (by assumption) ?_
        rotate_left
        · (intro w hSw; (try dsimp only at hSw); go_simp; try with_reducible rfl)
        try simp only [Act.put, List.setIfInBounds_toArray, List.set_cons_zero, List.set_cons_succ]
        refine Reg.take_op (i := 8) (v := ?_) rfl (by kernel_rfl) (by kernel_rfl) (by kernel_rfl) (fun _ _ _ h => h) (by rfl) ?_ (by assumption) ?_
        rotate_left
        · (intro w hSw; (try dsimp only at hSw); go_simp; try with_reducible rfl)
        try simp only [Act.put, List.setIfInBounds_toArray, List.set_cons_zero, List.set_cons_succ]
        refine Reg.take_op (i := 9) (v := ?_) rfl (by kernel_rfl) (by kernel_rfl) (by kernel_rfl) (fun _ _ _ h => h) (by rfl) ?_ (by assumption) ?_
        rotate_left
        · (intro w hSw; (try dsimp only at hSw); go_simp; try with_reducible rfl)
        try simp only [Act.put, List.setIfInBounds_toArray, List.set_cons_zero, List.set_cons_succ]
        refine Reg.one_op (i := 10) rfl (by kernel_rfl) (fun K hK => ?_)
        go_simp
        go_at_call 73
        refine (HM.out _).mono ?_
        rintro e w5 ⟨rfl, h5⟩
        have S5 := Lib.hid ((S4.out.drews 1).keep h5)
        clear h5
        go_wp2_with fail
        refine hK.out _ _ ⟨(Row.two (box_at S5.out 1 rfl)).1, (Row.two (box_at S5.out 1 rfl)).2, (Row.two (box_at S5.out 2 rfl)).1, (Row.two (box_at S5.out 2 rfl)).2⟩ (fun hS => ?_)
        clear hK K
        try simp only [Act.put, List.setIfInBounds_toArray, List.set_cons_zero, List.set_cons_succ]
        refine Reg.take_op (i := 11) (v := ?_) rfl (by kernel_rfl) (by kernel_rfl) (by kernel_rfl) (fun _ _ _ h => h) (by rfl) ?_ (by assumption) ?_
        rotate_left
        · (intro w hSw; (try dsimp only at hSw); go_simp; try with_reducible rfl)
        try simp only [Act.put, List.setIfInBounds_toArray, List.set_cons_zero, List.set_cons_succ]
        refine Reg.one_op (i := 12) rfl (by kernel_rfl) (fun K hK => ?_)
        go_simp
        obtain ⟨z0, z1⟩ := Row.two (box_at S5.out 3 rfl)
        have z2 := (box_at S5.out 3 rfl).free 0
        have z3 := (box_at S5.out 3 rfl).free 1
        have S6 := Lib.hid (put_two (x' := .bool true) (y' := .int .i64 (max x y)) S5.out 3 rfl)
        go_simp
        refine hK.out _ _ ⟨(Row.two (box_at S6.out 1 rfl)).1, (Row.two (box_at S6.out 1 rfl)).2, (Row.two (box_at S6.out 2 rfl)).1, (Row.two (box_at S6.out 2 rfl)).2⟩ (fun hS => ?_)
        clear hK K
        try simp only [Act.put, List.setIfInBounds_toArray, List.set_cons_zero, List.set_cons_succ]
        refine wpAnyH_done (by kernel_rfl) ?_ _
        obtain ⟨y0, y1⟩ := Row.two (box_at S6.out 3 rfl)
        go_wp2_with fail
        refine bodyPost_ret (v := .agg #[.bool true, .int .i64 (max x y)]) (by simp [results, Try.results52, go_sem, y0, y1]) rfl ?_
        rw [HE.out]
        exact ⟨rfl, S6.out.old⟩
      · -- o true f false h true
        have hneg1 : (x == n) = false := by rw [beq_eq_false_iff_ne]; exact fun e => HN1.out ⟨e, rfl⟩
        have hneg2 := 0
        have hx := 0
        go_upto_region 5 with fail
        clear b0 b1 z0 z1 z2 z3 hneg1 hneg2 hx
        refine wp_region_held_drew (S := (fun w' => w'.cell? ⟨w.heap.size + 1, 0, none⟩ = some (.bool true) ∧ w'.cell? ⟨w.heap.size + 1, 1, none⟩ = some (.int .i64 x) ∧ w'.cell? ⟨w.heap.size + 1 + 1, 0, none⟩ = some (.bool false) ∧ w'.cell? ⟨w.heap.size + 1 + 1, 1, none⟩ = some (.int .i64 y))) (by kernel_rfl) ⟨a0, a1, c0, c1⟩ (fun hS => ?_)
        refine Reg.take_op (i := 0) (v := ?_) rfl (by kernel_rfl) (by kernel_rfl) (by kernel_rfl) (fun _ _ _ h => h) (by rfl) ?_ (by assumption) ?_
        rotate_left
        · (intro w hSw; (try dsimp only at hSw); go_simp; try with_reducible rfl)
        try simp only [Act.put, List.setIfInBounds_toArray, List.set_cons_zero, List.set_cons_succ]
        refine Reg.take_op (i := 1) (v := ?_) rfl (by kernel_rfl) (by kernel_rfl) (by kernel_rfl) (fun _ _ _ h => h) (by rfl) ?_ (by assumption) ?_
        rotate_left
        · (intro w hSw; (try dsimp only at hSw); go_simp; try with_reducible rfl)
        try simp only [Act.put, List.setIfInBounds_toArray, List.set_cons_zero, List.set_cons_succ]
        refine Reg.take_op (i := 2) (v := ?_) rfl (by kernel_rfl) (by kernel_rfl) (by kernel_rfl) (fun _ _ _ h => h) (by rfl) ?_ (by assumption) ?_
        rotate_left
        · (intro w hSw; (try dsimp only at hSw); go_simp; try with_reducible rfl)
        try simp only [Act.put, List.setIfInBounds_toArray, List.set_cons_zero, List.set_cons_succ]
        refine Reg.skip_op (i := 3) rfl (by kernel_rfl) (by kernel_rfl) (by kernel_rfl) (fun _ _ _ h => h) (by rfl) (by assumption) ?_
        try simp only [Act.put, List.setIfInBounds_toArray, List.set_cons_zero, List.set_cons_succ]
        refine Reg.skip_op (i := 4) rfl (by kernel_rfl) (by kernel_rfl) (by kernel_rfl) (fun _ _ _ h => h) (by rfl) (by assumption) ?_
        try simp only [Act.put, List.setIfInBounds_toArray, List.set_cons_zero, List.set_cons_succ]
        refine Reg.take_op (i := 5) (v := ?_) rfl (by kernel_rfl) (by kernel_rfl) (by kernel_rfl) (fun _ _ _ h => h) (by rfl) ?_ (by assumption) ?_
        rotate_left
        · (intro w hSw; (try dsimp only at hSw); go_simp; try with_reducible rfl)
        try simp only [Act.put, List.setIfInBounds_toArray, List.set_cons_zero, List.set_cons_succ]
        refine Reg.take_op (i := 6) (v := ?_) rfl (by kernel_rfl) (by kernel_rfl) (by kernel_rfl) (fun _ _ _ h => h) (by rfl) ?_ (by assumption) ?_
        rotate_left
        · (intro w hSw; (try dsimp only at hSw); go_simp; try with_reducible rfl)
        try simp only [Act.put, List.setIfInBounds_toArray, List.set_cons_zero, List.set_cons_succ]
        refine Reg.take_op (i := 7) (v := ?_) rfl (by kernel_rfl) (by kernel_rfl) (by kernel_rfl) (fun _ _ _ h => h) (by rfl) ?_ (by assumption) ?_
        rotate_left
        · (intro w hSw; (try dsimp only at hSw); go_simp; try with_reducible rfl)
        try simp only [Act.put, List.setIfInBounds_toArray, List.set_cons_zero, List.set_cons_succ]
        refine Reg.take_op (i := 8) (v := ?_) rfl (by kernel_rfl) (by kernel_rfl) (by kernel_rfl) (fun _ _ _ h => h) (by rfl) ?_ (by assumption) ?_
        rotate_left
        · (intro w hSw; (try dsimp only at hSw); go_simp; try with_reducible rfl)
        try simp only [Act.put, List.setIfInBounds_toArray, List.set_cons_zero, List.set_cons_succ]
        refine Reg.take_op (i := 9) (v := ?_) rfl (by kernel_rfl) (by kernel_rfl) (by kernel_rfl) (fun _ _ _ h => h) (by rfl) ?_ (by assumption) ?_
        rotate_left
        · (intro w hSw; (try dsimp only at hSw); go_simp; try with_reducible rfl)
        try simp only [Act.put, List.setIfInBounds_toArray, List.set_cons_zero, List.set_cons_succ]
        refine Reg.one_op (i := 10) rfl (by kernel_rfl) (fun K hK => ?_)
        go_simp
        go_at_call 73
        refine (HM.out _).mono ?_
        rintro e w5 ⟨rfl, h5⟩
        have S5 := Lib.hid ((S4.out.drews 1).keep h5)
        clear h5
        go_wp2_with fail
        refine hK.out _ _ ⟨(Row.two (box_at S5.out 1 rfl)).1, (Row.two (box_at S5.out 1 rfl)).2, (Row.two (box_at S5.out 2 rfl)).1, (Row.two (box_at S5.out 2 rfl)).2⟩ (fun hS => ?_)
        clear hK K
        try simp only [Act.put, List.setIfInBounds_toArray, List.set_cons_zero, List.set_cons_succ]
        refine Reg.take_op (i := 11) (v := ?_) rfl (by kernel_rfl) (by kernel_rfl) (by kernel_rfl) (fun _ _ _ h => h) (by rfl) ?_ (by assumption) ?_
        rotate_left
        · (intro w hSw; (try dsimp only at hSw); go_simp; try with_reducible rfl)
        try simp only [Act.put, List.setIfInBounds_toArray, List.set_cons_zero, List.set_cons_succ]
        refine Reg.one_op (i := 12) rfl (by kernel_rfl) (fun K hK => ?_)
        go_simp
        obtain ⟨z0, z1⟩ := Row.two (box_at S5.out 3 rfl)
        have z2 := (box_at S5.out 3 rfl).free 0
        have z3 := (box_at S5.out 3 rfl).free 1
        have S6 := Lib.hid (put_two (x' := .bool true) (y' := .int .i64 (max x y)) S5.out 3 rfl)
        go_simp
        refine hK.out _ _ ⟨(Row.two (box_at S6.out 1 rfl)).1, (Row.two (box_at S6.out 1 rfl)).2, (Row.two (box_at S6.out 2 rfl)).1, (Row.two (box_at S6.out 2 rfl)).2⟩ (fun hS => ?_)
        clear hK K
        try simp only [Act.put, List.setIfInBounds_toArray, List.set_cons_zero, List.set_cons_succ]
        refine wpAnyH_done (by kernel_rfl) ?_ _
        obtain ⟨y0, y1⟩ := Row.two (box_at S6.out 3 rfl)
        go_wp2_with fail
        refine bodyPost_ret (v := .agg #[.bool true, .int .i64 (max x y)]) (by simp [results, Try.results52, go_sem, y0, y1]) rfl ?_
        rw [HE.out]
        exact ⟨rfl, S6.out.old⟩
      · -- o true f true h false
        have hneg1 := 0
        have hneg2 := 0
        have hx := 0
        go_upto_region 5 with fail
        clear b0 b1 z0 z1 z2 z3 hneg1 hneg2 hx
        refine wp_region_held_drew (S := (fun w' => w'.cell? ⟨w.heap.size + 1, 0, none⟩ = some (.bool true) ∧ w'.cell? ⟨w.heap.size + 1, 1, none⟩ = some (.int .i64 x) ∧ w'.cell? ⟨w.heap.size + 1 + 1, 0, none⟩ = some (.bool true) ∧ w'.cell? ⟨w.heap.size + 1 + 1, 1, none⟩ = some (.int .i64 y))) (by kernel_rfl) ⟨a0, a1, c0, c1⟩ (fun hS => ?_)
        refine Reg.take_op (i := 0) (v := ?_) rfl (by kernel_rfl) (by kernel_rfl) (by kernel_rfl) (fun _ _ _ h => h) (by rfl) ?_ (by assumption) ?_
        rotate_left
        · (intro w hSw; (try dsimp only at hSw); go_simp; try with_reducible rfl)
        try simp only [Act.put, List.setIfInBounds_toArray, List.set_cons_zero, List.set_cons_succ]
        refine Reg.take_op (i := 1) (v := ?_) rfl (by kernel_rfl) (by kernel_rfl) (by kernel_rfl) (fun _ _ _ h => h) (by rfl) ?_ (by assumption) ?_
        rotate_left
        · (intro w hSw; (try dsimp only at hSw); go_simp; try with_reducible rfl)
        try simp only [Act.put, List.setIfInBounds_toArray, List.set_cons_zero, List.set_cons_succ]
        refine Reg.take_op (i := 2) (v := ?_) rfl (by kernel_rfl) (by kernel_rfl) (by kernel_rfl) (fun _ _ _ h => h) (by rfl) ?_ (by assumption) ?_
        rotate_left
        · (intro w hSw; (try dsimp only at hSw); go_simp; try with_reducible rfl)
        try simp only [Act.put, List.setIfInBounds_toArray, List.set_cons_zero, List.set_cons_succ]
        refine Reg.skip_op (i := 3) rfl (by kernel_rfl) (by kernel_rfl) (by kernel_rfl) (fun _ _ _ h => h) (by rfl) (by assumption) ?_
        try simp only [Act.put, List.setIfInBounds_toArray, List.set_cons_zero, List.set_cons_succ]
        refine Reg.skip_op (i := 4) rfl (by kernel_rfl) (by kernel_rfl) (by kernel_rfl) (fun _ _ _ h => h) (by rfl) (by assumption) ?_
        try simp only [Act.put, List.setIfInBounds_toArray, List.set_cons_zero, List.set_cons_succ]
        refine Reg.take_op (i := 5) (v := ?_) rfl (by kernel_rfl) (by kernel_rfl) (by kernel_rfl) (fun _ _ _ h => h) (by rfl) ?_ (by assumption) ?_
        rotate_left
        · (intro w hSw; (try dsimp only at hSw); go_simp; try with_reducible rfl)
        try simp only [Act.put, List.setIfInBounds_toArray, List.set_cons_zero, List.set_cons_succ]
        refine Reg.take_op (i := 6) (v := ?_) rfl (by kernel_rfl) (by kernel_rfl) (by kernel_rfl) (fun _ _ _ h => h) (by rfl) ?_ (by assumption) ?_
        rotate_left
        · (intro w hSw; (try dsimp only at hSw); go_simp; try with_reducible rfl)
        try simp only [Act.put, List.setIfInBounds_toArray, List.set_cons_zero, List.set_cons_succ]
        refine Reg.take_op (i := 7) (v := ?_) rfl (by kernel_rfl) (by kernel_rfl) (by kernel_rfl) (fun _ _ _ h => h) (by rfl) ?_ (by assumption) ?_
        rotate_left
        · (intro w hSw; (try dsimp only at hSw); go_simp; try with_reducible rfl)
        try simp only [Act.put, List.setIfInBounds_toArray, List.set_cons_zero, List.set_cons_succ]
        refine Reg.take_op (i := 8) (v := ?_) rfl (by kernel_rfl) (by kernel_rfl) (by kernel_rfl) (fun _ _ _ h => h) (by rfl) ?_ (by assumption) ?_
        rotate_left
        · (intro w hSw; (try dsimp only at hSw); go_simp; try with_reducible rfl)
        try simp only [Act.put, List.setIfInBounds_toArray, List.set_cons_zero, List.set_cons_succ]
        refine Reg.take_op (i := 9) (v := ?_) rfl (by kernel_rfl) (by kernel_rfl) (by kernel_rfl) (fun _ _ _ h => h) (by rfl) ?_ (by assumption) ?_
        rotate_left
        · (intro w hSw; (try dsimp only at hSw); go_simp; try with_reducible rfl)
        try simp only [Act.put, List.setIfInBounds_toArray, List.set_cons_zero, List.set_cons_succ]
        refine Reg.one_op (i := 10) rfl (by kernel_rfl) (fun K hK => ?_)
        go_simp
        go_at_call 73
        refine (HM.out _).mono ?_
        rintro e w5 ⟨rfl, h5⟩
        have S5 := Lib.hid ((S4.out.drews 1).keep h5)
        clear h5
        go_wp2_with fail
        refine hK.out _ _ ⟨(Row.two (box_at S5.out 1 rfl)).1, (Row.two (box_at S5.out 1 rfl)).2, (Row.two (box_at S5.out 2 rfl)).1, (Row.two (box_at S5.out 2 rfl)).2⟩ (fun hS => ?_)
        clear hK K
        try simp only [Act.put, List.setIfInBounds_toArray, List.set_cons_zero, List.set_cons_succ]
        refine Reg.take_op (i := 11) (v := ?_) rfl (by kernel_rfl) (by kernel_rfl) (by kernel_rfl) (fun _ _ _ h => h) (by rfl) ?_ (by assumption) ?_
        rotate_left
        · (intro w hSw; (try dsimp only at hSw); go_simp; try with_reducible rfl)
        try simp only [Act.put, List.setIfInBounds_toArray, List.set_cons_zero, List.set_cons_succ]
        refine Reg.one_op (i := 12) rfl (by kernel_rfl) (fun K hK => ?_)
        go_simp
        obtain ⟨z0, z1⟩ := Row.two (box_at S5.out 3 rfl)
        have z2 := (box_at S5.out 3 rfl).free 0
        have z3 := (box_at S5.out 3 rfl).free 1
        have S6 := Lib.hid (put_two (x' := .bool true) (y' := .int .i64 (max x y)) S5.out 3 rfl)
        go_simp
        refine hK.out _ _ ⟨(Row.two (box_at S6.out 1 rfl)).1, (Row.two (box_at S6.out 1 rfl)).2, (Row.two (box_at S6.out 2 rfl)).1, (Row.two (box_at S6.out 2 rfl)).2⟩ (fun hS => ?_)
        clear hK K
        try simp only [Act.put, List.setIfInBounds_toArray, List.set_cons_zero, List.set_cons_succ]
        refine wpAnyH_done (by kernel_rfl) ?_ _
        obtain ⟨y0, y1⟩ := Row.two (box_at S6.out 3 rfl)
        go_wp2_with fail
        refine bodyPost_ret (v := .agg #[.bool true, .int .i64 (max x y)]) (by simp [results, Try.results52, go_sem, y0, y1]) rfl ?_
        rw [HE.out]
        exact ⟨rfl, S6.out.old⟩
      · -- o true f true h true
        have hneg1 : (x == n) = false := by rw [beq_eq_false_iff_ne]; exact fun e => HN1.out ⟨e, rfl⟩
        have hneg2 : (y == n) = false := by rw [beq_eq_false_iff_ne]; exact fun e => HN2.out ⟨e, rfl⟩
        have hx := 0
        go_upto_region 5 with fail
        clear b0 b1 z0 z1 z2 z3 hneg1 hneg2 hx
        refine wp_region_held_drew (S := (fun w' => w'.cell? ⟨w.heap.size + 1, 0, none⟩ = some (.bool true) ∧ w'.cell? ⟨w.heap.size + 1, 1, none⟩ = some (.int .i64 x) ∧ w'.cell? ⟨w.heap.size + 1 + 1, 0, none⟩ = some (.bool true) ∧ w'.cell? ⟨w.heap.size + 1 + 1, 1, none⟩ = some (.int .i64 y))) (by kernel_rfl) ⟨a0, a1, c0, c1⟩ (fun hS => ?_)
        refine Reg.take_op (i := 0) (v := ?_) rfl (by kernel_rfl) (by kernel_rfl) (by kernel_rfl) (fun _ _ _ h => h) (by rfl) ?_ (by assumption) ?_
        rotate_left
        · (intro w hSw; (try dsimp only at hSw); go_simp; try with_reducible rfl)
        try simp only [Act.put, List.setIfInBounds_toArray, List.set_cons_zero, List.set_cons_succ]
        refine Reg.take_op (i := 1) (v := ?_) rfl (by kernel_rfl) (by kernel_rfl) (by kernel_rfl) (fun _ _ _ h => h) (by rfl) ?_ (by assumption) ?_
        rotate_left
        · (intro w hSw; (try dsimp only at hSw); go_simp; try with_reducible rfl)
        try simp only [Act.put, List.setIfInBounds_toArray, List.set_cons_zero, List.set_cons_succ]
        refine Reg.take_op (i := 2) (v := ?_) rfl (by kernel_rfl) (by kernel_rfl) (by kernel_rfl) (fun _ _ _ h => h) (by rfl) ?_ (by assumption) ?_
        rotate_left
        · (intro w hSw; (try dsimp only at hSw); go_simp; try with_reducible rfl)
        try simp only [Act.put, List.setIfInBounds_toArray, List.set_cons_zero, List.set_cons_succ]
        refine Reg.skip_op (i := 3) rfl (by kernel_rfl) (by kernel_rfl) (by kernel_rfl) (fun _ _ _ h => h) (by rfl) (by assumption) ?_
        try simp only [Act.put, List.setIfInBounds_toArray, List.set_cons_zero, List.set_cons_succ]
        refine Reg.skip_op (i := 4) rfl (by kernel_rfl) (by kernel_rfl) (by kernel_rfl) (fun _ _ _ h => h) (by rfl) (by assumption) ?_
        try simp only [Act.put, List.setIfInBounds_toArray, List.set_cons_zero, List.set_cons_succ]
        refine Reg.take_op (i := 5) (v := ?_) rfl (by kernel_rfl) (by kernel_rfl) (by kernel_rfl) (fun _ _ _ h => h) (by rfl) ?_ (by assumption) ?_
        rotate_left
        · (intro w hSw; (try dsimp only at hSw); go_simp; try with_reducible rfl)
        try simp only [Act.put, List.setIfInBounds_toArray, List.set_cons_zero, List.set_cons_succ]
        refine Reg.take_op (i := 6) (v := ?_) rfl (by kernel_rfl) (by kernel_rfl) (by kernel_rfl) (fun _ _ _ h => h) (by rfl) ?_ (by assumption) ?_
        rotate_left
        · (intro w hSw; (try dsimp only at hSw); go_simp; try with_reducible rfl)
        try simp only [Act.put, List.setIfInBounds_toArray, List.set_cons_zero, List.set_cons_succ]
        refine Reg.take_op (i := 7) (v := ?_) rfl (by kernel_rfl) (by kernel_rfl) (by kernel_rfl) (fun _ _ _ h => h) (by rfl) ?_ (by assumption) ?_
        rotate_left
        · (intro w hSw; (try dsimp only at hSw); go_simp; try with_reducible rfl)
        try simp only [Act.put, List.setIfInBounds_toArray, List.set_cons_zero, List.set_cons_succ]
        refine Reg.take_op (i := 8) (v := ?_) rfl (by kernel_rfl) (by kernel_rfl) (by kernel_rfl) (fun _ _ _ h => h) (by rfl) ?_ (by assumption) ?_
        rotate_left
        · (intro w hSw; (try dsimp only at hSw); go_simp; try with_reducible rfl)
        try simp only [Act.put, List.setIfInBounds_toArray, List.set_cons_zero, List.set_cons_succ]
        refine Reg.take_op (i := 9) (v := ?_) rfl (by kernel_rfl) (by kernel_rfl) (by kernel_rfl) (fun _ _ _ h => h) (by rfl) ?_ (by assumption) ?_
        rotate_left
        · (intro w hSw; (try dsimp only at hSw); go_simp; try with_reducible rfl)
        try simp only [Act.put, List.setIfInBounds_toArray, List.set_cons_zero, List.set_cons_succ]
        refine Reg.one_op (i := 10) rfl (by kernel_rfl) (fun K hK => ?_)
        go_simp
        go_at_call 73
        refine (HM.out _).mono ?_
        rintro e w5 ⟨rfl, h5⟩
        have S5 := Lib.hid ((S4.out.drews 1).keep h5)
        clear h5
        go_wp2_with fail
        refine hK.out _ _ ⟨(Row.two (box_at S5.out 1 rfl)).1, (Row.two (box_at S5.out 1 rfl)).2, (Row.two (box_at S5.out 2 rfl)).1, (Row.two (box_at S5.out 2 rfl)).2⟩ (fun hS => ?_)
        clear hK K
        try simp only [Act.put, List.setIfInBounds_toArray, List.set_cons_zero, List.set_cons_succ]
        refine Reg.take_op (i := 11) (v := ?_) rfl (by kernel_rfl) (by kernel_rfl) (by kernel_rfl) (fun _ _ _ h => h) (by rfl) ?_ (by assumption) ?_
        rotate_left
        · (intro w hSw; (try dsimp only at hSw); go_simp; try with_reducible rfl)
        try simp only [Act.put, List.setIfInBounds_toArray, List.set_cons_zero, List.set_cons_succ]
        refine Reg.one_op (i := 12) rfl (by kernel_rfl) (fun K hK => ?_)
        go_simp
        obtain ⟨z0, z1⟩ := Row.two (box_at S5.out 3 rfl)
        have z2 := (box_at S5.out 3 rfl).free 0
        have z3 := (box_at S5.out 3 rfl).free 1
        have S6 := Lib.hid (put_two (x' := .bool true) (y' := .int .i64 (max x y)) S5.out 3 rfl)
        go_simp
        refine hK.out _ _ ⟨(Row.two (box_at S6.out 1 rfl)).1, (Row.two (box_at S6.out 1 rfl)).2, (Row.two (box_at S6.out 2 rfl)).1, (Row.two (box_at S6.out 2 rfl)).2⟩ (fun hS => ?_)
        clear hK K
        try simp only [Act.put, List.setIfInBounds_toArray, List.set_cons_zero, List.set_cons_succ]
        refine wpAnyH_done (by kernel_rfl) ?_ _
        obtain ⟨y0, y1⟩ := Row.two (box_at S6.out 3 rfl)
        go_wp2_with fail
        refine bodyPost_ret (v := .agg #[.bool true, .int .i64 (max x y)]) (by simp [results, Try.results52, go_sem, y0, y1]) rfl ?_
        rw [HE.out]
        exact ⟨rfl, S6.out.old⟩
end Go.Proofs.Ytephiilicebdcaa.L5
